/- Joined: RmD. -/
import Derived.Test.YtpggfhmnhbnefaaGreatDoorBd21
import Derived.Test.YtpggfhmnhbnefaaGreatDoorBd07
set_option linter.unusedVariables false
set_option linter.unusedSimpArgs false
namespace Go.Proofs.YtpggfhmnhbnefaaGreatDoor
open Go.RowKit Go.Sort
namespace Am
def unit (k : Nat) : Int := if k = 0 then 3600 else if k = 1 then 60 else 1
def go : List (List UInt8) → Nat → Int → Bool → Int × Int
 | [], _, sum, fits => if fits = false ∨ 604800 ≤ sum then (0, 1) else (sum, 0)
 | x :: r, k, sum, fits => if ptB x (if k = 0 then 1 else 2) (if k = 0 then 3 else 2) then go r (k + 1) (sum + (Num.val 0 x : Int) * unit k) (fits && (decide (k = 0) || decide ((Num.val 0 x : Int) ≤ 59))) else (0, 2)
theorem ptB_dig {l : List UInt8} {lo hi : Int} (h : ptB l lo hi = true) : l.all Num.dig = true ∧ (l.length : Int) ≤ hi := by
 unfold ptB at h
 rw [Bool.and_eq_true, Bool.and_eq_true, decide_eq_true_eq, decide_eq_true_eq] at h
 have := h.2.2
 unfold Num.dgs at this
 rw [Bool.and_eq_true] at this
 exact ⟨this.1, h.2.1⟩
theorem ptB_bd {l : List UInt8} {lo hi : Int} (h : ptB l lo hi = true) (h3 : hi ≤ 3) : 0 ≤ (Num.val 0 l : Int) ∧ (Num.val 0 l : Int) ≤ 999 := by
 obtain ⟨a, b⟩ := ptB_dig h
 have := ab_val_bd (k := 3) a (by omega)
 have e : (10 : Nat) ^ 3 = 1000 := by decide
 omega
theorem len_dec (n : Nat) (a b : Nat) : decide (a ≤ n ∧ n ≤ b) = (decide ((a : Int) ≤ (n : Int)) && decide ((n : Int) ≤ (b : Int))) := by
 rw [← Bool.decide_and]; exact decide_eq_decide.2 (by omega)
theorem pt_aux (D A B E : Bool) (h : A = true → E = true) : (D && (A && B)) = (A && (B && (D && E))) := by
 cases D <;> cases A <;> cases B <;> cases E <;> simp_all
theorem isP_pt0 (l : List UInt8) : isP 0 l = ptB l 1 3 := by
 unfold isP ptB Num.dgs
 rw [if_pos rfl, len_dec l.length 1 3]
 refine pt_aux _ _ _ _ fun h => ?_
 cases l with
 | nil => exact absurd h (by decide)
 | cons c r => rfl
theorem isP_pt1 (l : List UInt8) : isP 1 l = ptB l 2 2 := by
 unfold isP ptB Num.dgs
 rw [if_neg (by decide), show decide (l.length = 2) = decide (2 ≤ l.length ∧ l.length ≤ 2) from decide_eq_decide.2 (by omega), len_dec l.length 2 2]
 refine pt_aux _ _ _ _ fun h => ?_
 cases l with
 | nil => exact absurd h (by decide)
 | cons c r => rfl
theorem isP_pt2 (l : List UInt8) : isP 2 l = ptB l 2 2 := isP_pt1 l
theorem go_fin3 (P : List (List UInt8)) (h : P.length ≤ 3) (h1 : 1 ≤ P.length) : go P 0 0 true = fin3 P := by
 match P, h, h1 with
 | [a], _, _ =>
  show (if ptB a 1 3 = true then (if (true && (true || _)) = false ∨ 604800 ≤ 0 + (Num.val 0 a : Int) * 3600 then ((0 : Int), (1 : Int)) else (0 + (Num.val 0 a : Int) * 3600, 0)) else (0, 2)) = if isP 0 a = true then _ else _
  rw [isP_pt0]
  cases ptB a 1 3
  ·
   rfl
  ·
   rw [if_pos rfl, if_pos rfl, Int.zero_add]
   by_cases c : (Num.val 0 a : Int) * 3600 ≤ 604799
   ·
    rw [if_pos c, if_neg (by simp; omega)]
   ·
    rw [if_neg c, if_pos (.inr (by omega))]
 | [a, b], _, _ =>
  show (if ptB a 1 3 = true then (if ptB b 2 2 = true then (if ((true && (true || _)) && (false || decide ((Num.val 0 b : Int) ≤ 59))) = false ∨ 604800 ≤ 0 + (Num.val 0 a : Int) * 3600 + (Num.val 0 b : Int) * 60 then ((0 : Int), (1 : Int)) else (0 + (Num.val 0 a : Int) * 3600 + (Num.val 0 b : Int) * 60, 0)) else (0, 2)) else (0, 2)) = if (isP 0 a && isP 1 b) = true then _ else _
  rw [isP_pt0, isP_pt1]
  cases ptB a 1 3
  ·
   rfl
  ·
   cases ptB b 2 2
   ·
    rfl
   ·
    rw [if_pos rfl, if_pos rfl, if_pos (show (true && true) = true from rfl), Int.zero_add]
    by_cases c : (Num.val 0 b : Int) ≤ 59 ∧ (Num.val 0 a : Int) * 3600 + (Num.val 0 b : Int) * 60 ≤ 604799
    ·
     rw [if_pos c, if_neg (by simp; omega)]
    ·
     rw [if_neg c, if_pos (by simp; omega)]
 | [a, b, d], _, _ =>
  show (if ptB a 1 3 = true then (if ptB b 2 2 = true then (if ptB d 2 2 = true then (if (((true && (true || _)) && (false || decide ((Num.val 0 b : Int) ≤ 59))) && (false || decide ((Num.val 0 d : Int) ≤ 59))) = false ∨ 604800 ≤ 0 + (Num.val 0 a : Int) * 3600 + (Num.val 0 b : Int) * 60 + (Num.val 0 d : Int) * 1 then ((0 : Int), (1 : Int)) else (0 + (Num.val 0 a : Int) * 3600 + (Num.val 0 b : Int) * 60 + (Num.val 0 d : Int) * 1, 0)) else (0, 2)) else (0, 2)) else (0, 2)) = if (isP 0 a && (isP 1 b && isP 2 d)) = true then _ else _
  rw [isP_pt0, isP_pt1, isP_pt2]
  cases ptB a 1 3
  ·
   rfl
  ·
   cases ptB b 2 2
   ·
    rfl
   ·
    cases ptB d 2 2
    ·
     rfl
    ·
     rw [if_pos rfl, if_pos rfl, if_pos rfl, if_pos (show (true && (true && true)) = true from rfl), Int.zero_add, Int.mul_one]
     by_cases c : (Num.val 0 b : Int) ≤ 59 ∧ (Num.val 0 d : Int) ≤ 59 ∧ (Num.val 0 a : Int) * 3600 + (Num.val 0 b : Int) * 60 + (Num.val 0 d : Int) ≤ 604799
     ·
      rw [if_pos c, if_neg (by simp; omega)]
     ·
      rw [if_neg c, if_pos (by simp; omega)]
theorem fin3_far (P : List (List UInt8)) (h : ¬ P.length ≤ 3) : fin3 P = (0, 2) := by
 match P, h with
 | [], _ => rfl
 | [a], h => exact absurd (by simp) h
 | [a, b], h => exact absurd (by simp) h
 | [a, b, c], h => exact absurd (by simp) h
 | a :: b :: c :: d :: r, _ => rfl
theorem rest_size_aux : ∀ (l cur : List UInt8), ∀ x ∈ rest cur l, x.length ≤ cur.length + l.length := by
 intro l
 induction l with
 | nil => intro cur x hx; simp [rest] at hx; subst hx; simp
 | cons c r ih =>
  intro cur x hx
  rw [rest] at hx
  split at hx
  ·
   rcases List.mem_cons.1 hx with rfl | hx
   ·
    omega
   ·
    have := ih [] x hx; simp only [List.length_nil, List.length_cons] at this ⊢; omega
  ·
   have := ih _ x hx; simp only [List.length_append, List.length_cons, List.length_nil] at this ⊢; omega
theorem rest_size {l : List UInt8} (x : List UInt8) (hx : x ∈ rest [] l) : x.length ≤ l.length := by
 have := rest_size_aux l [] x hx
 simpa using this
end Am
set_option maxHeartbeats 4000000 in
set_option maxRecDepth 100000 in
theorem rmread_y (s d : ByteArray) (c : Int) (w : World) (ls : 0 < (s.size : Int)) (ld : (d.size : Int) + 1 = (s.size : Int)) (IX : ∀ W, Sem.run Tryz.prog (Instr.index 9 (.string s) (.int .i64 0)) W = .ok (.int .u8 c) W) (hc : (c == 45) = true) (sl : ∀ W, Sem.run Tryz.prog (Instr.slice 9 (.string s) (some (.int .i64 1)) none none) W = .ok (.string d) W) (hs : (s.toList == [45]) = false) (hm : d.size ≤ 600) :
  Calls Tryz.prog 63 #[.string s] w fun e w' => e = .returned (.tuple #[.int .i64 (-(Am.fin3 (Am.rest [] d.data.toList)).1), .int .i64 (Am.fin3 (Am.rest [] d.data.toList)).2]) ∧ Below w.heap.size w w' := by
 have CU := Lib.hid (fun W => rcut_any d W hm)
 have PL := Am.rest_len d.data.toList []
 have PB : Hid (∀ x ∈ Am.rest [] d.data.toList, x.length ≤ maxLen) := Lib.hid (fun x hx => by
  have := Am.rest_size x hx
  rw [Num.rn_len] at this
  unfold maxLen; omega)
 generalize Am.rest [] d.data.toList = P at *
 obtain ⟨R1, hR1⟩ : ∃ R1 : Int, R1 = (-(Am.fin3 P).1) := ⟨_, rfl⟩
 obtain ⟨R2, hR2⟩ : ∃ R2 : Int, R2 = (Am.fin3 P).2 := ⟨_, rfl⟩
 rw [← hR1, ← hR2]
 have HR := Lib.hid (And.intro hR1 hR2)
 clear hR1 hR2
 by_cases h3 : P.length ≤ 3
 ·
  have HG := Lib.hid (Am.go_fin3 P h3 PL)
  go_enter Tryz.func63, Tryz.ntmps63
  go_wp2_with fail
  refine (CU.out _).mono ?_; rintro e w1 ⟨v, l, SV, hP, rfl, b1⟩
  have ln : l.length = P.length := by rw [← hP, List.length_map]
  have hB1 := Lib.hid b1
  have HS := Lib.hid SV
  have HP := Lib.hid hP
  obtain ⟨A, cp, rfl, -⟩ := SV
  have l3 : (l.length : Int) ≤ 3 := by omega
  have HZ : Hid (∀ x ∈ l, x.size ≤ maxLen) := Lib.hid (fun x hx => by
   have := PB.out x.data.toList (by rw [← hP]; exact List.mem_map_of_mem hx)
   rw [Num.rn_len] at this; exact this)
  clear b1 hP PB PL h3
  generalize hN : l.length = N at *
  have HN := Lib.hid hN
  clear hN ln
  go_wp2_with fail
  go_loopw [6, 7, 35] (fun sm ft i wr => ∃ (k : Nat) (z : Int) (b : Bool), k ≤ N ∧ i = .int .i64 k ∧ sm = .int .i64 z ∧ ft = .bool b ∧ 0 ≤ z ∧ z ≤ 4000000 * k ∧ Hid (Am.go ((l.map (·.data.toList)).drop k) k z b = Am.fin3 P) ∧ Hid (Below w1.heap.size w1 wr)) (fun _ _ i _ => N - (intOf i).toNat)
  case atStart => exact ⟨0, 0, true, Nat.zero_le _, rfl, rfl, rfl, by omega, by omega, by rw [HP.out]; exact HG.out, Below.refl _ _⟩
  case round =>
   obtain ⟨k, z, b, hk, rfl, rfl, rfl, z0, z1, hr, hbw⟩ := hrel
   have BB := Lib.hid (below_step hB1.out hbw.out)
   by_cases hlt : k < N
   ·
    obtain ⟨a, hA, g1⟩ := (HS.out.on hbw.out).get k (by rw [HN.out]; exact hlt)
    subst hA
    have CP := Lib.hid (fun lo hi W h => rpart_any (l[k]'(by rw [HN.out]; exact hlt)) lo hi W (HZ.out _ (List.getElem_mem _)) h)
    have hd : (l.map (·.data.toList)).drop k = (l[k]'(by rw [HN.out]; exact hlt)).data.toList :: (l.map (·.data.toList)).drop (k + 1) := by
     rw [List.drop_eq_getElem_cons (by rw [List.length_map, HN.out]; exact hlt), List.getElem_map]
    have hr := hr.out
    rw [hd, Am.go] at hr
    have hbd1 := @Am.ptB_bd (l[k]'(by rw [HN.out]; exact hlt)).data.toList
    have ablt : a.block < wr.heap.size := by
     have := World.block_lt_of_cell? _ _ g1
     rwa [blk_add] at this
    generalize hx : (l[k]'(by rw [HN.out]; exact hlt)) = x at g1 CP hr hbd1
    clear hd hx HS HZ
    obtain rfl | rfl | rfl : k = 0 ∨ k = 1 ∨ k = 2 := by omega
    ·
     have CP : Hid (∀ W, Calls Tryz.prog 117 #[.string x, .int .i64 1, .int .i64 3] W fun e w' => e = .returned (.tuple #[.int .i64 (Am.ptV x.data.toList 1 3), .bool (Am.ptB x.data.toList 1 3)]) ∧ W = w') := fun W => CP.out 1 3 W (by decide)
     have hr : (if Am.ptB x.data.toList 1 3 = true then Am.go ((l.map (·.data.toList)).drop 1) 1 (z + (Num.val 0 x.data.toList : Int) * 3600) (b && (true || decide ((Num.val 0 x.data.toList : Int) ≤ 59))) else (0, 2)) = Am.fin3 P := hr
     have g2 : wr.cell? a = some (.string x) := by have h := g1; rw [Addr.add_zero'] at h; exact h
     clear g1
     have hbd  := @hbd1 1 3
     clear hbd1
     cases hp : Am.ptB x.data.toList 1 3
     ·
      have hv : Am.ptV x.data.toList 1 3 = 0 := by unfold Am.ptV; rw [hp]; rfl
      rw [hp] at hr CP
      rw [hv] at CP
      have HF := Lib.hid (show Am.fin3 P = (0, 2) by rw [← hr]; rfl)
      clear hr hp hv hbd
      go_wp2_with fail
      refine (CP.out _).mono ?_; rintro e w3 ⟨rfl, rfl⟩
      go_wp2_with fail
      go_ret2
      exact ⟨by rw [HR.out.1, HR.out.2, HF.out]; rfl, BB.out⟩
     ·
      have hv : Am.ptV x.data.toList 1 3 = (Num.val 0 x.data.toList : Int) := by unfold Am.ptV; rw [hp]; rfl
      obtain ⟨v0, v1⟩ := hbd hp (by decide)
      rw [hp] at hr CP
      rw [hv] at CP
      rw [if_pos rfl] at hr
      clear hp hv hbd
      generalize (Num.val 0 x.data.toList : Int) = n at hr CP v0 v1
      cases b
      ·
       skip
       have HG2 := Lib.hid (show Am.go ((l.map (·.data.toList)).drop 1) 1 (z + n * 3600) false = Am.fin3 P from by rw [← hr]; simp)
       clear hr
       have b9 : Below w1.heap.size w1 (wr.alloc (.cells #[.int .i64 3600, .int .i64 60, .int .i64 1] 2)) := hbw.out.alloc hbw.out.size _
       have HB9 := Lib.hid b9
       clear b9
       go_wp2_with fail
       refine (CP.out _).mono ?_; rintro e w3 ⟨rfl, rfl⟩
       go_wp2_with fail
       go_roundw
       case rel => exact ⟨1, z + n * 3600, false, by omega, by go_num, by first | rfl | (congr 1; omega), by first | rfl | (rw [GN.out]), by omega, by omega, HG2.out, HB9.out⟩
       case measure => simp [intOf]; omega
      ·
       skip
       have HG2 := Lib.hid (show Am.go ((l.map (·.data.toList)).drop 1) 1 (z + n * 3600) true = Am.fin3 P from by rw [← hr]; simp)
       clear hr
       have b9 : Below w1.heap.size w1 (wr.alloc (.cells #[.int .i64 3600, .int .i64 60, .int .i64 1] 2)) := hbw.out.alloc hbw.out.size _
       have HB9 := Lib.hid b9
       clear b9
       go_wp2_with fail
       refine (CP.out _).mono ?_; rintro e w3 ⟨rfl, rfl⟩
       go_wp2_with fail
       go_roundw
       case rel => exact ⟨1, z + n * 3600, true, by omega, by go_num, by first | rfl | (congr 1; omega), by first | rfl | (rw [GN.out]), by omega, by omega, HG2.out, HB9.out⟩
       case measure => simp [intOf]; omega
    ·
     have CP : Hid (∀ W, Calls Tryz.prog 117 #[.string x, .int .i64 2, .int .i64 2] W fun e w' => e = .returned (.tuple #[.int .i64 (Am.ptV x.data.toList 2 2), .bool (Am.ptB x.data.toList 2 2)]) ∧ W = w') := fun W => CP.out 2 2 W (by decide)
     have hr : (if Am.ptB x.data.toList 2 2 = true then Am.go ((l.map (·.data.toList)).drop 2) 2 (z + (Num.val 0 x.data.toList : Int) * 60) (b && (false || decide ((Num.val 0 x.data.toList : Int) ≤ 59))) else (0, 2)) = Am.fin3 P := hr
     have g2 : wr.cell? ⟨a.block, a.off + 1, none⟩ = some (.string x) := by have h := g1; rw [Addr.add_succ'] at h; exact h
     clear g1
     have hbd  := @hbd1 2 2
     clear hbd1
     cases hp : Am.ptB x.data.toList 2 2
     ·
      have hv : Am.ptV x.data.toList 2 2 = 0 := by unfold Am.ptV; rw [hp]; rfl
      rw [hp] at hr CP
      rw [hv] at CP
      have HF := Lib.hid (show Am.fin3 P = (0, 2) by rw [← hr]; rfl)
      clear hr hp hv hbd
      go_wp2_with fail
      refine (CP.out _).mono ?_; rintro e w3 ⟨rfl, rfl⟩
      go_wp2_with fail
      go_ret2
      exact ⟨by rw [HR.out.1, HR.out.2, HF.out]; rfl, BB.out⟩
     ·
      have hv : Am.ptV x.data.toList 2 2 = (Num.val 0 x.data.toList : Int) := by unfold Am.ptV; rw [hp]; rfl
      obtain ⟨v0, v1⟩ := hbd hp (by decide)
      rw [hp] at hr CP
      rw [hv] at CP
      rw [if_pos rfl] at hr
      clear hp hv hbd
      generalize (Num.val 0 x.data.toList : Int) = n at hr CP v0 v1
      cases b
      ·
       have hn : True := trivial
       have HG2 := Lib.hid (show Am.go ((l.map (·.data.toList)).drop 2) 2 (z + n * 60) false = Am.fin3 P from by rw [← hr]; simp [hn])
       clear hr
       have b9 : Below w1.heap.size w1 (wr.alloc (.cells #[.int .i64 3600, .int .i64 60, .int .i64 1] 2)) := hbw.out.alloc hbw.out.size _
       have HB9 := Lib.hid b9
       clear b9
       go_wp2_with fail
       refine (CP.out _).mono ?_; rintro e w3 ⟨rfl, rfl⟩
       go_wp2_with fail
       go_roundw
       case rel => exact ⟨2, z + n * 60, false, by omega, by go_num, by first | rfl | (congr 1; omega), by first | rfl | (rw [GN.out]), by omega, by omega, HG2.out, HB9.out⟩
       case measure => simp [intOf]; omega
      ·
       by_cases hn : n ≤ 59
       ·
        skip
        have HG2 := Lib.hid (show Am.go ((l.map (·.data.toList)).drop 2) 2 (z + n * 60) true = Am.fin3 P from by rw [← hr]; simp [hn])
        clear hr
        have b9 : Below w1.heap.size w1 (wr.alloc (.cells #[.int .i64 3600, .int .i64 60, .int .i64 1] 2)) := hbw.out.alloc hbw.out.size _
        have HB9 := Lib.hid b9
        clear b9
        go_wp2_with fail
        refine (CP.out _).mono ?_; rintro e w3 ⟨rfl, rfl⟩
        go_wp2_with fail
        go_roundw
        case rel => exact ⟨2, z + n * 60, true, by omega, by go_num, by first | rfl | (congr 1; omega), by first | rfl | (rw [GN.out]), by omega, by omega, HG2.out, HB9.out⟩
        case measure => simp [intOf]; omega
       ·
        have GN : Hid (decide (n ≤ 59) = false) := decide_eq_false hn
        have HG2 := Lib.hid (show Am.go ((l.map (·.data.toList)).drop 2) 2 (z + n * 60) false = Am.fin3 P from by rw [← hr]; simp [hn])
        clear hr
        have b9 : Below w1.heap.size w1 (wr.alloc (.cells #[.int .i64 3600, .int .i64 60, .int .i64 1] 2)) := hbw.out.alloc hbw.out.size _
        have HB9 := Lib.hid b9
        clear b9
        go_wp2_with fail
        refine (CP.out _).mono ?_; rintro e w3 ⟨rfl, rfl⟩
        go_wp2_with fail
        go_roundw
        case rel => exact ⟨2, z + n * 60, false, by omega, by go_num, by first | rfl | (congr 1; omega), by first | rfl | (rw [GN.out]), by omega, by omega, HG2.out, HB9.out⟩
        case measure => simp [intOf]; omega
    ·
     have CP : Hid (∀ W, Calls Tryz.prog 117 #[.string x, .int .i64 2, .int .i64 2] W fun e w' => e = .returned (.tuple #[.int .i64 (Am.ptV x.data.toList 2 2), .bool (Am.ptB x.data.toList 2 2)]) ∧ W = w') := fun W => CP.out 2 2 W (by decide)
     have hr : (if Am.ptB x.data.toList 2 2 = true then Am.go ((l.map (·.data.toList)).drop 3) 3 (z + (Num.val 0 x.data.toList : Int) * 1) (b && (false || decide ((Num.val 0 x.data.toList : Int) ≤ 59))) else (0, 2)) = Am.fin3 P := hr
     have g2 : wr.cell? ⟨a.block, a.off + 2, none⟩ = some (.string x) := by have h := g1; rw [Addr.add_succ'] at h; exact h
     clear g1
     have hbd  := @hbd1 2 2
     clear hbd1
     cases hp : Am.ptB x.data.toList 2 2
     ·
      have hv : Am.ptV x.data.toList 2 2 = 0 := by unfold Am.ptV; rw [hp]; rfl
      rw [hp] at hr CP
      rw [hv] at CP
      have HF := Lib.hid (show Am.fin3 P = (0, 2) by rw [← hr]; rfl)
      clear hr hp hv hbd
      go_wp2_with fail
      refine (CP.out _).mono ?_; rintro e w3 ⟨rfl, rfl⟩
      go_wp2_with fail
      go_ret2
      exact ⟨by rw [HR.out.1, HR.out.2, HF.out]; rfl, BB.out⟩
     ·
      have hv : Am.ptV x.data.toList 2 2 = (Num.val 0 x.data.toList : Int) := by unfold Am.ptV; rw [hp]; rfl
      obtain ⟨v0, v1⟩ := hbd hp (by decide)
      rw [hp] at hr CP
      rw [hv] at CP
      rw [if_pos rfl] at hr
      clear hp hv hbd
      generalize (Num.val 0 x.data.toList : Int) = n at hr CP v0 v1
      cases b
      ·
       have hn : True := trivial
       have HG2 := Lib.hid (show Am.go ((l.map (·.data.toList)).drop 3) 3 (z + n * 1) false = Am.fin3 P from by rw [← hr]; simp [hn])
       clear hr
       have b9 : Below w1.heap.size w1 (wr.alloc (.cells #[.int .i64 3600, .int .i64 60, .int .i64 1] 2)) := hbw.out.alloc hbw.out.size _
       have HB9 := Lib.hid b9
       clear b9
       go_wp2_with fail
       refine (CP.out _).mono ?_; rintro e w3 ⟨rfl, rfl⟩
       go_wp2_with fail
       go_roundw
       case rel => exact ⟨3, z + n * 1, false, by omega, by go_num, by first | rfl | (congr 1; omega), by first | rfl | (rw [GN.out]), by omega, by omega, HG2.out, HB9.out⟩
       case measure => simp [intOf]; omega
      ·
       by_cases hn : n ≤ 59
       ·
        skip
        have HG2 := Lib.hid (show Am.go ((l.map (·.data.toList)).drop 3) 3 (z + n * 1) true = Am.fin3 P from by rw [← hr]; simp [hn])
        clear hr
        have b9 : Below w1.heap.size w1 (wr.alloc (.cells #[.int .i64 3600, .int .i64 60, .int .i64 1] 2)) := hbw.out.alloc hbw.out.size _
        have HB9 := Lib.hid b9
        clear b9
        go_wp2_with fail
        refine (CP.out _).mono ?_; rintro e w3 ⟨rfl, rfl⟩
        go_wp2_with fail
        go_roundw
        case rel => exact ⟨3, z + n * 1, true, by omega, by go_num, by first | rfl | (congr 1; omega), by first | rfl | (rw [GN.out]), by omega, by omega, HG2.out, HB9.out⟩
        case measure => simp [intOf]; omega
       ·
        have GN : Hid (decide (n ≤ 59) = false) := decide_eq_false hn
        have HG2 := Lib.hid (show Am.go ((l.map (·.data.toList)).drop 3) 3 (z + n * 1) false = Am.fin3 P from by rw [← hr]; simp [hn])
        clear hr
        have b9 : Below w1.heap.size w1 (wr.alloc (.cells #[.int .i64 3600, .int .i64 60, .int .i64 1] 2)) := hbw.out.alloc hbw.out.size _
        have HB9 := Lib.hid b9
        clear b9
        go_wp2_with fail
        refine (CP.out _).mono ?_; rintro e w3 ⟨rfl, rfl⟩
        go_wp2_with fail
        go_roundw
        case rel => exact ⟨3, z + n * 1, false, by omega, by go_num, by first | rfl | (congr 1; omega), by first | rfl | (rw [GN.out]), by omega, by omega, HG2.out, HB9.out⟩
        case measure => simp [intOf]; omega
   ·
    have hr2 : Am.go [] k z b = Am.fin3 P := by
     rw [← hr.out, List.drop_of_length_le (by rw [List.length_map, HN.out]; omega)]
    have hr3 : (if b = false ∨ 604800 ≤ z then ((0 : Int), (1 : Int)) else (z, 0)) = Am.fin3 P := hr2
    have HF := Lib.hid hr3
    clear hr hr2 hr3 HS HZ CU HG HP
    have zz : z ≤ 100000000 := by omega
    cases b
    ·
     have HE := Lib.hid (show Am.fin3 P = (0, 1) by rw [← HF.out]; rfl)
     clear HF
     go_wp2_with fail
     go_ret2
     exact ⟨by rw [HR.out.1, HR.out.2, HE.out]; rfl, BB.out⟩
    ·
     by_cases hz : 604800 ≤ z
     ·
      have HE := Lib.hid (show Am.fin3 P = (0, 1) by rw [← HF.out, if_pos (.inr hz)])
      clear HF
      go_wp2_with fail
      go_ret2
      exact ⟨by rw [HR.out.1, HR.out.2, HE.out]; rfl, BB.out⟩
     ·
      have HE := Lib.hid (show Am.fin3 P = (z, 0) by rw [← HF.out, if_neg (by simp; omega)])
      clear HF
      go_wp2_with fail
      go_ret2
      exact ⟨by rw [HR.out.1, HR.out.2, HE.out]; rfl, BB.out⟩
 ·
  have HF := Lib.hid (Am.fin3_far P h3)
  go_enter Tryz.func63, Tryz.ntmps63
  go_wp2_with fail
  refine (CU.out _).mono ?_; rintro e w1 ⟨v, l, SV, hP, rfl, b1⟩
  have hB1 := Lib.hid b1
  have l3 : (3 : Int) < (l.length : Int) := by
   have : l.length = P.length := by rw [← hP, List.length_map]
   omega
  obtain ⟨A, cp, rfl, -⟩ := SV
  clear b1 hP h3 CU
  go_wp2_with fail
  go_ret2
  exact ⟨by rw [HR.out.1, HR.out.2, HF.out]; rfl, hB1.out⟩
set_option maxHeartbeats 4000000 in
set_option maxRecDepth 100000 in
theorem rmread_n (s : ByteArray) (c : Int) (w : World) (ls : 0 < (s.size : Int)) (IX : ∀ W, Sem.run Tryz.prog (Instr.index 9 (.string s) (.int .i64 0)) W = .ok (.int .u8 c) W) (hc : (c == 45) = false) (hs : (s.toList == [45]) = false) (hm : s.size ≤ 600) :
  Calls Tryz.prog 63 #[.string s] w fun e w' => e = .returned (.tuple #[.int .i64 (Am.fin3 (Am.rest [] s.data.toList)).1, .int .i64 (Am.fin3 (Am.rest [] s.data.toList)).2]) ∧ Below w.heap.size w w' := by
 have CU := Lib.hid (fun W => rcut_any s W hm)
 have PL := Am.rest_len s.data.toList []
 have PB : Hid (∀ x ∈ Am.rest [] s.data.toList, x.length ≤ maxLen) := Lib.hid (fun x hx => by
  have := Am.rest_size x hx
  rw [Num.rn_len] at this
  unfold maxLen; omega)
 generalize Am.rest [] s.data.toList = P at *
 obtain ⟨R1, hR1⟩ : ∃ R1 : Int, R1 = (Am.fin3 P).1 := ⟨_, rfl⟩
 obtain ⟨R2, hR2⟩ : ∃ R2 : Int, R2 = (Am.fin3 P).2 := ⟨_, rfl⟩
 rw [← hR1, ← hR2]
 have HR := Lib.hid (And.intro hR1 hR2)
 clear hR1 hR2
 by_cases h3 : P.length ≤ 3
 ·
  have HG := Lib.hid (Am.go_fin3 P h3 PL)
  go_enter Tryz.func63, Tryz.ntmps63
  go_wp2_with fail
  refine (CU.out _).mono ?_; rintro e w1 ⟨v, l, SV, hP, rfl, b1⟩
  have ln : l.length = P.length := by rw [← hP, List.length_map]
  have hB1 := Lib.hid b1
  have HS := Lib.hid SV
  have HP := Lib.hid hP
  obtain ⟨A, cp, rfl, -⟩ := SV
  have l3 : (l.length : Int) ≤ 3 := by omega
  have HZ : Hid (∀ x ∈ l, x.size ≤ maxLen) := Lib.hid (fun x hx => by
   have := PB.out x.data.toList (by rw [← hP]; exact List.mem_map_of_mem hx)
   rw [Num.rn_len] at this; exact this)
  clear b1 hP PB PL h3
  generalize hN : l.length = N at *
  have HN := Lib.hid hN
  clear hN ln
  go_wp2_with fail
  go_loopw [6, 7, 35] (fun sm ft i wr => ∃ (k : Nat) (z : Int) (b : Bool), k ≤ N ∧ i = .int .i64 k ∧ sm = .int .i64 z ∧ ft = .bool b ∧ 0 ≤ z ∧ z ≤ 4000000 * k ∧ Hid (Am.go ((l.map (·.data.toList)).drop k) k z b = Am.fin3 P) ∧ Hid (Below w1.heap.size w1 wr)) (fun _ _ i _ => N - (intOf i).toNat)
  case atStart => exact ⟨0, 0, true, Nat.zero_le _, rfl, rfl, rfl, by omega, by omega, by rw [HP.out]; exact HG.out, Below.refl _ _⟩
  case round =>
   obtain ⟨k, z, b, hk, rfl, rfl, rfl, z0, z1, hr, hbw⟩ := hrel
   have BB := Lib.hid (below_step hB1.out hbw.out)
   by_cases hlt : k < N
   ·
    obtain ⟨a, hA, g1⟩ := (HS.out.on hbw.out).get k (by rw [HN.out]; exact hlt)
    subst hA
    have CP := Lib.hid (fun lo hi W h => rpart_any (l[k]'(by rw [HN.out]; exact hlt)) lo hi W (HZ.out _ (List.getElem_mem _)) h)
    have hd : (l.map (·.data.toList)).drop k = (l[k]'(by rw [HN.out]; exact hlt)).data.toList :: (l.map (·.data.toList)).drop (k + 1) := by
     rw [List.drop_eq_getElem_cons (by rw [List.length_map, HN.out]; exact hlt), List.getElem_map]
    have hr := hr.out
    rw [hd, Am.go] at hr
    have hbd1 := @Am.ptB_bd (l[k]'(by rw [HN.out]; exact hlt)).data.toList
    have ablt : a.block < wr.heap.size := by
     have := World.block_lt_of_cell? _ _ g1
     rwa [blk_add] at this
    generalize hx : (l[k]'(by rw [HN.out]; exact hlt)) = x at g1 CP hr hbd1
    clear hd hx HS HZ
    obtain rfl | rfl | rfl : k = 0 ∨ k = 1 ∨ k = 2 := by omega
    ·
     have CP : Hid (∀ W, Calls Tryz.prog 117 #[.string x, .int .i64 1, .int .i64 3] W fun e w' => e = .returned (.tuple #[.int .i64 (Am.ptV x.data.toList 1 3), .bool (Am.ptB x.data.toList 1 3)]) ∧ W = w') := fun W => CP.out 1 3 W (by decide)
     have hr : (if Am.ptB x.data.toList 1 3 = true then Am.go ((l.map (·.data.toList)).drop 1) 1 (z + (Num.val 0 x.data.toList : Int) * 3600) (b && (true || decide ((Num.val 0 x.data.toList : Int) ≤ 59))) else (0, 2)) = Am.fin3 P := hr
     have g2 : wr.cell? a = some (.string x) := by have h := g1; rw [Addr.add_zero'] at h; exact h
     clear g1
     have hbd  := @hbd1 1 3
     clear hbd1
     cases hp : Am.ptB x.data.toList 1 3
     ·
      have hv : Am.ptV x.data.toList 1 3 = 0 := by unfold Am.ptV; rw [hp]; rfl
      rw [hp] at hr CP
      rw [hv] at CP
      have HF := Lib.hid (show Am.fin3 P = (0, 2) by rw [← hr]; rfl)
      clear hr hp hv hbd
      go_wp2_with fail
      refine (CP.out _).mono ?_; rintro e w3 ⟨rfl, rfl⟩
      go_wp2_with fail
      go_ret2
      exact ⟨by rw [HR.out.1, HR.out.2, HF.out]; rfl, BB.out⟩
     ·
      have hv : Am.ptV x.data.toList 1 3 = (Num.val 0 x.data.toList : Int) := by unfold Am.ptV; rw [hp]; rfl
      obtain ⟨v0, v1⟩ := hbd hp (by decide)
      rw [hp] at hr CP
      rw [hv] at CP
      rw [if_pos rfl] at hr
      clear hp hv hbd
      generalize (Num.val 0 x.data.toList : Int) = n at hr CP v0 v1
      cases b
      ·
       skip
       have HG2 := Lib.hid (show Am.go ((l.map (·.data.toList)).drop 1) 1 (z + n * 3600) false = Am.fin3 P from by rw [← hr]; simp)
       clear hr
       have b9 : Below w1.heap.size w1 (wr.alloc (.cells #[.int .i64 3600, .int .i64 60, .int .i64 1] 2)) := hbw.out.alloc hbw.out.size _
       have HB9 := Lib.hid b9
       clear b9
       go_wp2_with fail
       refine (CP.out _).mono ?_; rintro e w3 ⟨rfl, rfl⟩
       go_wp2_with fail
       go_roundw
       case rel => exact ⟨1, z + n * 3600, false, by omega, by go_num, by first | rfl | (congr 1; omega), by first | rfl | (rw [GN.out]), by omega, by omega, HG2.out, HB9.out⟩
       case measure => simp [intOf]; omega
      ·
       skip
       have HG2 := Lib.hid (show Am.go ((l.map (·.data.toList)).drop 1) 1 (z + n * 3600) true = Am.fin3 P from by rw [← hr]; simp)
       clear hr
       have b9 : Below w1.heap.size w1 (wr.alloc (.cells #[.int .i64 3600, .int .i64 60, .int .i64 1] 2)) := hbw.out.alloc hbw.out.size _
       have HB9 := Lib.hid b9
       clear b9
       go_wp2_with fail
       refine (CP.out _).mono ?_; rintro e w3 ⟨rfl, rfl⟩
       go_wp2_with fail
       go_roundw
       case rel => exact ⟨1, z + n * 3600, true, by omega, by go_num, by first | rfl | (congr 1; omega), by first | rfl | (rw [GN.out]), by omega, by omega, HG2.out, HB9.out⟩
       case measure => simp [intOf]; omega
    ·
     have CP : Hid (∀ W, Calls Tryz.prog 117 #[.string x, .int .i64 2, .int .i64 2] W fun e w' => e = .returned (.tuple #[.int .i64 (Am.ptV x.data.toList 2 2), .bool (Am.ptB x.data.toList 2 2)]) ∧ W = w') := fun W => CP.out 2 2 W (by decide)
     have hr : (if Am.ptB x.data.toList 2 2 = true then Am.go ((l.map (·.data.toList)).drop 2) 2 (z + (Num.val 0 x.data.toList : Int) * 60) (b && (false || decide ((Num.val 0 x.data.toList : Int) ≤ 59))) else (0, 2)) = Am.fin3 P := hr
     have g2 : wr.cell? ⟨a.block, a.off + 1, none⟩ = some (.string x) := by have h := g1; rw [Addr.add_succ'] at h; exact h
     clear g1
     have hbd  := @hbd1 2 2
     clear hbd1
     cases hp : Am.ptB x.data.toList 2 2
     ·
      have hv : Am.ptV x.data.toList 2 2 = 0 := by unfold Am.ptV; rw [hp]; rfl
      rw [hp] at hr CP
      rw [hv] at CP
      have HF := Lib.hid (show Am.fin3 P = (0, 2) by rw [← hr]; rfl)
      clear hr hp hv hbd
      go_wp2_with fail
      refine (CP.out _).mono ?_; rintro e w3 ⟨rfl, rfl⟩
      go_wp2_with fail
      go_ret2
      exact ⟨by rw [HR.out.1, HR.out.2, HF.out]; rfl, BB.out⟩
     ·
      have hv : Am.ptV x.data.toList 2 2 = (Num.val 0 x.data.toList : Int) := by unfold Am.ptV; rw [hp]; rfl
      obtain ⟨v0, v1⟩ := hbd hp (by decide)
      rw [hp] at hr CP
      rw [hv] at CP
      rw [if_pos rfl] at hr
      clear hp hv hbd
      generalize (Num.val 0 x.data.toList : Int) = n at hr CP v0 v1
      cases b
      ·
       have hn : True := trivial
       have HG2 := Lib.hid (show Am.go ((l.map (·.data.toList)).drop 2) 2 (z + n * 60) false = Am.fin3 P from by rw [← hr]; simp [hn])
       clear hr
       have b9 : Below w1.heap.size w1 (wr.alloc (.cells #[.int .i64 3600, .int .i64 60, .int .i64 1] 2)) := hbw.out.alloc hbw.out.size _
       have HB9 := Lib.hid b9
       clear b9
       go_wp2_with fail
       refine (CP.out _).mono ?_; rintro e w3 ⟨rfl, rfl⟩
       go_wp2_with fail
       go_roundw
       case rel => exact ⟨2, z + n * 60, false, by omega, by go_num, by first | rfl | (congr 1; omega), by first | rfl | (rw [GN.out]), by omega, by omega, HG2.out, HB9.out⟩
       case measure => simp [intOf]; omega
      ·
       by_cases hn : n ≤ 59
       ·
        skip
        have HG2 := Lib.hid (show Am.go ((l.map (·.data.toList)).drop 2) 2 (z + n * 60) true = Am.fin3 P from by rw [← hr]; simp [hn])
        clear hr
        have b9 : Below w1.heap.size w1 (wr.alloc (.cells #[.int .i64 3600, .int .i64 60, .int .i64 1] 2)) := hbw.out.alloc hbw.out.size _
        have HB9 := Lib.hid b9
        clear b9
        go_wp2_with fail
        refine (CP.out _).mono ?_; rintro e w3 ⟨rfl, rfl⟩
        go_wp2_with fail
        go_roundw
        case rel => exact ⟨2, z + n * 60, true, by omega, by go_num, by first | rfl | (congr 1; omega), by first | rfl | (rw [GN.out]), by omega, by omega, HG2.out, HB9.out⟩
        case measure => simp [intOf]; omega
       ·
        have GN : Hid (decide (n ≤ 59) = false) := decide_eq_false hn
        have HG2 := Lib.hid (show Am.go ((l.map (·.data.toList)).drop 2) 2 (z + n * 60) false = Am.fin3 P from by rw [← hr]; simp [hn])
        clear hr
        have b9 : Below w1.heap.size w1 (wr.alloc (.cells #[.int .i64 3600, .int .i64 60, .int .i64 1] 2)) := hbw.out.alloc hbw.out.size _
        have HB9 := Lib.hid b9
        clear b9
        go_wp2_with fail
        refine (CP.out _).mono ?_; rintro e w3 ⟨rfl, rfl⟩
        go_wp2_with fail
        go_roundw
        case rel => exact ⟨2, z + n * 60, false, by omega, by go_num, by first | rfl | (congr 1; omega), by first | rfl | (rw [GN.out]), by omega, by omega, HG2.out, HB9.out⟩
        case measure => simp [intOf]; omega
    ·
     have CP : Hid (∀ W, Calls Tryz.prog 117 #[.string x, .int .i64 2, .int .i64 2] W fun e w' => e = .returned (.tuple #[.int .i64 (Am.ptV x.data.toList 2 2), .bool (Am.ptB x.data.toList 2 2)]) ∧ W = w') := fun W => CP.out 2 2 W (by decide)
     have hr : (if Am.ptB x.data.toList 2 2 = true then Am.go ((l.map (·.data.toList)).drop 3) 3 (z + (Num.val 0 x.data.toList : Int) * 1) (b && (false || decide ((Num.val 0 x.data.toList : Int) ≤ 59))) else (0, 2)) = Am.fin3 P := hr
     have g2 : wr.cell? ⟨a.block, a.off + 2, none⟩ = some (.string x) := by have h := g1; rw [Addr.add_succ'] at h; exact h
     clear g1
     have hbd  := @hbd1 2 2
     clear hbd1
     cases hp : Am.ptB x.data.toList 2 2
     ·
      have hv : Am.ptV x.data.toList 2 2 = 0 := by unfold Am.ptV; rw [hp]; rfl
      rw [hp] at hr CP
      rw [hv] at CP
      have HF := Lib.hid (show Am.fin3 P = (0, 2) by rw [← hr]; rfl)
      clear hr hp hv hbd
      go_wp2_with fail
      refine (CP.out _).mono ?_; rintro e w3 ⟨rfl, rfl⟩
      go_wp2_with fail
      go_ret2
      exact ⟨by rw [HR.out.1, HR.out.2, HF.out]; rfl, BB.out⟩
     ·
      have hv : Am.ptV x.data.toList 2 2 = (Num.val 0 x.data.toList : Int) := by unfold Am.ptV; rw [hp]; rfl
      obtain ⟨v0, v1⟩ := hbd hp (by decide)
      rw [hp] at hr CP
      rw [hv] at CP
      rw [if_pos rfl] at hr
      clear hp hv hbd
      generalize (Num.val 0 x.data.toList : Int) = n at hr CP v0 v1
      cases b
      ·
       have hn : True := trivial
       have HG2 := Lib.hid (show Am.go ((l.map (·.data.toList)).drop 3) 3 (z + n * 1) false = Am.fin3 P from by rw [← hr]; simp [hn])
       clear hr
       have b9 : Below w1.heap.size w1 (wr.alloc (.cells #[.int .i64 3600, .int .i64 60, .int .i64 1] 2)) := hbw.out.alloc hbw.out.size _
       have HB9 := Lib.hid b9
       clear b9
       go_wp2_with fail
       refine (CP.out _).mono ?_; rintro e w3 ⟨rfl, rfl⟩
       go_wp2_with fail
       go_roundw
       case rel => exact ⟨3, z + n * 1, false, by omega, by go_num, by first | rfl | (congr 1; omega), by first | rfl | (rw [GN.out]), by omega, by omega, HG2.out, HB9.out⟩
       case measure => simp [intOf]; omega
      ·
       by_cases hn : n ≤ 59
       ·
        skip
        have HG2 := Lib.hid (show Am.go ((l.map (·.data.toList)).drop 3) 3 (z + n * 1) true = Am.fin3 P from by rw [← hr]; simp [hn])
        clear hr
        have b9 : Below w1.heap.size w1 (wr.alloc (.cells #[.int .i64 3600, .int .i64 60, .int .i64 1] 2)) := hbw.out.alloc hbw.out.size _
        have HB9 := Lib.hid b9
        clear b9
        go_wp2_with fail
        refine (CP.out _).mono ?_; rintro e w3 ⟨rfl, rfl⟩
        go_wp2_with fail
        go_roundw
        case rel => exact ⟨3, z + n * 1, true, by omega, by go_num, by first | rfl | (congr 1; omega), by first | rfl | (rw [GN.out]), by omega, by omega, HG2.out, HB9.out⟩
        case measure => simp [intOf]; omega
       ·
        have GN : Hid (decide (n ≤ 59) = false) := decide_eq_false hn
        have HG2 := Lib.hid (show Am.go ((l.map (·.data.toList)).drop 3) 3 (z + n * 1) false = Am.fin3 P from by rw [← hr]; simp [hn])
        clear hr
        have b9 : Below w1.heap.size w1 (wr.alloc (.cells #[.int .i64 3600, .int .i64 60, .int .i64 1] 2)) := hbw.out.alloc hbw.out.size _
        have HB9 := Lib.hid b9
        clear b9
        go_wp2_with fail
        refine (CP.out _).mono ?_; rintro e w3 ⟨rfl, rfl⟩
        go_wp2_with fail
        go_roundw
        case rel => exact ⟨3, z + n * 1, false, by omega, by go_num, by first | rfl | (congr 1; omega), by first | rfl | (rw [GN.out]), by omega, by omega, HG2.out, HB9.out⟩
        case measure => simp [intOf]; omega
   ·
    have hr2 : Am.go [] k z b = Am.fin3 P := by
     rw [← hr.out, List.drop_of_length_le (by rw [List.length_map, HN.out]; omega)]
    have hr3 : (if b = false ∨ 604800 ≤ z then ((0 : Int), (1 : Int)) else (z, 0)) = Am.fin3 P := hr2
    have HF := Lib.hid hr3
    clear hr hr2 hr3 HS HZ CU HG HP
    have zz : z ≤ 100000000 := by omega
    cases b
    ·
     have HE := Lib.hid (show Am.fin3 P = (0, 1) by rw [← HF.out]; rfl)
     clear HF
     go_wp2_with fail
     go_ret2
     exact ⟨by rw [HR.out.1, HR.out.2, HE.out]; rfl, BB.out⟩
    ·
     by_cases hz : 604800 ≤ z
     ·
      have HE := Lib.hid (show Am.fin3 P = (0, 1) by rw [← HF.out, if_pos (.inr hz)])
      clear HF
      go_wp2_with fail
      go_ret2
      exact ⟨by rw [HR.out.1, HR.out.2, HE.out]; rfl, BB.out⟩
     ·
      have HE := Lib.hid (show Am.fin3 P = (z, 0) by rw [← HF.out, if_neg (by simp; omega)])
      clear HF
      go_wp2_with fail
      go_ret2
      exact ⟨by rw [HR.out.1, HR.out.2, HE.out]; rfl, BB.out⟩
 ·
  have HF := Lib.hid (Am.fin3_far P h3)
  go_enter Tryz.func63, Tryz.ntmps63
  go_wp2_with fail
  refine (CU.out _).mono ?_; rintro e w1 ⟨v, l, SV, hP, rfl, b1⟩
  have hB1 := Lib.hid b1
  have l3 : (3 : Int) < (l.length : Int) := by
   have : l.length = P.length := by rw [← hP, List.length_map]
   omega
  obtain ⟨A, cp, rfl, -⟩ := SV
  clear b1 hP h3 CU
  go_wp2_with fail
  go_ret2
  exact ⟨by rw [HR.out.1, HR.out.2, HF.out]; rfl, hB1.out⟩
set_option maxHeartbeats 4000000 in
set_option maxRecDepth 100000 in
theorem rmread_z (s : ByteArray) (w : World) (ls : ¬ 0 < (s.size : Int)) (hs : (s.toList == [45]) = false) (hm : s.size ≤ 600) :
  Calls Tryz.prog 63 #[.string s] w fun e w' => e = .returned (.tuple #[.int .i64 (Am.fin3 (Am.rest [] s.data.toList)).1, .int .i64 (Am.fin3 (Am.rest [] s.data.toList)).2]) ∧ Below w.heap.size w w' := by
 have CU := Lib.hid (fun W => rcut_any s W hm)
 have PL := Am.rest_len s.data.toList []
 have PB : Hid (∀ x ∈ Am.rest [] s.data.toList, x.length ≤ maxLen) := Lib.hid (fun x hx => by
  have := Am.rest_size x hx
  rw [Num.rn_len] at this
  unfold maxLen; omega)
 generalize Am.rest [] s.data.toList = P at *
 obtain ⟨R1, hR1⟩ : ∃ R1 : Int, R1 = (Am.fin3 P).1 := ⟨_, rfl⟩
 obtain ⟨R2, hR2⟩ : ∃ R2 : Int, R2 = (Am.fin3 P).2 := ⟨_, rfl⟩
 rw [← hR1, ← hR2]
 have HR := Lib.hid (And.intro hR1 hR2)
 clear hR1 hR2
 by_cases h3 : P.length ≤ 3
 ·
  have HG := Lib.hid (Am.go_fin3 P h3 PL)
  go_enter Tryz.func63, Tryz.ntmps63
  go_wp2_with fail
  refine (CU.out _).mono ?_; rintro e w1 ⟨v, l, SV, hP, rfl, b1⟩
  have ln : l.length = P.length := by rw [← hP, List.length_map]
  have hB1 := Lib.hid b1
  have HS := Lib.hid SV
  have HP := Lib.hid hP
  obtain ⟨A, cp, rfl, -⟩ := SV
  have l3 : (l.length : Int) ≤ 3 := by omega
  have HZ : Hid (∀ x ∈ l, x.size ≤ maxLen) := Lib.hid (fun x hx => by
   have := PB.out x.data.toList (by rw [← hP]; exact List.mem_map_of_mem hx)
   rw [Num.rn_len] at this; exact this)
  clear b1 hP PB PL h3
  generalize hN : l.length = N at *
  have HN := Lib.hid hN
  clear hN ln
  go_wp2_with fail
  go_loopw [6, 7, 35] (fun sm ft i wr => ∃ (k : Nat) (z : Int) (b : Bool), k ≤ N ∧ i = .int .i64 k ∧ sm = .int .i64 z ∧ ft = .bool b ∧ 0 ≤ z ∧ z ≤ 4000000 * k ∧ Hid (Am.go ((l.map (·.data.toList)).drop k) k z b = Am.fin3 P) ∧ Hid (Below w1.heap.size w1 wr)) (fun _ _ i _ => N - (intOf i).toNat)
  case atStart => exact ⟨0, 0, true, Nat.zero_le _, rfl, rfl, rfl, by omega, by omega, by rw [HP.out]; exact HG.out, Below.refl _ _⟩
  case round =>
   obtain ⟨k, z, b, hk, rfl, rfl, rfl, z0, z1, hr, hbw⟩ := hrel
   have BB := Lib.hid (below_step hB1.out hbw.out)
   by_cases hlt : k < N
   ·
    obtain ⟨a, hA, g1⟩ := (HS.out.on hbw.out).get k (by rw [HN.out]; exact hlt)
    subst hA
    have CP := Lib.hid (fun lo hi W h => rpart_any (l[k]'(by rw [HN.out]; exact hlt)) lo hi W (HZ.out _ (List.getElem_mem _)) h)
    have hd : (l.map (·.data.toList)).drop k = (l[k]'(by rw [HN.out]; exact hlt)).data.toList :: (l.map (·.data.toList)).drop (k + 1) := by
     rw [List.drop_eq_getElem_cons (by rw [List.length_map, HN.out]; exact hlt), List.getElem_map]
    have hr := hr.out
    rw [hd, Am.go] at hr
    have hbd1 := @Am.ptB_bd (l[k]'(by rw [HN.out]; exact hlt)).data.toList
    have ablt : a.block < wr.heap.size := by
     have := World.block_lt_of_cell? _ _ g1
     rwa [blk_add] at this
    generalize hx : (l[k]'(by rw [HN.out]; exact hlt)) = x at g1 CP hr hbd1
    clear hd hx HS HZ
    obtain rfl | rfl | rfl : k = 0 ∨ k = 1 ∨ k = 2 := by omega
    ·
     have CP : Hid (∀ W, Calls Tryz.prog 117 #[.string x, .int .i64 1, .int .i64 3] W fun e w' => e = .returned (.tuple #[.int .i64 (Am.ptV x.data.toList 1 3), .bool (Am.ptB x.data.toList 1 3)]) ∧ W = w') := fun W => CP.out 1 3 W (by decide)
     have hr : (if Am.ptB x.data.toList 1 3 = true then Am.go ((l.map (·.data.toList)).drop 1) 1 (z + (Num.val 0 x.data.toList : Int) * 3600) (b && (true || decide ((Num.val 0 x.data.toList : Int) ≤ 59))) else (0, 2)) = Am.fin3 P := hr
     have g2 : wr.cell? a = some (.string x) := by have h := g1; rw [Addr.add_zero'] at h; exact h
     clear g1
     have hbd  := @hbd1 1 3
     clear hbd1
     cases hp : Am.ptB x.data.toList 1 3
     ·
      have hv : Am.ptV x.data.toList 1 3 = 0 := by unfold Am.ptV; rw [hp]; rfl
      rw [hp] at hr CP
      rw [hv] at CP
      have HF := Lib.hid (show Am.fin3 P = (0, 2) by rw [← hr]; rfl)
      clear hr hp hv hbd
      go_wp2_with fail
      refine (CP.out _).mono ?_; rintro e w3 ⟨rfl, rfl⟩
      go_wp2_with fail
      go_ret2
      exact ⟨by rw [HR.out.1, HR.out.2, HF.out]; rfl, BB.out⟩
     ·
      have hv : Am.ptV x.data.toList 1 3 = (Num.val 0 x.data.toList : Int) := by unfold Am.ptV; rw [hp]; rfl
      obtain ⟨v0, v1⟩ := hbd hp (by decide)
      rw [hp] at hr CP
      rw [hv] at CP
      rw [if_pos rfl] at hr
      clear hp hv hbd
      generalize (Num.val 0 x.data.toList : Int) = n at hr CP v0 v1
      cases b
      ·
       skip
       have HG2 := Lib.hid (show Am.go ((l.map (·.data.toList)).drop 1) 1 (z + n * 3600) false = Am.fin3 P from by rw [← hr]; simp)
       clear hr
       have b9 : Below w1.heap.size w1 (wr.alloc (.cells #[.int .i64 3600, .int .i64 60, .int .i64 1] 2)) := hbw.out.alloc hbw.out.size _
       have HB9 := Lib.hid b9
       clear b9
       go_wp2_with fail
       refine (CP.out _).mono ?_; rintro e w3 ⟨rfl, rfl⟩
       go_wp2_with fail
       go_roundw
       case rel => exact ⟨1, z + n * 3600, false, by omega, by go_num, by first | rfl | (congr 1; omega), by first | rfl | (rw [GN.out]), by omega, by omega, HG2.out, HB9.out⟩
       case measure => simp [intOf]; omega
      ·
       skip
       have HG2 := Lib.hid (show Am.go ((l.map (·.data.toList)).drop 1) 1 (z + n * 3600) true = Am.fin3 P from by rw [← hr]; simp)
       clear hr
       have b9 : Below w1.heap.size w1 (wr.alloc (.cells #[.int .i64 3600, .int .i64 60, .int .i64 1] 2)) := hbw.out.alloc hbw.out.size _
       have HB9 := Lib.hid b9
       clear b9
       go_wp2_with fail
       refine (CP.out _).mono ?_; rintro e w3 ⟨rfl, rfl⟩
       go_wp2_with fail
       go_roundw
       case rel => exact ⟨1, z + n * 3600, true, by omega, by go_num, by first | rfl | (congr 1; omega), by first | rfl | (rw [GN.out]), by omega, by omega, HG2.out, HB9.out⟩
       case measure => simp [intOf]; omega
    ·
     have CP : Hid (∀ W, Calls Tryz.prog 117 #[.string x, .int .i64 2, .int .i64 2] W fun e w' => e = .returned (.tuple #[.int .i64 (Am.ptV x.data.toList 2 2), .bool (Am.ptB x.data.toList 2 2)]) ∧ W = w') := fun W => CP.out 2 2 W (by decide)
     have hr : (if Am.ptB x.data.toList 2 2 = true then Am.go ((l.map (·.data.toList)).drop 2) 2 (z + (Num.val 0 x.data.toList : Int) * 60) (b && (false || decide ((Num.val 0 x.data.toList : Int) ≤ 59))) else (0, 2)) = Am.fin3 P := hr
     have g2 : wr.cell? ⟨a.block, a.off + 1, none⟩ = some (.string x) := by have h := g1; rw [Addr.add_succ'] at h; exact h
     clear g1
     have hbd  := @hbd1 2 2
     clear hbd1
     cases hp : Am.ptB x.data.toList 2 2
     ·
      have hv : Am.ptV x.data.toList 2 2 = 0 := by unfold Am.ptV; rw [hp]; rfl
      rw [hp] at hr CP
      rw [hv] at CP
      have HF := Lib.hid (show Am.fin3 P = (0, 2) by rw [← hr]; rfl)
      clear hr hp hv hbd
      go_wp2_with fail
      refine (CP.out _).mono ?_; rintro e w3 ⟨rfl, rfl⟩
      go_wp2_with fail
      go_ret2
      exact ⟨by rw [HR.out.1, HR.out.2, HF.out]; rfl, BB.out⟩
     ·
      have hv : Am.ptV x.data.toList 2 2 = (Num.val 0 x.data.toList : Int) := by unfold Am.ptV; rw [hp]; rfl
      obtain ⟨v0, v1⟩ := hbd hp (by decide)
      rw [hp] at hr CP
      rw [hv] at CP
      rw [if_pos rfl] at hr
      clear hp hv hbd
      generalize (Num.val 0 x.data.toList : Int) = n at hr CP v0 v1
      cases b
      ·
       have hn : True := trivial
       have HG2 := Lib.hid (show Am.go ((l.map (·.data.toList)).drop 2) 2 (z + n * 60) false = Am.fin3 P from by rw [← hr]; simp [hn])
       clear hr
       have b9 : Below w1.heap.size w1 (wr.alloc (.cells #[.int .i64 3600, .int .i64 60, .int .i64 1] 2)) := hbw.out.alloc hbw.out.size _
       have HB9 := Lib.hid b9
       clear b9
       go_wp2_with fail
       refine (CP.out _).mono ?_; rintro e w3 ⟨rfl, rfl⟩
       go_wp2_with fail
       go_roundw
       case rel => exact ⟨2, z + n * 60, false, by omega, by go_num, by first | rfl | (congr 1; omega), by first | rfl | (rw [GN.out]), by omega, by omega, HG2.out, HB9.out⟩
       case measure => simp [intOf]; omega
      ·
       by_cases hn : n ≤ 59
       ·
        skip
        have HG2 := Lib.hid (show Am.go ((l.map (·.data.toList)).drop 2) 2 (z + n * 60) true = Am.fin3 P from by rw [← hr]; simp [hn])
        clear hr
        have b9 : Below w1.heap.size w1 (wr.alloc (.cells #[.int .i64 3600, .int .i64 60, .int .i64 1] 2)) := hbw.out.alloc hbw.out.size _
        have HB9 := Lib.hid b9
        clear b9
        go_wp2_with fail
        refine (CP.out _).mono ?_; rintro e w3 ⟨rfl, rfl⟩
        go_wp2_with fail
        go_roundw
        case rel => exact ⟨2, z + n * 60, true, by omega, by go_num, by first | rfl | (congr 1; omega), by first | rfl | (rw [GN.out]), by omega, by omega, HG2.out, HB9.out⟩
        case measure => simp [intOf]; omega
       ·
        have GN : Hid (decide (n ≤ 59) = false) := decide_eq_false hn
        have HG2 := Lib.hid (show Am.go ((l.map (·.data.toList)).drop 2) 2 (z + n * 60) false = Am.fin3 P from by rw [← hr]; simp [hn])
        clear hr
        have b9 : Below w1.heap.size w1 (wr.alloc (.cells #[.int .i64 3600, .int .i64 60, .int .i64 1] 2)) := hbw.out.alloc hbw.out.size _
        have HB9 := Lib.hid b9
        clear b9
        go_wp2_with fail
        refine (CP.out _).mono ?_; rintro e w3 ⟨rfl, rfl⟩
        go_wp2_with fail
        go_roundw
        case rel => exact ⟨2, z + n * 60, false, by omega, by go_num, by first | rfl | (congr 1; omega), by first | rfl | (rw [GN.out]), by omega, by omega, HG2.out, HB9.out⟩
        case measure => simp [intOf]; omega
    ·
     have CP : Hid (∀ W, Calls Tryz.prog 117 #[.string x, .int .i64 2, .int .i64 2] W fun e w' => e = .returned (.tuple #[.int .i64 (Am.ptV x.data.toList 2 2), .bool (Am.ptB x.data.toList 2 2)]) ∧ W = w') := fun W => CP.out 2 2 W (by decide)
     have hr : (if Am.ptB x.data.toList 2 2 = true then Am.go ((l.map (·.data.toList)).drop 3) 3 (z + (Num.val 0 x.data.toList : Int) * 1) (b && (false || decide ((Num.val 0 x.data.toList : Int) ≤ 59))) else (0, 2)) = Am.fin3 P := hr
     have g2 : wr.cell? ⟨a.block, a.off + 2, none⟩ = some (.string x) := by have h := g1; rw [Addr.add_succ'] at h; exact h
     clear g1
     have hbd  := @hbd1 2 2
     clear hbd1
     cases hp : Am.ptB x.data.toList 2 2
     ·
      have hv : Am.ptV x.data.toList 2 2 = 0 := by unfold Am.ptV; rw [hp]; rfl
      rw [hp] at hr CP
      rw [hv] at CP
      have HF := Lib.hid (show Am.fin3 P = (0, 2) by rw [← hr]; rfl)
      clear hr hp hv hbd
      go_wp2_with fail
      refine (CP.out _).mono ?_; rintro e w3 ⟨rfl, rfl⟩
      go_wp2_with fail
      go_ret2
      exact ⟨by rw [HR.out.1, HR.out.2, HF.out]; rfl, BB.out⟩
     ·
      have hv : Am.ptV x.data.toList 2 2 = (Num.val 0 x.data.toList : Int) := by unfold Am.ptV; rw [hp]; rfl
      obtain ⟨v0, v1⟩ := hbd hp (by decide)
      rw [hp] at hr CP
      rw [hv] at CP
      rw [if_pos rfl] at hr
      clear hp hv hbd
      generalize (Num.val 0 x.data.toList : Int) = n at hr CP v0 v1
      cases b
      ·
       have hn : True := trivial
       have HG2 := Lib.hid (show Am.go ((l.map (·.data.toList)).drop 3) 3 (z + n * 1) false = Am.fin3 P from by rw [← hr]; simp [hn])
       clear hr
       have b9 : Below w1.heap.size w1 (wr.alloc (.cells #[.int .i64 3600, .int .i64 60, .int .i64 1] 2)) := hbw.out.alloc hbw.out.size _
       have HB9 := Lib.hid b9
       clear b9
       go_wp2_with fail
       refine (CP.out _).mono ?_; rintro e w3 ⟨rfl, rfl⟩
       go_wp2_with fail
       go_roundw
       case rel => exact ⟨3, z + n * 1, false, by omega, by go_num, by first | rfl | (congr 1; omega), by first | rfl | (rw [GN.out]), by omega, by omega, HG2.out, HB9.out⟩
       case measure => simp [intOf]; omega
      ·
       by_cases hn : n ≤ 59
       ·
        skip
        have HG2 := Lib.hid (show Am.go ((l.map (·.data.toList)).drop 3) 3 (z + n * 1) true = Am.fin3 P from by rw [← hr]; simp [hn])
        clear hr
        have b9 : Below w1.heap.size w1 (wr.alloc (.cells #[.int .i64 3600, .int .i64 60, .int .i64 1] 2)) := hbw.out.alloc hbw.out.size _
        have HB9 := Lib.hid b9
        clear b9
        go_wp2_with fail
        refine (CP.out _).mono ?_; rintro e w3 ⟨rfl, rfl⟩
        go_wp2_with fail
        go_roundw
        case rel => exact ⟨3, z + n * 1, true, by omega, by go_num, by first | rfl | (congr 1; omega), by first | rfl | (rw [GN.out]), by omega, by omega, HG2.out, HB9.out⟩
        case measure => simp [intOf]; omega
       ·
        have GN : Hid (decide (n ≤ 59) = false) := decide_eq_false hn
        have HG2 := Lib.hid (show Am.go ((l.map (·.data.toList)).drop 3) 3 (z + n * 1) false = Am.fin3 P from by rw [← hr]; simp [hn])
        clear hr
        have b9 : Below w1.heap.size w1 (wr.alloc (.cells #[.int .i64 3600, .int .i64 60, .int .i64 1] 2)) := hbw.out.alloc hbw.out.size _
        have HB9 := Lib.hid b9
        clear b9
        go_wp2_with fail
        refine (CP.out _).mono ?_; rintro e w3 ⟨rfl, rfl⟩
        go_wp2_with fail
        go_roundw
        case rel => exact ⟨3, z + n * 1, false, by omega, by go_num, by first | rfl | (congr 1; omega), by first | rfl | (rw [GN.out]), by omega, by omega, HG2.out, HB9.out⟩
        case measure => simp [intOf]; omega
   ·
    have hr2 : Am.go [] k z b = Am.fin3 P := by
     rw [← hr.out, List.drop_of_length_le (by rw [List.length_map, HN.out]; omega)]
    have hr3 : (if b = false ∨ 604800 ≤ z then ((0 : Int), (1 : Int)) else (z, 0)) = Am.fin3 P := hr2
    have HF := Lib.hid hr3
    clear hr hr2 hr3 HS HZ CU HG HP
    have zz : z ≤ 100000000 := by omega
    cases b
    ·
     have HE := Lib.hid (show Am.fin3 P = (0, 1) by rw [← HF.out]; rfl)
     clear HF
     go_wp2_with fail
     go_ret2
     exact ⟨by rw [HR.out.1, HR.out.2, HE.out]; rfl, BB.out⟩
    ·
     by_cases hz : 604800 ≤ z
     ·
      have HE := Lib.hid (show Am.fin3 P = (0, 1) by rw [← HF.out, if_pos (.inr hz)])
      clear HF
      go_wp2_with fail
      go_ret2
      exact ⟨by rw [HR.out.1, HR.out.2, HE.out]; rfl, BB.out⟩
     ·
      have HE := Lib.hid (show Am.fin3 P = (z, 0) by rw [← HF.out, if_neg (by simp; omega)])
      clear HF
      go_wp2_with fail
      go_ret2
      exact ⟨by rw [HR.out.1, HR.out.2, HE.out]; rfl, BB.out⟩
 ·
  have HF := Lib.hid (Am.fin3_far P h3)
  go_enter Tryz.func63, Tryz.ntmps63
  go_wp2_with fail
  refine (CU.out _).mono ?_; rintro e w1 ⟨v, l, SV, hP, rfl, b1⟩
  have hB1 := Lib.hid b1
  have l3 : (3 : Int) < (l.length : Int) := by
   have : l.length = P.length := by rw [← hP, List.length_map]
   omega
  obtain ⟨A, cp, rfl, -⟩ := SV
  clear b1 hP h3 CU
  go_wp2_with fail
  go_ret2
  exact ⟨by rw [HR.out.1, HR.out.2, HF.out]; rfl, hB1.out⟩
theorem raread_any (s : ByteArray) (w : World) (hm : s.size ≤ 600) :
  Calls Tryz.prog 63 #[.string s] w fun e w' => e = .returned (.tuple #[.int .i64 (Am.rd s).1, .int .i64 (Am.rd s).2]) ∧ Below w.heap.size w w' := by
 rw [Am.rd_mid]
 have hl := Num.rn_len s
 by_cases h1 : s.data.toList = [45]
 ·
  rw [if_pos h1]
  have e : s = ⟨#[45]⟩ := by apply ByteArray.ext; apply Array.toList_inj.1; rw [h1]
  subst e
  clear h1 hl hm
  go_enter Tryz.func63, Tryz.ntmps63
  go_wp2_with fail
  go_ret2
  exact ⟨rfl, Below.refl _ _⟩
 ·
  rw [if_neg h1, Am.mid_eq]
  have hs : (s.toList == [45]) = false := by rw [ByteArray.toList_eq]; simpa using h1
  cases hsl : s.data.toList with
  | nil =>
   have hz : s.size = 0 := by rw [hsl] at hl; exact hl.symm
   have hn : Am.neg s = false := by unfold Am.neg; rw [hsl]; rfl
   have hu : (Am.un s).data.toList = s.data.toList := by unfold Am.un; rw [hsl]; rfl
   rw [hn, if_neg (by decide), hu]
   exact rmread_z s w (by omega) hs hm
  | cons c r =>
   have hpos : 0 < s.size := by rw [← hl, hsl]; simp
   have hc0 : s[0] = c := by
    have e : s[0] = s.data.toList[0]'(by rw [Num.rn_len]; exact hpos) := rfl
    rw [e]; simp [hsl]
   have IX : ∀ W, Sem.run Tryz.prog (Instr.index 9 (.string s) (.int .i64 0)) W = .ok (.int .u8 (c.toNat : Int)) W := fun W => by rw [← hc0]; exact rn_ix s 0 hpos W
   by_cases h45 : c = 45
   ·
    subst h45
    have hd := Num.ext1 s r hsl
    have sl : ∀ W, Sem.run Tryz.prog (Instr.slice 9 (.string s) (some (.int .i64 1)) none none) W = .ok (.string (s.extract 1 s.size)) W := fun W => rn_cut s 1 hpos W
    obtain ⟨d, hdd⟩ : ∃ d, s.extract 1 s.size = d := ⟨_, rfl⟩
    rw [hdd] at hd sl
    have hdl := Num.rn_len d
    have ld : (d.size : Int) + 1 = (s.size : Int) := by
     have : s.data.toList.length = r.length + 1 := by rw [hsl]; rfl
     rw [hd] at hdl; omega
    have hn : Am.neg s = true := by unfold Am.neg; rw [hsl]; rfl
    have hu : (Am.un s).data.toList = d.data.toList := by unfold Am.un; rw [hsl, hd, Num.tp_minus]
    rw [hn, if_pos rfl, hu]
    exact rmread_y s d _ w (by omega) ld IX (by decide) sl hs (by omega)
   ·
    have hc45 : (((c.toNat : Nat) : Int) == 45) = false := by
     rw [beq_eq_false_iff_ne]
     intro h; exact h45 (UInt8.toNat_inj.1 (by rw [show (45 : UInt8).toNat = 45 from rfl]; omega))
    have hn : Am.neg s = false := by unfold Am.neg; rw [hsl, Num.hp_cons]; simpa using h45
    have hu : (Am.un s).data.toList = s.data.toList := by unfold Am.un; rw [hsl, Num.tp_other c r h45]
    rw [hn, if_neg (by decide), hu]
    exact rmread_n s _ w (by omega) IX hc45 hs hm
end Go.Proofs.YtpggfhmnhbnefaaGreatDoor

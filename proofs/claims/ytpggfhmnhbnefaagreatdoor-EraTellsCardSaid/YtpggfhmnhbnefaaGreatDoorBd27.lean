/- Joined: ErI. -/
import Derived.Test.YtpggfhmnhbnefaaGreatDoorBd01
import Derived.Test.YtpggfhmnhbnefaaGreatDoorBd15
import Derived.Test.YtpggfhmnhbnefaaGreatDoorBd26
import Derived.Test.YtpggfhmnhbnefaaGreatDoorBd20
import Derived.Test.YtpggfhmnhbnefaaGreatDoorBd07
import Derived.Test.YtpggfhmnhbnefaaGreatDoorBd17
set_option linter.unusedVariables false
set_option linter.unusedSimpArgs false
namespace Go.Proofs.YtpggfhmnhbnefaaGreatDoor
open Go.RowKit Go.Sort
namespace Er
def dc (c : UInt8) : Bool := decide (48 ≤ c.toNat) && decide (c.toNat ≤ 57)
def dg (l : List UInt8) (k : Nat) : Bool := match l[k]? with | some c => dc c | none => false
theorem dc_in (c : UInt8) : ([48, 49, 50, 51, 52, 53, 54, 55, 56, 57] : List UInt8).contains c = dc c := by
 have h : ∀ n : Fin 256, ([48, 49, 50, 51, 52, 53, 54, 55, 56, 57] : List UInt8).contains (UInt8.ofNat n.val) = dc (UInt8.ofNat n.val) := by decide +kernel
 have := h ⟨c.toNat, c.toNat_lt⟩
 simpa using this
theorem tp_1 (c : UInt8) (t : List UInt8) : Lib.trimPrefix (c :: t) [45] = if c = 45 then t else c :: t := by
 unfold Lib.trimPrefix Lib.hasPrefix
 by_cases h : c = 45
 ·
  subst h; rfl
 ·
  rw [if_neg h, if_neg (by simp [List.isPrefixOf]; first | exact h | exact Ne.symm h | exact fun e => h e.symm)]
theorem isA_dg (l : List UInt8) : isA l = (dg l 0 || (decide (l[0]? = some 45) && dg l 1)) := by
 unfold isA dg
 match l with
 | [] => rfl
 | c :: t =>
  rw [tp_1]
  by_cases h : c = 45
  ·
   subst h
   rw [if_pos rfl]
   match t with
   | [] => rfl
   | d :: t => 
    show ([48, 49, 50, 51, 52, 53, 54, 55, 56, 57] : List UInt8).contains d = (dc 45 || (true && dc d))
    rw [dc_in, show dc 45 = false by decide, Bool.false_or, Bool.true_and]
  ·
   rw [if_neg h]
   show ([48, 49, 50, 51, 52, 53, 54, 55, 56, 57] : List UInt8).contains c = (dc c || (decide (some c = some 45) && _))
   rw [dc_in, decide_eq_false (show ¬ (some c = some 45) from fun e => h (Option.some.inj e)), Bool.false_and, Bool.or_false]
theorem am_sv (f : ByteArray) : am 10800 f = Ru.sv f := rfl
end Er
theorem er_ix (a : ByteArray) (k : Nat) (h : k < a.size) (w : World) : Sem.run Tryz.prog (Instr.index 9 (.string a) (.int .i64 (k : Int))) w = .ok (.int .u8 (a[k].toNat : Int)) w := by
 rw [run_index_string w _ _ _ _ Tryz.underlying9, dif_pos ⟨by omega, by omega⟩]
 simp
set_option maxRecDepth 100000 in
theorem rdig_any (s : ByteArray) (k : Nat) (hk : k ≤ 1) (w : World) (hs : s.size ≤ 600) :
  Calls Tryz.prog 118 #[.string s, .int .i64 (k : Int)] w fun e w' => e = .returned (.bool (Er.dg s.data.toList k)) ∧ w = w' := by
 by_cases h : k < s.size
 ·
  have hg : s.data.toList[k]? = some s[k] := by
   rw [List.getElem?_eq_getElem (by rw [Array.length_toList]; exact h)]
   rfl
  have IX := fun W => er_ix s k h W
  have hv : Er.dg s.data.toList k = Er.dc s[k] := by unfold Er.dg; rw [hg]
  rw [hv]
  unfold Er.dc
  generalize s[k] = c at *
  have hc : c.toNat < 256 := c.toNat_lt
  generalize c.toNat = n at *
  have g0 : (k : Int) < (s.size : Int) := by omega
  clear hv hg h hs hk
  by_cases h1 : 48 ≤ n
  ·
   by_cases h2 : n ≤ 57
   ·
    have e : (decide (48 ≤ n) && decide (n ≤ 57)) = true := by simp [h1, h2]
    rw [e]; clear e
    have g1 : (48 : Int) ≤ (n : Int) := by omega
    have g2 : (n : Int) ≤ 57 := by omega
    clear h1 h2
    go_enter Tryz.func118, Tryz.ntmps118
    go_wp2_with fail
    go_ret
    exact ⟨rfl, rfl⟩
   ·
    have e : (decide (48 ≤ n) && decide (n ≤ 57)) = false := by simp [h2]
    rw [e]; clear e
    have g1 : (48 : Int) ≤ (n : Int) := by omega
    have g2 : ¬ (n : Int) ≤ 57 := by omega
    clear h1 h2
    go_enter Tryz.func118, Tryz.ntmps118
    go_wp2_with fail
    go_ret
    exact ⟨rfl, rfl⟩
  ·
   have e : (decide (48 ≤ n) && decide (n ≤ 57)) = false := by simp [h1]
   rw [e]; clear e
   have g1 : ¬ (48 : Int) ≤ (n : Int) := by omega
   clear h1
   go_enter Tryz.func118, Tryz.ntmps118
   go_wp2_with fail
   go_ret
   exact ⟨rfl, rfl⟩
 ·
  have hv : Er.dg s.data.toList k = false := by
   unfold Er.dg
   rw [List.getElem?_eq_none (by rw [Array.length_toList]; show s.size ≤ k; omega)]
  rw [hv]
  have g0 : ¬ (k : Int) < (s.size : Int) := by omega
  clear hv h hs hk
  go_enter Tryz.func118, Tryz.ntmps118
  go_wp2_with fail
  go_ret
  exact ⟨rfl, rfl⟩
set_option maxRecDepth 100000 in
theorem rrules_one (f : ByteArray) (w : World) (hs : f.size ≤ 600) (h1 : ¬ f = ⟨#[45]⟩) (d0 : Er.dg f.data.toList 0 = true) :
  Calls Tryz.prog 64 #[.string f] w fun e w' => e = .returned (.tuple #[.int .i64 1, .int .i64 (Ru.sv f).1, .string ⟨#[]⟩, .int .i64 (Ru.sv f).2]) ∧ Below w.heap.size w w' := by
 have hne : (f.toList == [45]) = false := by rw [beq_eq_false_iff_ne, ByteArray.toList_eq]; intro h; exact h1 (ByteArray.ext (Array.toList_inj.1 h))
 have D0 := Lib.hid (fun W => rdig_any f 0 (by omega) W hs)
 rw [d0] at D0
 have SV := Lib.hid (fun W => rsave_any f W (by omega))
 clear hs h1 d0
 generalize (Ru.sv f).1 = n at *
 generalize (Ru.sv f).2 = q at *
 go_enter Tryz.func64, Tryz.ntmps64
 go_wp2_with fail
 refine (D0.out _).mono ?_; rintro e v1 ⟨rfl, rfl⟩
 go_wp2_with fail
 refine (SV.out _).mono ?_; rintro e w1 ⟨rfl, b1⟩
 have d1 : Below w.heap.size w w1 := below_step gr0 b1
 have B1 := Lib.hid d1
 clear b1 d1
 go_wp2_with fail
 exact bodyPost_ret (v := .tuple #[.int .i64 1, .int .i64 n, .string ⟨#[]⟩, .int .i64 q]) (by simp [results, Tryz.results64, go_sem]) rfl ⟨rfl, B1.out⟩
set_option maxRecDepth 100000 in
theorem rrules_minus (f : ByteArray) (w : World) (hs : f.size ≤ 600) (h1 : ¬ f = ⟨#[45]⟩) (d0 : Er.dg f.data.toList 0 = false) (h0 : 0 < f.size) (h2 : f.data.toList[0]? = some 45) (d1 : Er.dg f.data.toList 1 = true) :
  Calls Tryz.prog 64 #[.string f] w fun e w' => e = .returned (.tuple #[.int .i64 1, .int .i64 (Ru.sv f).1, .string ⟨#[]⟩, .int .i64 (Ru.sv f).2]) ∧ Below w.heap.size w w' := by
 have hne : (f.toList == [45]) = false := by rw [beq_eq_false_iff_ne, ByteArray.toList_eq]; intro h; exact h1 (ByteArray.ext (Array.toList_inj.1 h))
 have D0 := Lib.hid (fun W => rdig_any f 0 (by omega) W hs)
 rw [d0] at D0
 have D1 := Lib.hid (fun W => rdig_any f 1 (by omega) W hs)
 rw [d1] at D1
 have SV := Lib.hid (fun W => rsave_any f W (by omega))
 have IX := fun W => er_ix f 0 h0 W
 have hem : (f.toList == []) = false := by
  rw [beq_eq_false_iff_ne, ByteArray.toList_eq]; intro h
  have h8 : f.data.toList.length = 0 := by rw [h]; rfl
  have h9 : f.data.toList.length = f.size := by rw [Array.length_toList]; rfl
  omega
 have hg : f.data.toList[0]? = some f[0] := by
  rw [List.getElem?_eq_getElem (by rw [Array.length_toList]; exact h0)]
  rfl
 rw [hg] at h2
 generalize f[0] = c at *
 obtain rfl : c = 45 := by injection h2
 replace IX : ∀ W, Sem.run Tryz.prog (Instr.index 9 (.string f) (.int .i64 0)) W = .ok (.int .u8 45) W := IX
 clear hs h1 d0 d1 h2 hg h0
 generalize (Ru.sv f).1 = n at *
 generalize (Ru.sv f).2 = q at *
 go_enter Tryz.func64, Tryz.ntmps64
 go_wp2_with fail
 refine (D0.out _).mono ?_; rintro e v1 ⟨rfl, rfl⟩
 go_wp2_with fail
 refine (D1.out _).mono ?_; rintro e v2 ⟨rfl, rfl⟩
 go_wp2_with fail
 refine (SV.out _).mono ?_; rintro e w1 ⟨rfl, b1⟩
 have d1 : Below w.heap.size w w1 := below_step gr0 b1
 have B1 := Lib.hid d1
 clear b1 d1
 go_wp2_with fail
 exact bodyPost_ret (v := .tuple #[.int .i64 1, .int .i64 n, .string ⟨#[]⟩, .int .i64 q]) (by simp [results, Tryz.results64, go_sem]) rfl ⟨rfl, B1.out⟩
set_option maxRecDepth 100000 in
theorem rrules_minusno (f : ByteArray) (w : World) (hs : f.size ≤ 600) (h1 : ¬ f = ⟨#[45]⟩) (d0 : Er.dg f.data.toList 0 = false) (h0 : 0 < f.size) (h2 : f.data.toList[0]? = some 45) (d1 : Er.dg f.data.toList 1 = false) :
  Calls Tryz.prog 64 #[.string f] w fun e w' => e = .returned (.tuple #[.int .i64 2, .int .i64 0, .string f, .int .i64 (Lk.nm f.data.toList)]) ∧ Below w.heap.size w w' := by
 have hne : (f.toList == [45]) = false := by rw [beq_eq_false_iff_ne, ByteArray.toList_eq]; intro h; exact h1 (ByteArray.ext (Array.toList_inj.1 h))
 have D0 := Lib.hid (fun W => rdig_any f 0 (by omega) W hs)
 rw [d0] at D0
 have D1 := Lib.hid (fun W => rdig_any f 1 (by omega) W hs)
 rw [d1] at D1
 have NM := Lib.hid (fun W => rrname_any f W (Nat.le_trans hs (by decide)))
 have IX := fun W => er_ix f 0 h0 W
 have hem : (f.toList == []) = false := by
  rw [beq_eq_false_iff_ne, ByteArray.toList_eq]; intro h
  have h8 : f.data.toList.length = 0 := by rw [h]; rfl
  have h9 : f.data.toList.length = f.size := by rw [Array.length_toList]; rfl
  omega
 have hg : f.data.toList[0]? = some f[0] := by
  rw [List.getElem?_eq_getElem (by rw [Array.length_toList]; exact h0)]
  rfl
 rw [hg] at h2
 generalize f[0] = c at *
 obtain rfl : c = 45 := by injection h2
 replace IX : ∀ W, Sem.run Tryz.prog (Instr.index 9 (.string f) (.int .i64 0)) W = .ok (.int .u8 45) W := IX
 clear hs h1 d0 d1 h2 hg h0
 generalize Lk.nm f.data.toList = q at *
 go_enter Tryz.func64, Tryz.ntmps64
 go_wp2_with fail
 refine (D0.out _).mono ?_; rintro e v1 ⟨rfl, rfl⟩
 go_wp2_with fail
 refine (D1.out _).mono ?_; rintro e v2 ⟨rfl, rfl⟩
 go_wp2_with fail
 refine (NM.out _).mono ?_; rintro e v3 ⟨rfl, rfl⟩
 go_wp2_with fail
 exact bodyPost_ret (v := .tuple #[.int .i64 2, .int .i64 0, .string f, .int .i64 q]) (by simp [results, Tryz.results64, go_sem]) rfl ⟨rfl, Below.refl _ _⟩
set_option maxRecDepth 100000 in
theorem rrules_other (f : ByteArray) (w : World) (hs : f.size ≤ 600) (h1 : ¬ f = ⟨#[45]⟩) (d0 : Er.dg f.data.toList 0 = false) (h0 : 0 < f.size) (h2 : ¬ f.data.toList[0]? = some 45) :
  Calls Tryz.prog 64 #[.string f] w fun e w' => e = .returned (.tuple #[.int .i64 2, .int .i64 0, .string f, .int .i64 (Lk.nm f.data.toList)]) ∧ Below w.heap.size w w' := by
 have hne : (f.toList == [45]) = false := by rw [beq_eq_false_iff_ne, ByteArray.toList_eq]; intro h; exact h1 (ByteArray.ext (Array.toList_inj.1 h))
 have D0 := Lib.hid (fun W => rdig_any f 0 (by omega) W hs)
 rw [d0] at D0
 have NM := Lib.hid (fun W => rrname_any f W (Nat.le_trans hs (by decide)))
 have IX := fun W => er_ix f 0 h0 W
 have hem : (f.toList == []) = false := by
  rw [beq_eq_false_iff_ne, ByteArray.toList_eq]; intro h
  have h8 : f.data.toList.length = 0 := by rw [h]; rfl
  have h9 : f.data.toList.length = f.size := by rw [Array.length_toList]; rfl
  omega
 have hg : f.data.toList[0]? = some f[0] := by
  rw [List.getElem?_eq_getElem (by rw [Array.length_toList]; exact h0)]
  rfl
 rw [hg] at h2
 generalize f[0] = c at *
 have hc : ((c.toNat : Int) == 45) = false := by
  rw [beq_eq_false_iff_ne]; intro h
  apply h2
  congr 1
  apply UInt8.toNat_inj.1
  show c.toNat = 45
  omega
 replace IX : ∀ W, Sem.run Tryz.prog (Instr.index 9 (.string f) (.int .i64 0)) W = .ok (.int .u8 (c.toNat : Int)) W := IX
 clear hs h1 d0 h2 hg h0
 generalize (c.toNat : Int) = x at *
 generalize Lk.nm f.data.toList = q at *
 go_enter Tryz.func64, Tryz.ntmps64
 go_wp2_with fail
 refine (D0.out _).mono ?_; rintro e v1 ⟨rfl, rfl⟩
 go_wp2_with fail
 refine (NM.out _).mono ?_; rintro e v2 ⟨rfl, rfl⟩
 go_wp2_with fail
 exact bodyPost_ret (v := .tuple #[.int .i64 2, .int .i64 0, .string f, .int .i64 q]) (by simp [results, Tryz.results64, go_sem]) rfl ⟨rfl, Below.refl _ _⟩
set_option maxRecDepth 100000 in
theorem rrules_empty (f : ByteArray) (w : World) (hs : f.size ≤ 600) (hf : f = ⟨#[]⟩) :
  Calls Tryz.prog 64 #[.string f] w fun e w' => e = .returned (.tuple #[.int .i64 2, .int .i64 0, .string f, .int .i64 (Lk.nm f.data.toList)]) ∧ Below w.heap.size w w' := by
 subst hf
 have D0 := Lib.hid (fun W => rdig_any ⟨#[]⟩ 0 (by omega) W hs)
 rw [show Er.dg (⟨#[]⟩ : ByteArray).data.toList 0 = false from rfl] at D0
 have NM := Lib.hid (fun W => rrname_any ⟨#[]⟩ W (by decide))
 generalize Lk.nm (⟨#[]⟩ : ByteArray).data.toList = q at *
 clear hs
 go_enter Tryz.func64, Tryz.ntmps64
 go_wp2_with fail
 refine (D0.out _).mono ?_; rintro e v1 ⟨rfl, rfl⟩
 go_wp2_with fail
 refine (NM.out _).mono ?_; rintro e v2 ⟨rfl, rfl⟩
 go_wp2_with fail
 exact bodyPost_ret (v := .tuple #[.int .i64 2, .int .i64 0, .string ⟨#[]⟩, .int .i64 q]) (by simp [results, Tryz.results64, go_sem]) rfl ⟨rfl, Below.refl _ _⟩
set_option maxRecDepth 100000 in
theorem rrules_none (w : World) :
  Calls Tryz.prog 64 #[.string ⟨#[45]⟩] w fun e w' => e = .returned (.tuple #[.int .i64 0, .int .i64 0, .string ⟨#[]⟩, .int .i64 0]) ∧ Below w.heap.size w w' := by
 go_enter Tryz.func64, Tryz.ntmps64
 go_wp2_with fail
 exact bodyPost_ret (v := .tuple #[.int .i64 0, .int .i64 0, .string ⟨#[]⟩, .int .i64 0]) (by simp [results, Tryz.results64, go_sem]) rfl ⟨rfl, Below.refl _ _⟩
theorem rrules_any (f : ByteArray) (w : World) (hs : f.size ≤ 600) :
  Calls Tryz.prog 64 #[.string f] w fun e w' => e = .returned (.tuple #[.int .i64 (Er.rk f).1, .int .i64 (Er.rk f).2.1, .string (Er.rk f).2.2, .int .i64 (Er.rq f)]) ∧ Below w.heap.size w w' := by
 unfold Er.rk Er.rq
 by_cases h1 : f = ⟨#[45]⟩
 ·
  subst h1
  rw [if_pos rfl, if_pos rfl]
  exact rrules_none w
 ·
  rw [if_neg h1, if_neg h1, Er.isA_dg]
  cases d0 : Er.dg f.data.toList 0 with
  | true =>
   rw [Bool.true_or, if_pos rfl, if_pos rfl, Er.am_sv]
   exact rrules_one f w hs h1 d0
  | false =>
   rw [Bool.false_or]
   by_cases h0 : 0 < f.size
   ·
    by_cases h2 : f.data.toList[0]? = some 45
    ·
     rw [decide_eq_true h2, Bool.true_and]
     cases d1 : Er.dg f.data.toList 1 with
     | true =>
      rw [if_pos rfl, if_pos rfl, Er.am_sv]
      exact rrules_minus f w hs h1 d0 h0 h2 d1
     | false =>
      rw [if_neg (by decide), if_neg (by decide)]
      exact rrules_minusno f w hs h1 d0 h0 h2 d1
    ·
     rw [decide_eq_false h2, Bool.false_and, if_neg (by decide), if_neg (by decide)]
     exact rrules_other f w hs h1 d0 h0 h2
   ·
    have hf : f = ⟨#[]⟩ := by
     apply ByteArray.ext
     apply Array.toList_inj.1
     have h8 : f.data.toList.length = 0 := by
      have h9 : f.data.toList.length = f.size := by rw [Array.length_toList]; rfl
      omega
     exact List.eq_nil_of_length_eq_zero h8
    rw [show decide (f.data.toList[0]? = some 45) = false by subst hf; rfl, Bool.false_and, if_neg (by decide), if_neg (by decide)]
    exact rrules_empty f w hs hf
set_option maxHeartbeats 8000000 in
set_option maxRecDepth 100000 in
theorem rend_0 (v : Value) (w : World) (S : StS w v []) (hz : ∀ x ∈ ([] : List ByteArray), x.size ≤ 600) :
  Calls Tryz.prog 65 #[v] w fun e w' => Below w.heap.size w w' ∧ ∃ u : Er.U, e = .returned (.tuple #[u.v, .int .i64 (Ru.fst (Er.enW []))]) ∧ (Ru.fst (Er.enW []) = 0 → u = Er.enV []) := by
 obtain ⟨A, c, rfl, -⟩ := S
 rw [show Ru.fst (Er.enW []) = 0 from rfl]
 go_enter Tryz.func65, Tryz.ntmps65
 go_wp2_with fail
 exact bodyPost_ret (v := .tuple #[.agg #[.bool false, .int .i64 0, .int .i64 0, .int .i64 0, .int .i64 0, .int .i64 0, .int .i64 0, .int .i64 0], .int .i64 0]) (by simp [results, Tryz.results65, go_sem]) rfl ⟨by repeat (first | exact Below.refl _ _ | refine Below.setCell ?_ (by first | (simp; done) | (simp; omega) | omega) _ | refine Below.alloc ?_ (by first | (simp; done) | (simp; omega) | omega) _), Er.U0, rfl, fun _ => rfl⟩
set_option maxHeartbeats 8000000 in
set_option maxRecDepth 100000 in
theorem rend_1 (v : Value) (f0 : ByteArray) (w : World) (S : StS w v [f0]) (hz : ∀ x ∈ ([f0] : List ByteArray), x.size ≤ 600) :
  Calls Tryz.prog 65 #[v] w fun e w' => Below w.heap.size w w' ∧ ∃ u : Er.U, e = .returned (.tuple #[u.v, .int .i64 (Ru.fst (Er.enW [f0]))]) ∧ (Ru.fst (Er.enW [f0]) = 0 → u = Er.enV [f0]) := by
 have z0 := hz f0 (by simp)
 have RD := Lib.hid (fun W => rread_any f0 W (Nat.le_trans z0 (by decide)))
 obtain ⟨A, c, rfl, hA⟩ := S
 obtain ⟨q, rfl, hq, hcell⟩ := hA (by simp)
 have HC : Hid (∀ W, Below w.heap.size w W → W.cell? q = some (.string f0)) := fun W b => by
  have k : ∀ i x, ([f0].map Value.string)[i]? = some x → W.cell? (q.add i) = some x := fun i x hx => by
   have := hcell i x hx
   exact (b.cell (by rw [blk_add]; exact hq)).trans this
  have k0 := k 0 _ rfl
  rw [Addr.add_zero'] at k0
  have kk : ∀ i, q.add (i + 1) = ⟨q.block, q.off + (i + 1), none⟩ := fun i => by rw [Addr.add_succ']
  exact k0
 have n1 : q.block ≠ w.heap.size := Nat.ne_of_lt hq
 have n3 : w.heap.size ≠ q.block := Nat.ne_of_gt hq
 clear hcell hz z0 hA
 obtain ⟨F, hF⟩ : ∃ F, F = Ru.fst (Er.enW [f0]) := ⟨_, rfl⟩
 obtain ⟨V, hV⟩ : ∃ V, V = Er.enV [f0] := ⟨_, rfl⟩
 rw [← hF, ← hV]
 replace hF : F = Ru.fst [(Er.yr f0.data.toList).2, 0, 0, 0] := hF
 replace hV : V = ⟨true, (Er.yr f0.data.toList).1, 1, 0, 0, 1, 0, 0⟩ := hV
 unfold Er.yr at hF hV
 generalize (Num.rd f0.data.toList).1 = n0 at *
 generalize (Num.rd f0.data.toList).2 = q0 at *
 have HF := Lib.hid hF; have HV := Lib.hid hV; clear hF hV
 go_enter Tryz.func65, Tryz.ntmps65
 have g0 := HC.out _ (Below.refl _ _)
 go_upto_region 4 with (fail)
 refine wp_named ?_; intro w1 hw1
 have d1 : Below w.heap.size w w1 := by rw [hw1]; exact gr0
 have B1 := Lib.hid d1
 have Z1 : Bk8 w1 (w.heap.size) (.bool false) (.int .i64 0) (.int .i64 0) (.int .i64 0) (.int .i64 0) (.int .i64 0) (.int .i64 0) (.int .i64 0) := by rw [hw1]; exact ⟨by simp <;> omega, by intro j; simp [go_sem], by simp [go_sem], by simp [go_sem], by simp [go_sem], by simp [go_sem], by simp [go_sem], by simp [go_sem], by simp [go_sem], by simp [go_sem]⟩
 have UU1 : Bk8 w1 (w.heap.size + 1) (.bool true) (.int .i64 0) (.int .i64 1) (.int .i64 0) (.int .i64 0) (.int .i64 1) (.int .i64 0) (.int .i64 0) := by rw [hw1]; exact ⟨by simp <;> omega, by intro j; simp [go_sem], by simp [go_sem], by simp [go_sem], by simp [go_sem], by simp [go_sem], by simp [go_sem], by simp [go_sem], by simp [go_sem], by simp [go_sem]⟩
 clear d1 hw1
 clear g0
 have g0 := HC.out _ B1.out
 have hqk := Nat.lt_of_lt_of_le hq B1.out.size
 have tx := Z1; obtain ⟨cZ_b, cZ_f, cZ_0, cZ_1, cZ_2, cZ_3, cZ_4, cZ_5, cZ_6, cZ_7⟩ := tx
 have tx := UU1; obtain ⟨cUU_b, cUU_f, cUU_0, cUU_1, cUU_2, cUU_3, cUU_4, cUU_5, cUU_6, cUU_7⟩ := tx
 go_wp2_with fail
 clear cZ_b cZ_f cZ_0 cZ_1 cZ_2 cZ_3 cZ_4 cZ_5 cZ_6 cZ_7 cUU_b cUU_f cUU_0 cUU_1 cUU_2 cUU_3 cUU_4 cUU_5 cUU_6 cUU_7
 refine (RD.out _).mono ?_; rintro e v1 ⟨rfl, rfl⟩
 by_cases h0 : q0 = 0
 case neg =>
  have ey : Er.yrF n0 q0 = (n0, q0) := if_neg (fun h => h0 h.1)
  rw [ey] at HF
  obtain rfl : F = q0 := by rw [HF.out]; exact Ru.fst_no h0
  have hb0 : (F == 0) = false := by rw [beq_eq_false_iff_ne]; exact h0
  have tx := Z1; obtain ⟨cZ_b, cZ_f, cZ_0, cZ_1, cZ_2, cZ_3, cZ_4, cZ_5, cZ_6, cZ_7⟩ := tx
  have tx := UU1; obtain ⟨cUU_b, cUU_f, cUU_0, cUU_1, cUU_2, cUU_3, cUU_4, cUU_5, cUU_6, cUU_7⟩ := tx
  go_upto_region 14 with (fail)
  clear cZ_b cZ_f cZ_0 cZ_1 cZ_2 cZ_3 cZ_4 cZ_5 cZ_6 cZ_7 cUU_b cUU_f cUU_0 cUU_1 cUU_2 cUU_3 cUU_4 cUU_5 cUU_6 cUU_7
  refine wp_named ?_; intro w2 hw2
  have B2 := Lib.hid (show Below w.heap.size w w2 by rw [hw2]; exact grB B1)
  have UU2 := UU1.set1 (v := (.int .i64 n0)) hw2
  have Z2 := Z1.other hw2 (by have := Z1.hb; have := UU1.hb; omega)
  clear UU1 Z1 hw2 B1
  clear g0
  have tx := UU2; obtain ⟨cUU_b, cUU_f, cUU_0, cUU_1, cUU_2, cUU_3, cUU_4, cUU_5, cUU_6, cUU_7⟩ := tx
  have tx := Z2; obtain ⟨cZ_b, cZ_f, cZ_0, cZ_1, cZ_2, cZ_3, cZ_4, cZ_5, cZ_6, cZ_7⟩ := tx
  refine wp_region_lit ?_
  go_step; go_simp; go_step
  go_step; go_simp; go_step
  clear cUU_b cUU_f cUU_0 cUU_1 cUU_2 cUU_3 cUU_4 cUU_5 cUU_6 cUU_7 cZ_b cZ_f cZ_0 cZ_1 cZ_2 cZ_3 cZ_4 cZ_5 cZ_6 cZ_7
  refine wpList_st8 ?_ 41 (Operand.tmp 2) (Operand.tmp 79) ?_ w.heap.size (.bool true) (.int .i64 n0) (.int .i64 1) (.int .i64 0) (.int .i64 0) (.int .i64 1) (.int .i64 0) (.int .i64 0) ?_ ?_ ?_ Z2 ?_ (fun W9 C hbel => ?_)
  ·
   rfl
  ·
   rfl
  ·
   rfl
  ·
   rfl
  ·
   kernel_rfl
  ·
   simp [Value.oneCell']
  have d9 := hbel _ _ (Nat.le_refl _) B2.out
  clear hbel UU2 Z2
  have e0 := C.k0; have e1 := C.k1; have e2 := C.k2; have e3 := C.k3; have e4 := C.k4; have e5 := C.k5; have e6 := C.k6; have e7 := C.k7
  clear C
  go_step; go_simp; go_step
  go_step; go_simp; go_step
  go_step
  simp +zetaDelta only [Exit.then, Exit.inBlock]
  exact bodyPost_ret (v := .tuple #[.agg #[.bool true, .int .i64 n0, .int .i64 1, .int .i64 0, .int .i64 0, .int .i64 1, .int .i64 0, .int .i64 0], .int .i64 F]) (by simp [results, Tryz.results65, go_sem, e0, e1, e2, e3, e4, e5, e6, e7]) rfl ⟨d9, ⟨true, n0, 1, 0, 0, 1, 0, 0⟩, rfl, fun h => absurd h h0⟩
 subst h0
 by_cases h1 : n0 ≤ -32767
 case pos =>
  have ey : Er.yrF n0 0 = (0, 1) := if_pos ⟨rfl, .inl h1⟩
  rw [ey] at HF
  obtain rfl : F = 1 := by rw [HF.out]; exact Ru.fst_no (by decide)
  have tx := Z1; obtain ⟨cZ_b, cZ_f, cZ_0, cZ_1, cZ_2, cZ_3, cZ_4, cZ_5, cZ_6, cZ_7⟩ := tx
  have tx := UU1; obtain ⟨cUU_b, cUU_f, cUU_0, cUU_1, cUU_2, cUU_3, cUU_4, cUU_5, cUU_6, cUU_7⟩ := tx
  go_upto_region 14 with (fail)
  clear cZ_b cZ_f cZ_0 cZ_1 cZ_2 cZ_3 cZ_4 cZ_5 cZ_6 cZ_7 cUU_b cUU_f cUU_0 cUU_1 cUU_2 cUU_3 cUU_4 cUU_5 cUU_6 cUU_7
  refine wp_named ?_; intro w2 hw2
  have B2 := Lib.hid (show Below w.heap.size w w2 by rw [hw2]; exact grB B1)
  have UU2 := UU1.set1 (v := (.int .i64 n0)) hw2
  have Z2 := Z1.other hw2 (by have := Z1.hb; have := UU1.hb; omega)
  clear UU1 Z1 hw2 B1
  clear g0
  have tx := UU2; obtain ⟨cUU_b, cUU_f, cUU_0, cUU_1, cUU_2, cUU_3, cUU_4, cUU_5, cUU_6, cUU_7⟩ := tx
  have tx := Z2; obtain ⟨cZ_b, cZ_f, cZ_0, cZ_1, cZ_2, cZ_3, cZ_4, cZ_5, cZ_6, cZ_7⟩ := tx
  refine wp_region_lit ?_
  go_step; go_simp; go_step
  go_step; go_simp; go_step
  clear cUU_b cUU_f cUU_0 cUU_1 cUU_2 cUU_3 cUU_4 cUU_5 cUU_6 cUU_7 cZ_b cZ_f cZ_0 cZ_1 cZ_2 cZ_3 cZ_4 cZ_5 cZ_6 cZ_7
  refine wpList_st8 ?_ 41 (Operand.tmp 2) (Operand.tmp 79) ?_ w.heap.size (.bool true) (.int .i64 n0) (.int .i64 1) (.int .i64 0) (.int .i64 0) (.int .i64 1) (.int .i64 0) (.int .i64 0) ?_ ?_ ?_ Z2 ?_ (fun W9 C hbel => ?_)
  ·
   rfl
  ·
   rfl
  ·
   rfl
  ·
   rfl
  ·
   kernel_rfl
  ·
   simp [Value.oneCell']
  have d9 := hbel _ _ (Nat.le_refl _) B2.out
  clear hbel UU2 Z2
  have e0 := C.k0; have e1 := C.k1; have e2 := C.k2; have e3 := C.k3; have e4 := C.k4; have e5 := C.k5; have e6 := C.k6; have e7 := C.k7
  clear C
  go_step; go_simp; go_step
  go_step; go_simp; go_step
  go_step
  simp +zetaDelta only [Exit.then, Exit.inBlock]
  exact bodyPost_ret (v := .tuple #[.agg #[.bool true, .int .i64 n0, .int .i64 1, .int .i64 0, .int .i64 0, .int .i64 1, .int .i64 0, .int .i64 0], .int .i64 1]) (by simp [results, Tryz.results65, go_sem, e0, e1, e2, e3, e4, e5, e6, e7]) rfl ⟨d9, ⟨true, n0, 1, 0, 0, 1, 0, 0⟩, rfl, fun h => absurd h (by decide)⟩
 by_cases h2 : 32767 ≤ n0
 case pos =>
  have ey : Er.yrF n0 0 = (0, 1) := if_pos ⟨rfl, .inr h2⟩
  rw [ey] at HF
  obtain rfl : F = 1 := by rw [HF.out]; exact Ru.fst_no (by decide)
  have tx := Z1; obtain ⟨cZ_b, cZ_f, cZ_0, cZ_1, cZ_2, cZ_3, cZ_4, cZ_5, cZ_6, cZ_7⟩ := tx
  have tx := UU1; obtain ⟨cUU_b, cUU_f, cUU_0, cUU_1, cUU_2, cUU_3, cUU_4, cUU_5, cUU_6, cUU_7⟩ := tx
  go_upto_region 14 with (fail)
  clear cZ_b cZ_f cZ_0 cZ_1 cZ_2 cZ_3 cZ_4 cZ_5 cZ_6 cZ_7 cUU_b cUU_f cUU_0 cUU_1 cUU_2 cUU_3 cUU_4 cUU_5 cUU_6 cUU_7
  refine wp_named ?_; intro w2 hw2
  have B2 := Lib.hid (show Below w.heap.size w w2 by rw [hw2]; exact grB B1)
  have UU2 := UU1.set1 (v := (.int .i64 n0)) hw2
  have Z2 := Z1.other hw2 (by have := Z1.hb; have := UU1.hb; omega)
  clear UU1 Z1 hw2 B1
  clear g0
  have tx := UU2; obtain ⟨cUU_b, cUU_f, cUU_0, cUU_1, cUU_2, cUU_3, cUU_4, cUU_5, cUU_6, cUU_7⟩ := tx
  have tx := Z2; obtain ⟨cZ_b, cZ_f, cZ_0, cZ_1, cZ_2, cZ_3, cZ_4, cZ_5, cZ_6, cZ_7⟩ := tx
  refine wp_region_lit ?_
  go_step; go_simp; go_step
  go_step; go_simp; go_step
  clear cUU_b cUU_f cUU_0 cUU_1 cUU_2 cUU_3 cUU_4 cUU_5 cUU_6 cUU_7 cZ_b cZ_f cZ_0 cZ_1 cZ_2 cZ_3 cZ_4 cZ_5 cZ_6 cZ_7
  refine wpList_st8 ?_ 41 (Operand.tmp 2) (Operand.tmp 79) ?_ w.heap.size (.bool true) (.int .i64 n0) (.int .i64 1) (.int .i64 0) (.int .i64 0) (.int .i64 1) (.int .i64 0) (.int .i64 0) ?_ ?_ ?_ Z2 ?_ (fun W9 C hbel => ?_)
  ·
   rfl
  ·
   rfl
  ·
   rfl
  ·
   rfl
  ·
   kernel_rfl
  ·
   simp [Value.oneCell']
  have d9 := hbel _ _ (Nat.le_refl _) B2.out
  clear hbel UU2 Z2
  have e0 := C.k0; have e1 := C.k1; have e2 := C.k2; have e3 := C.k3; have e4 := C.k4; have e5 := C.k5; have e6 := C.k6; have e7 := C.k7
  clear C
  go_step; go_simp; go_step
  go_step; go_simp; go_step
  go_step
  simp +zetaDelta only [Exit.then, Exit.inBlock]
  exact bodyPost_ret (v := .tuple #[.agg #[.bool true, .int .i64 n0, .int .i64 1, .int .i64 0, .int .i64 0, .int .i64 1, .int .i64 0, .int .i64 0], .int .i64 1]) (by simp [results, Tryz.results65, go_sem, e0, e1, e2, e3, e4, e5, e6, e7]) rfl ⟨d9, ⟨true, n0, 1, 0, 0, 1, 0, 0⟩, rfl, fun h => absurd h (by decide)⟩
 have ey : Er.yrF n0 0 = (n0, 0) := if_neg (fun h => h.2.elim h1 h2)
 rw [ey] at HF HV
 clear ey
 have tx := Z1; obtain ⟨cZ_b, cZ_f, cZ_0, cZ_1, cZ_2, cZ_3, cZ_4, cZ_5, cZ_6, cZ_7⟩ := tx
 have tx := UU1; obtain ⟨cUU_b, cUU_f, cUU_0, cUU_1, cUU_2, cUU_3, cUU_4, cUU_5, cUU_6, cUU_7⟩ := tx
 go_upto_region 14 with (fail)
 clear cZ_b cZ_f cZ_0 cZ_1 cZ_2 cZ_3 cZ_4 cZ_5 cZ_6 cZ_7 cUU_b cUU_f cUU_0 cUU_1 cUU_2 cUU_3 cUU_4 cUU_5 cUU_6 cUU_7
 refine wp_named ?_; intro w2 hw2
 have B2 := Lib.hid (show Below w.heap.size w w2 by rw [hw2]; exact grB B1)
 have UU2 := UU1.set1 (v := (.int .i64 n0)) hw2
 have Z2 := Z1.other hw2 (by have := Z1.hb; have := UU1.hb; omega)
 clear UU1 Z1 hw2 B1
 clear g0
 obtain rfl : F = 0 := by rw [HF.out]; simp [Ru.fst]
 have tx := UU2; obtain ⟨cUU_b, cUU_f, cUU_0, cUU_1, cUU_2, cUU_3, cUU_4, cUU_5, cUU_6, cUU_7⟩ := tx
 have tx := Z2; obtain ⟨cZ_b, cZ_f, cZ_0, cZ_1, cZ_2, cZ_3, cZ_4, cZ_5, cZ_6, cZ_7⟩ := tx
 refine wp_region_lit ?_
 go_step; go_simp; go_step
 go_step; go_simp; go_step
 clear cUU_b cUU_f cUU_0 cUU_1 cUU_2 cUU_3 cUU_4 cUU_5 cUU_6 cUU_7 cZ_b cZ_f cZ_0 cZ_1 cZ_2 cZ_3 cZ_4 cZ_5 cZ_6 cZ_7
 refine wpList_st8 ?_ 41 (Operand.tmp 2) (Operand.tmp 79) ?_ w.heap.size (.bool true) (.int .i64 n0) (.int .i64 1) (.int .i64 0) (.int .i64 0) (.int .i64 1) (.int .i64 0) (.int .i64 0) ?_ ?_ ?_ Z2 ?_ (fun W9 C hbel => ?_)
 ·
  rfl
 ·
  rfl
 ·
  rfl
 ·
  rfl
 ·
  kernel_rfl
 ·
  simp [Value.oneCell']
 have d9 := hbel _ _ (Nat.le_refl _) B2.out
 clear hbel UU2 Z2
 have e0 := C.k0; have e1 := C.k1; have e2 := C.k2; have e3 := C.k3; have e4 := C.k4; have e5 := C.k5; have e6 := C.k6; have e7 := C.k7
 clear C
 go_step; go_simp; go_step
 go_step; go_simp; go_step
 go_step
 simp +zetaDelta only [Exit.then, Exit.inBlock]
 exact bodyPost_ret (v := .tuple #[.agg #[.bool true, .int .i64 n0, .int .i64 1, .int .i64 0, .int .i64 0, .int .i64 1, .int .i64 0, .int .i64 0], .int .i64 0]) (by simp [results, Tryz.results65, go_sem, e0, e1, e2, e3, e4, e5, e6, e7]) rfl ⟨d9, ⟨true, n0, 1, 0, 0, 1, 0, 0⟩, rfl, fun _ => HV.out.symm⟩
set_option maxHeartbeats 8000000 in
set_option maxRecDepth 100000 in
theorem rend_2 (v : Value) (f0 f1 : ByteArray) (w : World) (S : StS w v [f0, f1]) (hz : ∀ x ∈ ([f0, f1] : List ByteArray), x.size ≤ 600) :
  Calls Tryz.prog 65 #[v] w fun e w' => Below w.heap.size w w' ∧ ∃ u : Er.U, e = .returned (.tuple #[u.v, .int .i64 (Ru.fst (Er.enW [f0, f1]))]) ∧ (Ru.fst (Er.enW [f0, f1]) = 0 → u = Er.enV [f0, f1]) := by
 have z0 := hz f0 (by simp); have z1 := hz f1 (by simp)
 have RD := Lib.hid (fun W => rread_any f0 W (Nat.le_trans z0 (by decide)))
 have MO := Lib.hid (fun W => monthr_any f1 W (Nat.le_trans z1 (by decide)))
 obtain ⟨A, c, rfl, hA⟩ := S
 obtain ⟨q, rfl, hq, hcell⟩ := hA (by simp)
 have HC : Hid (∀ W, Below w.heap.size w W → W.cell? q = some (.string f0) ∧ W.cell? ⟨q.block, q.off + 1, none⟩ = some (.string f1)) := fun W b => by
  have k : ∀ i x, ([f0, f1].map Value.string)[i]? = some x → W.cell? (q.add i) = some x := fun i x hx => by
   have := hcell i x hx
   exact (b.cell (by rw [blk_add]; exact hq)).trans this
  have k0 := k 0 _ rfl
  rw [Addr.add_zero'] at k0
  have kk : ∀ i, q.add (i + 1) = ⟨q.block, q.off + (i + 1), none⟩ := fun i => by rw [Addr.add_succ']
  have k1 := k 1 _ rfl; rw [kk 0] at k1
  exact ⟨k0, k1⟩
 have n1 : q.block ≠ w.heap.size := Nat.ne_of_lt hq
 have n3 : w.heap.size ≠ q.block := Nat.ne_of_gt hq
 clear hcell hz z0 z1 hA
 obtain ⟨F, hF⟩ : ∃ F, F = Ru.fst (Er.enW [f0, f1]) := ⟨_, rfl⟩
 obtain ⟨V, hV⟩ : ∃ V, V = Er.enV [f0, f1] := ⟨_, rfl⟩
 rw [← hF, ← hV]
 replace hF : F = Ru.fst [(Er.yr f0.data.toList).2, (Wd.mat f1.data.toList Wd.months).2, 0, 0] := hF
 replace hV : V = ⟨true, (Er.yr f0.data.toList).1, Ru.mo f1, 0, 0, 1, 0, 0⟩ := hV
 simp only [Ru.mo] at hF hV
 unfold Er.yr at hF hV
 generalize (Num.rd f0.data.toList).1 = n0 at *
 generalize (Num.rd f0.data.toList).2 = q0 at *
 generalize Wd.up (Wd.mat f1.data.toList Wd.months) = m at *
 generalize (Wd.mat f1.data.toList Wd.months).2 = q1 at *
 have HF := Lib.hid hF; have HV := Lib.hid hV; clear hF hV
 go_enter Tryz.func65, Tryz.ntmps65
 obtain ⟨g0, g1⟩ := HC.out _ (Below.refl _ _)
 go_upto_region 4 with (fail)
 refine wp_named ?_; intro w1 hw1
 have d1 : Below w.heap.size w w1 := by rw [hw1]; exact gr0
 have B1 := Lib.hid d1
 have Z1 : Bk8 w1 (w.heap.size) (.bool false) (.int .i64 0) (.int .i64 0) (.int .i64 0) (.int .i64 0) (.int .i64 0) (.int .i64 0) (.int .i64 0) := by rw [hw1]; exact ⟨by simp <;> omega, by intro j; simp [go_sem], by simp [go_sem], by simp [go_sem], by simp [go_sem], by simp [go_sem], by simp [go_sem], by simp [go_sem], by simp [go_sem], by simp [go_sem]⟩
 have UU1 : Bk8 w1 (w.heap.size + 1) (.bool true) (.int .i64 0) (.int .i64 1) (.int .i64 0) (.int .i64 0) (.int .i64 1) (.int .i64 0) (.int .i64 0) := by rw [hw1]; exact ⟨by simp <;> omega, by intro j; simp [go_sem], by simp [go_sem], by simp [go_sem], by simp [go_sem], by simp [go_sem], by simp [go_sem], by simp [go_sem], by simp [go_sem], by simp [go_sem]⟩
 clear d1 hw1
 clear g0 g1
 obtain ⟨g0, g1⟩ := HC.out _ B1.out
 have hqk := Nat.lt_of_lt_of_le hq B1.out.size
 have tx := Z1; obtain ⟨cZ_b, cZ_f, cZ_0, cZ_1, cZ_2, cZ_3, cZ_4, cZ_5, cZ_6, cZ_7⟩ := tx
 have tx := UU1; obtain ⟨cUU_b, cUU_f, cUU_0, cUU_1, cUU_2, cUU_3, cUU_4, cUU_5, cUU_6, cUU_7⟩ := tx
 go_wp2_with fail
 clear cZ_b cZ_f cZ_0 cZ_1 cZ_2 cZ_3 cZ_4 cZ_5 cZ_6 cZ_7 cUU_b cUU_f cUU_0 cUU_1 cUU_2 cUU_3 cUU_4 cUU_5 cUU_6 cUU_7
 refine (RD.out _).mono ?_; rintro e v1 ⟨rfl, rfl⟩
 by_cases h0 : q0 = 0
 case neg =>
  have ey : Er.yrF n0 q0 = (n0, q0) := if_neg (fun h => h0 h.1)
  rw [ey] at HF
  obtain rfl : F = q0 := by rw [HF.out]; exact Ru.fst_no h0
  have hb0 : (F == 0) = false := by rw [beq_eq_false_iff_ne]; exact h0
  have tx := Z1; obtain ⟨cZ_b, cZ_f, cZ_0, cZ_1, cZ_2, cZ_3, cZ_4, cZ_5, cZ_6, cZ_7⟩ := tx
  have tx := UU1; obtain ⟨cUU_b, cUU_f, cUU_0, cUU_1, cUU_2, cUU_3, cUU_4, cUU_5, cUU_6, cUU_7⟩ := tx
  go_upto_region 14 with (fail)
  clear cZ_b cZ_f cZ_0 cZ_1 cZ_2 cZ_3 cZ_4 cZ_5 cZ_6 cZ_7 cUU_b cUU_f cUU_0 cUU_1 cUU_2 cUU_3 cUU_4 cUU_5 cUU_6 cUU_7
  refine wp_named ?_; intro w2 hw2
  have B2 := Lib.hid (show Below w.heap.size w w2 by rw [hw2]; exact grB B1)
  have UU2 := UU1.set1 (v := (.int .i64 n0)) hw2
  have Z2 := Z1.other hw2 (by have := Z1.hb; have := UU1.hb; omega)
  clear UU1 Z1 hw2 B1
  clear g0 g1
  have tx := UU2; obtain ⟨cUU_b, cUU_f, cUU_0, cUU_1, cUU_2, cUU_3, cUU_4, cUU_5, cUU_6, cUU_7⟩ := tx
  have tx := Z2; obtain ⟨cZ_b, cZ_f, cZ_0, cZ_1, cZ_2, cZ_3, cZ_4, cZ_5, cZ_6, cZ_7⟩ := tx
  refine wp_region_lit ?_
  go_step; go_simp; go_step
  go_step; go_simp; go_step
  clear cUU_b cUU_f cUU_0 cUU_1 cUU_2 cUU_3 cUU_4 cUU_5 cUU_6 cUU_7 cZ_b cZ_f cZ_0 cZ_1 cZ_2 cZ_3 cZ_4 cZ_5 cZ_6 cZ_7
  refine wpList_st8 ?_ 41 (Operand.tmp 2) (Operand.tmp 79) ?_ w.heap.size (.bool true) (.int .i64 n0) (.int .i64 1) (.int .i64 0) (.int .i64 0) (.int .i64 1) (.int .i64 0) (.int .i64 0) ?_ ?_ ?_ Z2 ?_ (fun W9 C hbel => ?_)
  ·
   rfl
  ·
   rfl
  ·
   rfl
  ·
   rfl
  ·
   kernel_rfl
  ·
   simp [Value.oneCell']
  have d9 := hbel _ _ (Nat.le_refl _) B2.out
  clear hbel UU2 Z2
  have e0 := C.k0; have e1 := C.k1; have e2 := C.k2; have e3 := C.k3; have e4 := C.k4; have e5 := C.k5; have e6 := C.k6; have e7 := C.k7
  clear C
  go_step; go_simp; go_step
  go_step; go_simp; go_step
  go_step
  simp +zetaDelta only [Exit.then, Exit.inBlock]
  exact bodyPost_ret (v := .tuple #[.agg #[.bool true, .int .i64 n0, .int .i64 1, .int .i64 0, .int .i64 0, .int .i64 1, .int .i64 0, .int .i64 0], .int .i64 F]) (by simp [results, Tryz.results65, go_sem, e0, e1, e2, e3, e4, e5, e6, e7]) rfl ⟨d9, ⟨true, n0, 1, 0, 0, 1, 0, 0⟩, rfl, fun h => absurd h h0⟩
 subst h0
 by_cases h1 : n0 ≤ -32767
 case pos =>
  have ey : Er.yrF n0 0 = (0, 1) := if_pos ⟨rfl, .inl h1⟩
  rw [ey] at HF
  obtain rfl : F = 1 := by rw [HF.out]; exact Ru.fst_no (by decide)
  have tx := Z1; obtain ⟨cZ_b, cZ_f, cZ_0, cZ_1, cZ_2, cZ_3, cZ_4, cZ_5, cZ_6, cZ_7⟩ := tx
  have tx := UU1; obtain ⟨cUU_b, cUU_f, cUU_0, cUU_1, cUU_2, cUU_3, cUU_4, cUU_5, cUU_6, cUU_7⟩ := tx
  go_upto_region 14 with (fail)
  clear cZ_b cZ_f cZ_0 cZ_1 cZ_2 cZ_3 cZ_4 cZ_5 cZ_6 cZ_7 cUU_b cUU_f cUU_0 cUU_1 cUU_2 cUU_3 cUU_4 cUU_5 cUU_6 cUU_7
  refine wp_named ?_; intro w2 hw2
  have B2 := Lib.hid (show Below w.heap.size w w2 by rw [hw2]; exact grB B1)
  have UU2 := UU1.set1 (v := (.int .i64 n0)) hw2
  have Z2 := Z1.other hw2 (by have := Z1.hb; have := UU1.hb; omega)
  clear UU1 Z1 hw2 B1
  clear g0 g1
  have tx := UU2; obtain ⟨cUU_b, cUU_f, cUU_0, cUU_1, cUU_2, cUU_3, cUU_4, cUU_5, cUU_6, cUU_7⟩ := tx
  have tx := Z2; obtain ⟨cZ_b, cZ_f, cZ_0, cZ_1, cZ_2, cZ_3, cZ_4, cZ_5, cZ_6, cZ_7⟩ := tx
  refine wp_region_lit ?_
  go_step; go_simp; go_step
  go_step; go_simp; go_step
  clear cUU_b cUU_f cUU_0 cUU_1 cUU_2 cUU_3 cUU_4 cUU_5 cUU_6 cUU_7 cZ_b cZ_f cZ_0 cZ_1 cZ_2 cZ_3 cZ_4 cZ_5 cZ_6 cZ_7
  refine wpList_st8 ?_ 41 (Operand.tmp 2) (Operand.tmp 79) ?_ w.heap.size (.bool true) (.int .i64 n0) (.int .i64 1) (.int .i64 0) (.int .i64 0) (.int .i64 1) (.int .i64 0) (.int .i64 0) ?_ ?_ ?_ Z2 ?_ (fun W9 C hbel => ?_)
  ·
   rfl
  ·
   rfl
  ·
   rfl
  ·
   rfl
  ·
   kernel_rfl
  ·
   simp [Value.oneCell']
  have d9 := hbel _ _ (Nat.le_refl _) B2.out
  clear hbel UU2 Z2
  have e0 := C.k0; have e1 := C.k1; have e2 := C.k2; have e3 := C.k3; have e4 := C.k4; have e5 := C.k5; have e6 := C.k6; have e7 := C.k7
  clear C
  go_step; go_simp; go_step
  go_step; go_simp; go_step
  go_step
  simp +zetaDelta only [Exit.then, Exit.inBlock]
  exact bodyPost_ret (v := .tuple #[.agg #[.bool true, .int .i64 n0, .int .i64 1, .int .i64 0, .int .i64 0, .int .i64 1, .int .i64 0, .int .i64 0], .int .i64 1]) (by simp [results, Tryz.results65, go_sem, e0, e1, e2, e3, e4, e5, e6, e7]) rfl ⟨d9, ⟨true, n0, 1, 0, 0, 1, 0, 0⟩, rfl, fun h => absurd h (by decide)⟩
 by_cases h2 : 32767 ≤ n0
 case pos =>
  have ey : Er.yrF n0 0 = (0, 1) := if_pos ⟨rfl, .inr h2⟩
  rw [ey] at HF
  obtain rfl : F = 1 := by rw [HF.out]; exact Ru.fst_no (by decide)
  have tx := Z1; obtain ⟨cZ_b, cZ_f, cZ_0, cZ_1, cZ_2, cZ_3, cZ_4, cZ_5, cZ_6, cZ_7⟩ := tx
  have tx := UU1; obtain ⟨cUU_b, cUU_f, cUU_0, cUU_1, cUU_2, cUU_3, cUU_4, cUU_5, cUU_6, cUU_7⟩ := tx
  go_upto_region 14 with (fail)
  clear cZ_b cZ_f cZ_0 cZ_1 cZ_2 cZ_3 cZ_4 cZ_5 cZ_6 cZ_7 cUU_b cUU_f cUU_0 cUU_1 cUU_2 cUU_3 cUU_4 cUU_5 cUU_6 cUU_7
  refine wp_named ?_; intro w2 hw2
  have B2 := Lib.hid (show Below w.heap.size w w2 by rw [hw2]; exact grB B1)
  have UU2 := UU1.set1 (v := (.int .i64 n0)) hw2
  have Z2 := Z1.other hw2 (by have := Z1.hb; have := UU1.hb; omega)
  clear UU1 Z1 hw2 B1
  clear g0 g1
  have tx := UU2; obtain ⟨cUU_b, cUU_f, cUU_0, cUU_1, cUU_2, cUU_3, cUU_4, cUU_5, cUU_6, cUU_7⟩ := tx
  have tx := Z2; obtain ⟨cZ_b, cZ_f, cZ_0, cZ_1, cZ_2, cZ_3, cZ_4, cZ_5, cZ_6, cZ_7⟩ := tx
  refine wp_region_lit ?_
  go_step; go_simp; go_step
  go_step; go_simp; go_step
  clear cUU_b cUU_f cUU_0 cUU_1 cUU_2 cUU_3 cUU_4 cUU_5 cUU_6 cUU_7 cZ_b cZ_f cZ_0 cZ_1 cZ_2 cZ_3 cZ_4 cZ_5 cZ_6 cZ_7
  refine wpList_st8 ?_ 41 (Operand.tmp 2) (Operand.tmp 79) ?_ w.heap.size (.bool true) (.int .i64 n0) (.int .i64 1) (.int .i64 0) (.int .i64 0) (.int .i64 1) (.int .i64 0) (.int .i64 0) ?_ ?_ ?_ Z2 ?_ (fun W9 C hbel => ?_)
  ·
   rfl
  ·
   rfl
  ·
   rfl
  ·
   rfl
  ·
   kernel_rfl
  ·
   simp [Value.oneCell']
  have d9 := hbel _ _ (Nat.le_refl _) B2.out
  clear hbel UU2 Z2
  have e0 := C.k0; have e1 := C.k1; have e2 := C.k2; have e3 := C.k3; have e4 := C.k4; have e5 := C.k5; have e6 := C.k6; have e7 := C.k7
  clear C
  go_step; go_simp; go_step
  go_step; go_simp; go_step
  go_step
  simp +zetaDelta only [Exit.then, Exit.inBlock]
  exact bodyPost_ret (v := .tuple #[.agg #[.bool true, .int .i64 n0, .int .i64 1, .int .i64 0, .int .i64 0, .int .i64 1, .int .i64 0, .int .i64 0], .int .i64 1]) (by simp [results, Tryz.results65, go_sem, e0, e1, e2, e3, e4, e5, e6, e7]) rfl ⟨d9, ⟨true, n0, 1, 0, 0, 1, 0, 0⟩, rfl, fun h => absurd h (by decide)⟩
 have ey : Er.yrF n0 0 = (n0, 0) := if_neg (fun h => h.2.elim h1 h2)
 rw [ey] at HF HV
 clear ey
 have tx := Z1; obtain ⟨cZ_b, cZ_f, cZ_0, cZ_1, cZ_2, cZ_3, cZ_4, cZ_5, cZ_6, cZ_7⟩ := tx
 have tx := UU1; obtain ⟨cUU_b, cUU_f, cUU_0, cUU_1, cUU_2, cUU_3, cUU_4, cUU_5, cUU_6, cUU_7⟩ := tx
 go_upto_region 9 with (fail)
 clear cZ_b cZ_f cZ_0 cZ_1 cZ_2 cZ_3 cZ_4 cZ_5 cZ_6 cZ_7 cUU_b cUU_f cUU_0 cUU_1 cUU_2 cUU_3 cUU_4 cUU_5 cUU_6 cUU_7
 refine wp_named ?_; intro w2 hw2
 have B2 := Lib.hid (show Below w.heap.size w w2 by rw [hw2]; exact grB B1)
 have UU2 := UU1.set1 (v := (.int .i64 n0)) hw2
 have Z2 := Z1.other hw2 (by have := Z1.hb; have := UU1.hb; omega)
 clear UU1 Z1 hw2 B1
 clear g0 g1
 obtain ⟨g0, g1⟩ := HC.out _ B2.out
 have hqk := Nat.lt_of_lt_of_le hq B2.out.size
 have tx := UU2; obtain ⟨cUU_b, cUU_f, cUU_0, cUU_1, cUU_2, cUU_3, cUU_4, cUU_5, cUU_6, cUU_7⟩ := tx
 have tx := Z2; obtain ⟨cZ_b, cZ_f, cZ_0, cZ_1, cZ_2, cZ_3, cZ_4, cZ_5, cZ_6, cZ_7⟩ := tx
 go_wp2_with fail
 clear cUU_b cUU_f cUU_0 cUU_1 cUU_2 cUU_3 cUU_4 cUU_5 cUU_6 cUU_7 cZ_b cZ_f cZ_0 cZ_1 cZ_2 cZ_3 cZ_4 cZ_5 cZ_6 cZ_7
 refine (MO.out _).mono ?_; rintro e w3 ⟨rfl, b3⟩
 have d3 : Below w2.heap.size w2 w3 := below_step gr0 b3
 have B3 := Lib.hid (below_step B2.out d3)
 have UU3 := UU2.keep d3
 have Z3 := Z2.keep d3
 clear UU2 Z2 b3 d3 B2
 clear g0 g1
 obtain ⟨g0, g1⟩ := HC.out _ B3.out
 have hqk := Nat.lt_of_lt_of_le hq B3.out.size
 by_cases h3 : q1 = 0
 case neg =>
  obtain rfl : F = q1 := by rw [HF.out]; simp [Ru.fst, h3]
  have hb1 : (F == 0) = false := by rw [beq_eq_false_iff_ne]; exact h3
  have tx := UU3; obtain ⟨cUU_b, cUU_f, cUU_0, cUU_1, cUU_2, cUU_3, cUU_4, cUU_5, cUU_6, cUU_7⟩ := tx
  have tx := Z3; obtain ⟨cZ_b, cZ_f, cZ_0, cZ_1, cZ_2, cZ_3, cZ_4, cZ_5, cZ_6, cZ_7⟩ := tx
  go_upto_region 14 with (fail)
  clear cUU_b cUU_f cUU_0 cUU_1 cUU_2 cUU_3 cUU_4 cUU_5 cUU_6 cUU_7 cZ_b cZ_f cZ_0 cZ_1 cZ_2 cZ_3 cZ_4 cZ_5 cZ_6 cZ_7
  refine wp_named ?_; intro w4 hw4
  have B4 := Lib.hid (show Below w.heap.size w w4 by rw [hw4]; exact grB B3)
  have UU4 := UU3.set2 (v := (.int .i64 m)) hw4
  have Z4 := Z3.other hw4 (by have := Z3.hb; have := UU3.hb; omega)
  clear UU3 Z3 hw4 B3
  clear g0 g1
  have tx := UU4; obtain ⟨cUU_b, cUU_f, cUU_0, cUU_1, cUU_2, cUU_3, cUU_4, cUU_5, cUU_6, cUU_7⟩ := tx
  have tx := Z4; obtain ⟨cZ_b, cZ_f, cZ_0, cZ_1, cZ_2, cZ_3, cZ_4, cZ_5, cZ_6, cZ_7⟩ := tx
  refine wp_region_lit ?_
  go_step; go_simp; go_step
  go_step; go_simp; go_step
  clear cUU_b cUU_f cUU_0 cUU_1 cUU_2 cUU_3 cUU_4 cUU_5 cUU_6 cUU_7 cZ_b cZ_f cZ_0 cZ_1 cZ_2 cZ_3 cZ_4 cZ_5 cZ_6 cZ_7
  refine wpList_st8 ?_ 41 (Operand.tmp 2) (Operand.tmp 79) ?_ w.heap.size (.bool true) (.int .i64 n0) (.int .i64 m) (.int .i64 0) (.int .i64 0) (.int .i64 1) (.int .i64 0) (.int .i64 0) ?_ ?_ ?_ Z4 ?_ (fun W9 C hbel => ?_)
  ·
   rfl
  ·
   rfl
  ·
   rfl
  ·
   rfl
  ·
   kernel_rfl
  ·
   simp [Value.oneCell']
  have d9 := hbel _ _ (Nat.le_refl _) B4.out
  clear hbel UU4 Z4
  have e0 := C.k0; have e1 := C.k1; have e2 := C.k2; have e3 := C.k3; have e4 := C.k4; have e5 := C.k5; have e6 := C.k6; have e7 := C.k7
  clear C
  go_step; go_simp; go_step
  go_step; go_simp; go_step
  go_step
  simp +zetaDelta only [Exit.then, Exit.inBlock]
  exact bodyPost_ret (v := .tuple #[.agg #[.bool true, .int .i64 n0, .int .i64 m, .int .i64 0, .int .i64 0, .int .i64 1, .int .i64 0, .int .i64 0], .int .i64 F]) (by simp [results, Tryz.results65, go_sem, e0, e1, e2, e3, e4, e5, e6, e7]) rfl ⟨d9, ⟨true, n0, m, 0, 0, 1, 0, 0⟩, rfl, fun h => absurd h h3⟩
 subst h3
 have tx := UU3; obtain ⟨cUU_b, cUU_f, cUU_0, cUU_1, cUU_2, cUU_3, cUU_4, cUU_5, cUU_6, cUU_7⟩ := tx
 have tx := Z3; obtain ⟨cZ_b, cZ_f, cZ_0, cZ_1, cZ_2, cZ_3, cZ_4, cZ_5, cZ_6, cZ_7⟩ := tx
 go_upto_region 14 with (fail)
 clear cUU_b cUU_f cUU_0 cUU_1 cUU_2 cUU_3 cUU_4 cUU_5 cUU_6 cUU_7 cZ_b cZ_f cZ_0 cZ_1 cZ_2 cZ_3 cZ_4 cZ_5 cZ_6 cZ_7
 refine wp_named ?_; intro w4 hw4
 have B4 := Lib.hid (show Below w.heap.size w w4 by rw [hw4]; exact grB B3)
 have UU4 := UU3.set2 (v := (.int .i64 m)) hw4
 have Z4 := Z3.other hw4 (by have := Z3.hb; have := UU3.hb; omega)
 clear UU3 Z3 hw4 B3
 clear g0 g1
 obtain rfl : F = 0 := by rw [HF.out]; simp [Ru.fst]
 have tx := UU4; obtain ⟨cUU_b, cUU_f, cUU_0, cUU_1, cUU_2, cUU_3, cUU_4, cUU_5, cUU_6, cUU_7⟩ := tx
 have tx := Z4; obtain ⟨cZ_b, cZ_f, cZ_0, cZ_1, cZ_2, cZ_3, cZ_4, cZ_5, cZ_6, cZ_7⟩ := tx
 refine wp_region_lit ?_
 go_step; go_simp; go_step
 go_step; go_simp; go_step
 clear cUU_b cUU_f cUU_0 cUU_1 cUU_2 cUU_3 cUU_4 cUU_5 cUU_6 cUU_7 cZ_b cZ_f cZ_0 cZ_1 cZ_2 cZ_3 cZ_4 cZ_5 cZ_6 cZ_7
 refine wpList_st8 ?_ 41 (Operand.tmp 2) (Operand.tmp 79) ?_ w.heap.size (.bool true) (.int .i64 n0) (.int .i64 m) (.int .i64 0) (.int .i64 0) (.int .i64 1) (.int .i64 0) (.int .i64 0) ?_ ?_ ?_ Z4 ?_ (fun W9 C hbel => ?_)
 ·
  rfl
 ·
  rfl
 ·
  rfl
 ·
  rfl
 ·
  kernel_rfl
 ·
  simp [Value.oneCell']
 have d9 := hbel _ _ (Nat.le_refl _) B4.out
 clear hbel UU4 Z4
 have e0 := C.k0; have e1 := C.k1; have e2 := C.k2; have e3 := C.k3; have e4 := C.k4; have e5 := C.k5; have e6 := C.k6; have e7 := C.k7
 clear C
 go_step; go_simp; go_step
 go_step; go_simp; go_step
 go_step
 simp +zetaDelta only [Exit.then, Exit.inBlock]
 exact bodyPost_ret (v := .tuple #[.agg #[.bool true, .int .i64 n0, .int .i64 m, .int .i64 0, .int .i64 0, .int .i64 1, .int .i64 0, .int .i64 0], .int .i64 0]) (by simp [results, Tryz.results65, go_sem, e0, e1, e2, e3, e4, e5, e6, e7]) rfl ⟨d9, ⟨true, n0, m, 0, 0, 1, 0, 0⟩, rfl, fun _ => HV.out.symm⟩
set_option maxHeartbeats 8000000 in
set_option maxRecDepth 100000 in
theorem rend_3 (v : Value) (f0 f1 f2 : ByteArray) (w : World) (S : StS w v [f0, f1, f2]) (hz : ∀ x ∈ ([f0, f1, f2] : List ByteArray), x.size ≤ 600) :
  Calls Tryz.prog 65 #[v] w fun e w' => Below w.heap.size w w' ∧ ∃ u : Er.U, e = .returned (.tuple #[u.v, .int .i64 (Ru.fst (Er.enW [f0, f1, f2]))]) ∧ (Ru.fst (Er.enW [f0, f1, f2]) = 0 → u = Er.enV [f0, f1, f2]) := by
 have z0 := hz f0 (by simp); have z1 := hz f1 (by simp); have z2 := hz f2 (by simp)
 have RD := Lib.hid (fun W => rread_any f0 W (Nat.le_trans z0 (by decide)))
 have MO := Lib.hid (fun W => monthr_any f1 W (Nat.le_trans z1 (by decide)))
 have DR := Lib.hid (fun W => rday21_any f2 (Ru.mo f1) W (Nat.le_trans z2 (by decide)))
 obtain ⟨A, c, rfl, hA⟩ := S
 obtain ⟨q, rfl, hq, hcell⟩ := hA (by simp)
 have HC : Hid (∀ W, Below w.heap.size w W → W.cell? q = some (.string f0) ∧ W.cell? ⟨q.block, q.off + 1, none⟩ = some (.string f1) ∧ W.cell? ⟨q.block, q.off + 2, none⟩ = some (.string f2)) := fun W b => by
  have k : ∀ i x, ([f0, f1, f2].map Value.string)[i]? = some x → W.cell? (q.add i) = some x := fun i x hx => by
   have := hcell i x hx
   exact (b.cell (by rw [blk_add]; exact hq)).trans this
  have k0 := k 0 _ rfl
  rw [Addr.add_zero'] at k0
  have kk : ∀ i, q.add (i + 1) = ⟨q.block, q.off + (i + 1), none⟩ := fun i => by rw [Addr.add_succ']
  have k1 := k 1 _ rfl; rw [kk 0] at k1
  have k2 := k 2 _ rfl; rw [kk 1] at k2
  exact ⟨k0, k1, k2⟩
 have n1 : q.block ≠ w.heap.size := Nat.ne_of_lt hq
 have n3 : w.heap.size ≠ q.block := Nat.ne_of_gt hq
 clear hcell hz z0 z1 z2 hA
 obtain ⟨F, hF⟩ : ∃ F, F = Ru.fst (Er.enW [f0, f1, f2]) := ⟨_, rfl⟩
 obtain ⟨V, hV⟩ : ∃ V, V = Er.enV [f0, f1, f2] := ⟨_, rfl⟩
 rw [← hF, ← hV]
 replace hF : F = Ru.fst [(Er.yr f0.data.toList).2, (Wd.mat f1.data.toList Wd.months).2, (Ru.dy f2.data.toList (Ru.mo f1)).2.2.2, 0] := hF
 replace hV : V = ⟨true, (Er.yr f0.data.toList).1, Ru.mo f1, (Ru.dy f2.data.toList (Ru.mo f1)).1, (Ru.dy f2.data.toList (Ru.mo f1)).2.1, (Ru.dy f2.data.toList (Ru.mo f1)).2.2.1, 0, 0⟩ := hV
 simp only [show Ru.mo f1 = Wd.up (Wd.mat f1.data.toList Wd.months) from rfl] at hF hV DR
 unfold Er.yr at hF hV
 generalize (Num.rd f0.data.toList).1 = n0 at *
 generalize (Num.rd f0.data.toList).2 = q0 at *
 generalize Wd.up (Wd.mat f1.data.toList Wd.months) = m at *
 generalize (Wd.mat f1.data.toList Wd.months).2 = q1 at *
 generalize (Ru.dy f2.data.toList m).1 = k at *
 generalize (Ru.dy f2.data.toList m).2.1 = wk at *
 generalize (Ru.dy f2.data.toList m).2.2.1 = d at *
 generalize (Ru.dy f2.data.toList m).2.2.2 = q2 at *
 have HF := Lib.hid hF; have HV := Lib.hid hV; clear hF hV
 go_enter Tryz.func65, Tryz.ntmps65
 obtain ⟨g0, g1, g2⟩ := HC.out _ (Below.refl _ _)
 go_upto_region 4 with (fail)
 refine wp_named ?_; intro w1 hw1
 have d1 : Below w.heap.size w w1 := by rw [hw1]; exact gr0
 have B1 := Lib.hid d1
 have Z1 : Bk8 w1 (w.heap.size) (.bool false) (.int .i64 0) (.int .i64 0) (.int .i64 0) (.int .i64 0) (.int .i64 0) (.int .i64 0) (.int .i64 0) := by rw [hw1]; exact ⟨by simp <;> omega, by intro j; simp [go_sem], by simp [go_sem], by simp [go_sem], by simp [go_sem], by simp [go_sem], by simp [go_sem], by simp [go_sem], by simp [go_sem], by simp [go_sem]⟩
 have UU1 : Bk8 w1 (w.heap.size + 1) (.bool true) (.int .i64 0) (.int .i64 1) (.int .i64 0) (.int .i64 0) (.int .i64 1) (.int .i64 0) (.int .i64 0) := by rw [hw1]; exact ⟨by simp <;> omega, by intro j; simp [go_sem], by simp [go_sem], by simp [go_sem], by simp [go_sem], by simp [go_sem], by simp [go_sem], by simp [go_sem], by simp [go_sem], by simp [go_sem]⟩
 clear d1 hw1
 clear g0 g1 g2
 obtain ⟨g0, g1, g2⟩ := HC.out _ B1.out
 have hqk := Nat.lt_of_lt_of_le hq B1.out.size
 have tx := Z1; obtain ⟨cZ_b, cZ_f, cZ_0, cZ_1, cZ_2, cZ_3, cZ_4, cZ_5, cZ_6, cZ_7⟩ := tx
 have tx := UU1; obtain ⟨cUU_b, cUU_f, cUU_0, cUU_1, cUU_2, cUU_3, cUU_4, cUU_5, cUU_6, cUU_7⟩ := tx
 go_wp2_with fail
 clear cZ_b cZ_f cZ_0 cZ_1 cZ_2 cZ_3 cZ_4 cZ_5 cZ_6 cZ_7 cUU_b cUU_f cUU_0 cUU_1 cUU_2 cUU_3 cUU_4 cUU_5 cUU_6 cUU_7
 refine (RD.out _).mono ?_; rintro e v1 ⟨rfl, rfl⟩
 by_cases h0 : q0 = 0
 case neg =>
  have ey : Er.yrF n0 q0 = (n0, q0) := if_neg (fun h => h0 h.1)
  rw [ey] at HF
  obtain rfl : F = q0 := by rw [HF.out]; exact Ru.fst_no h0
  have hb0 : (F == 0) = false := by rw [beq_eq_false_iff_ne]; exact h0
  have tx := Z1; obtain ⟨cZ_b, cZ_f, cZ_0, cZ_1, cZ_2, cZ_3, cZ_4, cZ_5, cZ_6, cZ_7⟩ := tx
  have tx := UU1; obtain ⟨cUU_b, cUU_f, cUU_0, cUU_1, cUU_2, cUU_3, cUU_4, cUU_5, cUU_6, cUU_7⟩ := tx
  go_upto_region 14 with (fail)
  clear cZ_b cZ_f cZ_0 cZ_1 cZ_2 cZ_3 cZ_4 cZ_5 cZ_6 cZ_7 cUU_b cUU_f cUU_0 cUU_1 cUU_2 cUU_3 cUU_4 cUU_5 cUU_6 cUU_7
  refine wp_named ?_; intro w2 hw2
  have B2 := Lib.hid (show Below w.heap.size w w2 by rw [hw2]; exact grB B1)
  have UU2 := UU1.set1 (v := (.int .i64 n0)) hw2
  have Z2 := Z1.other hw2 (by have := Z1.hb; have := UU1.hb; omega)
  clear UU1 Z1 hw2 B1
  clear g0 g1 g2
  have tx := UU2; obtain ⟨cUU_b, cUU_f, cUU_0, cUU_1, cUU_2, cUU_3, cUU_4, cUU_5, cUU_6, cUU_7⟩ := tx
  have tx := Z2; obtain ⟨cZ_b, cZ_f, cZ_0, cZ_1, cZ_2, cZ_3, cZ_4, cZ_5, cZ_6, cZ_7⟩ := tx
  refine wp_region_lit ?_
  go_step; go_simp; go_step
  go_step; go_simp; go_step
  clear cUU_b cUU_f cUU_0 cUU_1 cUU_2 cUU_3 cUU_4 cUU_5 cUU_6 cUU_7 cZ_b cZ_f cZ_0 cZ_1 cZ_2 cZ_3 cZ_4 cZ_5 cZ_6 cZ_7
  refine wpList_st8 ?_ 41 (Operand.tmp 2) (Operand.tmp 79) ?_ w.heap.size (.bool true) (.int .i64 n0) (.int .i64 1) (.int .i64 0) (.int .i64 0) (.int .i64 1) (.int .i64 0) (.int .i64 0) ?_ ?_ ?_ Z2 ?_ (fun W9 C hbel => ?_)
  ·
   rfl
  ·
   rfl
  ·
   rfl
  ·
   rfl
  ·
   kernel_rfl
  ·
   simp [Value.oneCell']
  have d9 := hbel _ _ (Nat.le_refl _) B2.out
  clear hbel UU2 Z2
  have e0 := C.k0; have e1 := C.k1; have e2 := C.k2; have e3 := C.k3; have e4 := C.k4; have e5 := C.k5; have e6 := C.k6; have e7 := C.k7
  clear C
  go_step; go_simp; go_step
  go_step; go_simp; go_step
  go_step
  simp +zetaDelta only [Exit.then, Exit.inBlock]
  exact bodyPost_ret (v := .tuple #[.agg #[.bool true, .int .i64 n0, .int .i64 1, .int .i64 0, .int .i64 0, .int .i64 1, .int .i64 0, .int .i64 0], .int .i64 F]) (by simp [results, Tryz.results65, go_sem, e0, e1, e2, e3, e4, e5, e6, e7]) rfl ⟨d9, ⟨true, n0, 1, 0, 0, 1, 0, 0⟩, rfl, fun h => absurd h h0⟩
 subst h0
 by_cases h1 : n0 ≤ -32767
 case pos =>
  have ey : Er.yrF n0 0 = (0, 1) := if_pos ⟨rfl, .inl h1⟩
  rw [ey] at HF
  obtain rfl : F = 1 := by rw [HF.out]; exact Ru.fst_no (by decide)
  have tx := Z1; obtain ⟨cZ_b, cZ_f, cZ_0, cZ_1, cZ_2, cZ_3, cZ_4, cZ_5, cZ_6, cZ_7⟩ := tx
  have tx := UU1; obtain ⟨cUU_b, cUU_f, cUU_0, cUU_1, cUU_2, cUU_3, cUU_4, cUU_5, cUU_6, cUU_7⟩ := tx
  go_upto_region 14 with (fail)
  clear cZ_b cZ_f cZ_0 cZ_1 cZ_2 cZ_3 cZ_4 cZ_5 cZ_6 cZ_7 cUU_b cUU_f cUU_0 cUU_1 cUU_2 cUU_3 cUU_4 cUU_5 cUU_6 cUU_7
  refine wp_named ?_; intro w2 hw2
  have B2 := Lib.hid (show Below w.heap.size w w2 by rw [hw2]; exact grB B1)
  have UU2 := UU1.set1 (v := (.int .i64 n0)) hw2
  have Z2 := Z1.other hw2 (by have := Z1.hb; have := UU1.hb; omega)
  clear UU1 Z1 hw2 B1
  clear g0 g1 g2
  have tx := UU2; obtain ⟨cUU_b, cUU_f, cUU_0, cUU_1, cUU_2, cUU_3, cUU_4, cUU_5, cUU_6, cUU_7⟩ := tx
  have tx := Z2; obtain ⟨cZ_b, cZ_f, cZ_0, cZ_1, cZ_2, cZ_3, cZ_4, cZ_5, cZ_6, cZ_7⟩ := tx
  refine wp_region_lit ?_
  go_step; go_simp; go_step
  go_step; go_simp; go_step
  clear cUU_b cUU_f cUU_0 cUU_1 cUU_2 cUU_3 cUU_4 cUU_5 cUU_6 cUU_7 cZ_b cZ_f cZ_0 cZ_1 cZ_2 cZ_3 cZ_4 cZ_5 cZ_6 cZ_7
  refine wpList_st8 ?_ 41 (Operand.tmp 2) (Operand.tmp 79) ?_ w.heap.size (.bool true) (.int .i64 n0) (.int .i64 1) (.int .i64 0) (.int .i64 0) (.int .i64 1) (.int .i64 0) (.int .i64 0) ?_ ?_ ?_ Z2 ?_ (fun W9 C hbel => ?_)
  ·
   rfl
  ·
   rfl
  ·
   rfl
  ·
   rfl
  ·
   kernel_rfl
  ·
   simp [Value.oneCell']
  have d9 := hbel _ _ (Nat.le_refl _) B2.out
  clear hbel UU2 Z2
  have e0 := C.k0; have e1 := C.k1; have e2 := C.k2; have e3 := C.k3; have e4 := C.k4; have e5 := C.k5; have e6 := C.k6; have e7 := C.k7
  clear C
  go_step; go_simp; go_step
  go_step; go_simp; go_step
  go_step
  simp +zetaDelta only [Exit.then, Exit.inBlock]
  exact bodyPost_ret (v := .tuple #[.agg #[.bool true, .int .i64 n0, .int .i64 1, .int .i64 0, .int .i64 0, .int .i64 1, .int .i64 0, .int .i64 0], .int .i64 1]) (by simp [results, Tryz.results65, go_sem, e0, e1, e2, e3, e4, e5, e6, e7]) rfl ⟨d9, ⟨true, n0, 1, 0, 0, 1, 0, 0⟩, rfl, fun h => absurd h (by decide)⟩
 by_cases h2 : 32767 ≤ n0
 case pos =>
  have ey : Er.yrF n0 0 = (0, 1) := if_pos ⟨rfl, .inr h2⟩
  rw [ey] at HF
  obtain rfl : F = 1 := by rw [HF.out]; exact Ru.fst_no (by decide)
  have tx := Z1; obtain ⟨cZ_b, cZ_f, cZ_0, cZ_1, cZ_2, cZ_3, cZ_4, cZ_5, cZ_6, cZ_7⟩ := tx
  have tx := UU1; obtain ⟨cUU_b, cUU_f, cUU_0, cUU_1, cUU_2, cUU_3, cUU_4, cUU_5, cUU_6, cUU_7⟩ := tx
  go_upto_region 14 with (fail)
  clear cZ_b cZ_f cZ_0 cZ_1 cZ_2 cZ_3 cZ_4 cZ_5 cZ_6 cZ_7 cUU_b cUU_f cUU_0 cUU_1 cUU_2 cUU_3 cUU_4 cUU_5 cUU_6 cUU_7
  refine wp_named ?_; intro w2 hw2
  have B2 := Lib.hid (show Below w.heap.size w w2 by rw [hw2]; exact grB B1)
  have UU2 := UU1.set1 (v := (.int .i64 n0)) hw2
  have Z2 := Z1.other hw2 (by have := Z1.hb; have := UU1.hb; omega)
  clear UU1 Z1 hw2 B1
  clear g0 g1 g2
  have tx := UU2; obtain ⟨cUU_b, cUU_f, cUU_0, cUU_1, cUU_2, cUU_3, cUU_4, cUU_5, cUU_6, cUU_7⟩ := tx
  have tx := Z2; obtain ⟨cZ_b, cZ_f, cZ_0, cZ_1, cZ_2, cZ_3, cZ_4, cZ_5, cZ_6, cZ_7⟩ := tx
  refine wp_region_lit ?_
  go_step; go_simp; go_step
  go_step; go_simp; go_step
  clear cUU_b cUU_f cUU_0 cUU_1 cUU_2 cUU_3 cUU_4 cUU_5 cUU_6 cUU_7 cZ_b cZ_f cZ_0 cZ_1 cZ_2 cZ_3 cZ_4 cZ_5 cZ_6 cZ_7
  refine wpList_st8 ?_ 41 (Operand.tmp 2) (Operand.tmp 79) ?_ w.heap.size (.bool true) (.int .i64 n0) (.int .i64 1) (.int .i64 0) (.int .i64 0) (.int .i64 1) (.int .i64 0) (.int .i64 0) ?_ ?_ ?_ Z2 ?_ (fun W9 C hbel => ?_)
  ·
   rfl
  ·
   rfl
  ·
   rfl
  ·
   rfl
  ·
   kernel_rfl
  ·
   simp [Value.oneCell']
  have d9 := hbel _ _ (Nat.le_refl _) B2.out
  clear hbel UU2 Z2
  have e0 := C.k0; have e1 := C.k1; have e2 := C.k2; have e3 := C.k3; have e4 := C.k4; have e5 := C.k5; have e6 := C.k6; have e7 := C.k7
  clear C
  go_step; go_simp; go_step
  go_step; go_simp; go_step
  go_step
  simp +zetaDelta only [Exit.then, Exit.inBlock]
  exact bodyPost_ret (v := .tuple #[.agg #[.bool true, .int .i64 n0, .int .i64 1, .int .i64 0, .int .i64 0, .int .i64 1, .int .i64 0, .int .i64 0], .int .i64 1]) (by simp [results, Tryz.results65, go_sem, e0, e1, e2, e3, e4, e5, e6, e7]) rfl ⟨d9, ⟨true, n0, 1, 0, 0, 1, 0, 0⟩, rfl, fun h => absurd h (by decide)⟩
 have ey : Er.yrF n0 0 = (n0, 0) := if_neg (fun h => h.2.elim h1 h2)
 rw [ey] at HF HV
 clear ey
 have tx := Z1; obtain ⟨cZ_b, cZ_f, cZ_0, cZ_1, cZ_2, cZ_3, cZ_4, cZ_5, cZ_6, cZ_7⟩ := tx
 have tx := UU1; obtain ⟨cUU_b, cUU_f, cUU_0, cUU_1, cUU_2, cUU_3, cUU_4, cUU_5, cUU_6, cUU_7⟩ := tx
 go_upto_region 9 with (fail)
 clear cZ_b cZ_f cZ_0 cZ_1 cZ_2 cZ_3 cZ_4 cZ_5 cZ_6 cZ_7 cUU_b cUU_f cUU_0 cUU_1 cUU_2 cUU_3 cUU_4 cUU_5 cUU_6 cUU_7
 refine wp_named ?_; intro w2 hw2
 have B2 := Lib.hid (show Below w.heap.size w w2 by rw [hw2]; exact grB B1)
 have UU2 := UU1.set1 (v := (.int .i64 n0)) hw2
 have Z2 := Z1.other hw2 (by have := Z1.hb; have := UU1.hb; omega)
 clear UU1 Z1 hw2 B1
 clear g0 g1 g2
 obtain ⟨g0, g1, g2⟩ := HC.out _ B2.out
 have hqk := Nat.lt_of_lt_of_le hq B2.out.size
 have tx := UU2; obtain ⟨cUU_b, cUU_f, cUU_0, cUU_1, cUU_2, cUU_3, cUU_4, cUU_5, cUU_6, cUU_7⟩ := tx
 have tx := Z2; obtain ⟨cZ_b, cZ_f, cZ_0, cZ_1, cZ_2, cZ_3, cZ_4, cZ_5, cZ_6, cZ_7⟩ := tx
 go_wp2_with fail
 clear cUU_b cUU_f cUU_0 cUU_1 cUU_2 cUU_3 cUU_4 cUU_5 cUU_6 cUU_7 cZ_b cZ_f cZ_0 cZ_1 cZ_2 cZ_3 cZ_4 cZ_5 cZ_6 cZ_7
 refine (MO.out _).mono ?_; rintro e w3 ⟨rfl, b3⟩
 have d3 : Below w2.heap.size w2 w3 := below_step gr0 b3
 have B3 := Lib.hid (below_step B2.out d3)
 have UU3 := UU2.keep d3
 have Z3 := Z2.keep d3
 clear UU2 Z2 b3 d3 B2
 clear g0 g1 g2
 obtain ⟨g0, g1, g2⟩ := HC.out _ B3.out
 have hqk := Nat.lt_of_lt_of_le hq B3.out.size
 by_cases h3 : q1 = 0
 case neg =>
  obtain rfl : F = q1 := by rw [HF.out]; simp [Ru.fst, h3]
  have hb1 : (F == 0) = false := by rw [beq_eq_false_iff_ne]; exact h3
  have tx := UU3; obtain ⟨cUU_b, cUU_f, cUU_0, cUU_1, cUU_2, cUU_3, cUU_4, cUU_5, cUU_6, cUU_7⟩ := tx
  have tx := Z3; obtain ⟨cZ_b, cZ_f, cZ_0, cZ_1, cZ_2, cZ_3, cZ_4, cZ_5, cZ_6, cZ_7⟩ := tx
  go_upto_region 14 with (fail)
  clear cUU_b cUU_f cUU_0 cUU_1 cUU_2 cUU_3 cUU_4 cUU_5 cUU_6 cUU_7 cZ_b cZ_f cZ_0 cZ_1 cZ_2 cZ_3 cZ_4 cZ_5 cZ_6 cZ_7
  refine wp_named ?_; intro w4 hw4
  have B4 := Lib.hid (show Below w.heap.size w w4 by rw [hw4]; exact grB B3)
  have UU4 := UU3.set2 (v := (.int .i64 m)) hw4
  have Z4 := Z3.other hw4 (by have := Z3.hb; have := UU3.hb; omega)
  clear UU3 Z3 hw4 B3
  clear g0 g1 g2
  have tx := UU4; obtain ⟨cUU_b, cUU_f, cUU_0, cUU_1, cUU_2, cUU_3, cUU_4, cUU_5, cUU_6, cUU_7⟩ := tx
  have tx := Z4; obtain ⟨cZ_b, cZ_f, cZ_0, cZ_1, cZ_2, cZ_3, cZ_4, cZ_5, cZ_6, cZ_7⟩ := tx
  refine wp_region_lit ?_
  go_step; go_simp; go_step
  go_step; go_simp; go_step
  clear cUU_b cUU_f cUU_0 cUU_1 cUU_2 cUU_3 cUU_4 cUU_5 cUU_6 cUU_7 cZ_b cZ_f cZ_0 cZ_1 cZ_2 cZ_3 cZ_4 cZ_5 cZ_6 cZ_7
  refine wpList_st8 ?_ 41 (Operand.tmp 2) (Operand.tmp 79) ?_ w.heap.size (.bool true) (.int .i64 n0) (.int .i64 m) (.int .i64 0) (.int .i64 0) (.int .i64 1) (.int .i64 0) (.int .i64 0) ?_ ?_ ?_ Z4 ?_ (fun W9 C hbel => ?_)
  ·
   rfl
  ·
   rfl
  ·
   rfl
  ·
   rfl
  ·
   kernel_rfl
  ·
   simp [Value.oneCell']
  have d9 := hbel _ _ (Nat.le_refl _) B4.out
  clear hbel UU4 Z4
  have e0 := C.k0; have e1 := C.k1; have e2 := C.k2; have e3 := C.k3; have e4 := C.k4; have e5 := C.k5; have e6 := C.k6; have e7 := C.k7
  clear C
  go_step; go_simp; go_step
  go_step; go_simp; go_step
  go_step
  simp +zetaDelta only [Exit.then, Exit.inBlock]
  exact bodyPost_ret (v := .tuple #[.agg #[.bool true, .int .i64 n0, .int .i64 m, .int .i64 0, .int .i64 0, .int .i64 1, .int .i64 0, .int .i64 0], .int .i64 F]) (by simp [results, Tryz.results65, go_sem, e0, e1, e2, e3, e4, e5, e6, e7]) rfl ⟨d9, ⟨true, n0, m, 0, 0, 1, 0, 0⟩, rfl, fun h => absurd h h3⟩
 subst h3
 have tx := UU3; obtain ⟨cUU_b, cUU_f, cUU_0, cUU_1, cUU_2, cUU_3, cUU_4, cUU_5, cUU_6, cUU_7⟩ := tx
 have tx := Z3; obtain ⟨cZ_b, cZ_f, cZ_0, cZ_1, cZ_2, cZ_3, cZ_4, cZ_5, cZ_6, cZ_7⟩ := tx
 go_upto_region 11 with (fail)
 clear cUU_b cUU_f cUU_0 cUU_1 cUU_2 cUU_3 cUU_4 cUU_5 cUU_6 cUU_7 cZ_b cZ_f cZ_0 cZ_1 cZ_2 cZ_3 cZ_4 cZ_5 cZ_6 cZ_7
 refine wp_named ?_; intro w4 hw4
 have B4 := Lib.hid (show Below w.heap.size w w4 by rw [hw4]; exact grB B3)
 have UU4 := UU3.set2 (v := (.int .i64 m)) hw4
 have Z4 := Z3.other hw4 (by have := Z3.hb; have := UU3.hb; omega)
 clear UU3 Z3 hw4 B3
 clear g0 g1 g2
 obtain ⟨g0, g1, g2⟩ := HC.out _ B4.out
 have hqk := Nat.lt_of_lt_of_le hq B4.out.size
 have hzz := B4.out.size
 have hu2 : w.heap.size + 1 < w4.heap.size := UU4.hb
 have hq9 : q.block ≠ w.heap.size + 1 := by omega
 have SK : ∀ w', Below w4.heap.size w4 w' → (w'.cell? ⟨q.block, q.off + 2, none⟩ = some (.string f2) ∧ w'.cell? ⟨w.heap.size + 1, 2, none⟩ = some (.int .i64 m) ∧ w.heap.size + 1 < w'.heap.size ∧ w'.frozen? ⟨w.heap.size + 1, 3, none⟩ = false ∧ w'.frozen? ⟨w.heap.size + 1, 4, none⟩ = false ∧ w'.frozen? ⟨w.heap.size + 1, 5, none⟩ = false) := fun w' b => ⟨(b.cell (p := ⟨q.block, q.off + 2, none⟩) hqk).trans g2, (b.cell (p := ⟨w.heap.size + 1, 2, none⟩) hu2).trans UU4.k2, Nat.lt_of_lt_of_le hu2 b.size, (UU4.keep b).fz 3, (UU4.keep b).fz 4, (UU4.keep b).fz 5⟩
 have SKS : ∀ w' : World, (w'.cell? ⟨q.block, q.off + 2, none⟩ = some (.string f2) ∧ w'.cell? ⟨w.heap.size + 1, 2, none⟩ = some (.int .i64 m) ∧ w.heap.size + 1 < w'.heap.size ∧ w'.frozen? ⟨w.heap.size + 1, 3, none⟩ = false ∧ w'.frozen? ⟨w.heap.size + 1, 4, none⟩ = false ∧ w'.frozen? ⟨w.heap.size + 1, 5, none⟩ = false) → (fun w' : World => w'.cell? ⟨q.block, q.off + 2, none⟩ = some (.string f2) ∧ w'.cell? ⟨w.heap.size + 1, 2, none⟩ = some (.int .i64 m) ∧ w.heap.size + 1 < w'.heap.size ∧ w'.frozen? ⟨w.heap.size + 1, 3, none⟩ = false ∧ w'.frozen? ⟨w.heap.size + 1, 4, none⟩ = false ∧ w'.frozen? ⟨w.heap.size + 1, 5, none⟩ = false) (((w'.setCell ⟨w.heap.size + 1, 3, none⟩ (.int .i64 k)).setCell ⟨w.heap.size + 1, 4, none⟩ (.int .i64 wk)).setCell ⟨w.heap.size + 1, 5, none⟩ (.int .i64 d)) := fun w' h => ⟨by have h1 := h.1; simp [go_sem, hq9, h1], by have h2 := h.2.1; simp [go_sem, h2], by have h2 := h.2.2.1; simp [go_sem, h2], by have h2 := h.2.2.2.1; simp [go_sem, h2], by have h2 := h.2.2.2.2.1; simp [go_sem, h2], by have h2 := h.2.2.2.2.2; simp [go_sem, h2]⟩
 have hdr : Below w4.heap.size w4 w4.drew := (Below.refl _ _).drew
 go_cut [6] from 54 (fun x wx => x = .int .i64 q2 ∧ Below w.heap.size w wx ∧ Bk8 wx (w.heap.size + 1) (.bool true) (.int .i64 n0) (.int .i64 m) (.int .i64 k) (.int .i64 wk) (.int .i64 d) (.int .i64 0) (.int .i64 0) ∧ Bk8 wx w.heap.size (.bool false) (.int .i64 0) (.int .i64 0) (.int .i64 0) (.int .i64 0) (.int .i64 0) (.int .i64 0) (.int .i64 0))
 case first =>
  clear g0 g1 g2
  have UX := Lib.hid UU4; have ZX := Lib.hid Z4
  clear UU4 Z4
  go_region_held3 (fun w' => w'.cell? ⟨q.block, q.off + 2, none⟩ = some (.string f2) ∧ w'.cell? ⟨w.heap.size + 1, 2, none⟩ = some (.int .i64 m) ∧ w.heap.size + 1 < w'.heap.size ∧ w'.frozen? ⟨w.heap.size + 1, 3, none⟩ = false ∧ w'.frozen? ⟨w.heap.size + 1, 4, none⟩ = false ∧ w'.frozen? ⟨w.heap.size + 1, 5, none⟩ = false) ((first | exact SK _ hdr | exact SK _ (below_step hdr bD) | exact SKS _ (SK _ (below_step hdr bD)))) (first
   | (go_at_call 32; refine (DR.out _).mono ?_; rintro e w' ⟨rfl, bD⟩; have UY := UX.out.keep (below_step hdr bD); have u_b := UY.hb; have u_f := UY.fz; have u_3 := UY.k3; have u_4 := UY.k4; have u_5 := UY.k5; clear UY))
  all_goals (
   have bX := below_step hdr bD
   have UXX := UX.out.keep bX; have ZXX := ZX.out.keep bX
   have BXX := below_step B4.out bX
   have hz9 := BXX.size
   clear UX ZX SK SKS bD bX
   try go_wp2_with fail
   go_meet
   exact ⟨rfl, Below.setCell (Below.setCell (Below.setCell BXX (by first | omega | (simp; done) | (simp; omega)) _) (by first | omega | (simp; done) | (simp; omega)) _) (by first | omega | (simp; done) | (simp; omega)) _, ((UXX.set3 (v := .int .i64 k) rfl).set4 (v := .int .i64 wk) rfl).set5 (v := .int .i64 d) rfl, ((ZXX.other (i := 3) (v := .int .i64 k) rfl (by omega)).other (i := 4) (v := .int .i64 wk) rfl (by omega)).other (i := 5) (v := .int .i64 d) rfl (by omega)⟩)
 obtain ⟨rfl, b95, U95, Z95⟩ := hcut
 clear UU4 Z4 SK SKS hdr hzz hu2
 have hwx : ∃ x95, x95 = wc := ⟨_, rfl⟩
 obtain ⟨w95, hw95⟩ := hwx
 subst hw95
 have B95 := Lib.hid b95
 clear b95 B4
 clear g0 g1 g2
 obtain ⟨g0, g1, g2⟩ := HC.out _ B95.out
 have hqk := Nat.lt_of_lt_of_le hq B95.out.size
 by_cases h4 : q2 = 0
 case neg =>
  obtain rfl : F = q2 := by rw [HF.out]; simp [Ru.fst, h4]
  have hb2 : (F == 0) = false := by rw [beq_eq_false_iff_ne]; exact h4
  have tx := U95; obtain ⟨cUU_b, cUU_f, cUU_0, cUU_1, cUU_2, cUU_3, cUU_4, cUU_5, cUU_6, cUU_7⟩ := tx
  have tx := Z95; obtain ⟨cZ_b, cZ_f, cZ_0, cZ_1, cZ_2, cZ_3, cZ_4, cZ_5, cZ_6, cZ_7⟩ := tx
  go_upto_region 14 with (fail)
  clear cUU_b cUU_f cUU_0 cUU_1 cUU_2 cUU_3 cUU_4 cUU_5 cUU_6 cUU_7 cZ_b cZ_f cZ_0 cZ_1 cZ_2 cZ_3 cZ_4 cZ_5 cZ_6 cZ_7
  clear g0 g1 g2
  have tx := U95; obtain ⟨cUU_b, cUU_f, cUU_0, cUU_1, cUU_2, cUU_3, cUU_4, cUU_5, cUU_6, cUU_7⟩ := tx
  have tx := Z95; obtain ⟨cZ_b, cZ_f, cZ_0, cZ_1, cZ_2, cZ_3, cZ_4, cZ_5, cZ_6, cZ_7⟩ := tx
  refine wp_region_lit ?_
  go_step; go_simp; go_step
  go_step; go_simp; go_step
  clear cUU_b cUU_f cUU_0 cUU_1 cUU_2 cUU_3 cUU_4 cUU_5 cUU_6 cUU_7 cZ_b cZ_f cZ_0 cZ_1 cZ_2 cZ_3 cZ_4 cZ_5 cZ_6 cZ_7
  refine wpList_st8 ?_ 41 (Operand.tmp 2) (Operand.tmp 79) ?_ w.heap.size (.bool true) (.int .i64 n0) (.int .i64 m) (.int .i64 k) (.int .i64 wk) (.int .i64 d) (.int .i64 0) (.int .i64 0) ?_ ?_ ?_ Z95 ?_ (fun W9 C hbel => ?_)
  ·
   rfl
  ·
   rfl
  ·
   rfl
  ·
   rfl
  ·
   kernel_rfl
  ·
   simp [Value.oneCell']
  have d9 := hbel _ _ (Nat.le_refl _) B95.out
  clear hbel U95 Z95
  have e0 := C.k0; have e1 := C.k1; have e2 := C.k2; have e3 := C.k3; have e4 := C.k4; have e5 := C.k5; have e6 := C.k6; have e7 := C.k7
  clear C
  go_step; go_simp; go_step
  go_step; go_simp; go_step
  go_step
  simp +zetaDelta only [Exit.then, Exit.inBlock]
  exact bodyPost_ret (v := .tuple #[.agg #[.bool true, .int .i64 n0, .int .i64 m, .int .i64 k, .int .i64 wk, .int .i64 d, .int .i64 0, .int .i64 0], .int .i64 F]) (by simp [results, Tryz.results65, go_sem, e0, e1, e2, e3, e4, e5, e6, e7]) rfl ⟨d9, ⟨true, n0, m, k, wk, d, 0, 0⟩, rfl, fun h => absurd h h4⟩
 subst h4
 have tx := U95; obtain ⟨cUU_b, cUU_f, cUU_0, cUU_1, cUU_2, cUU_3, cUU_4, cUU_5, cUU_6, cUU_7⟩ := tx
 have tx := Z95; obtain ⟨cZ_b, cZ_f, cZ_0, cZ_1, cZ_2, cZ_3, cZ_4, cZ_5, cZ_6, cZ_7⟩ := tx
 go_upto_region 14 with (fail)
 clear cUU_b cUU_f cUU_0 cUU_1 cUU_2 cUU_3 cUU_4 cUU_5 cUU_6 cUU_7 cZ_b cZ_f cZ_0 cZ_1 cZ_2 cZ_3 cZ_4 cZ_5 cZ_6 cZ_7
 clear g0 g1 g2
 obtain rfl : F = 0 := by rw [HF.out]; simp [Ru.fst]
 have tx := U95; obtain ⟨cUU_b, cUU_f, cUU_0, cUU_1, cUU_2, cUU_3, cUU_4, cUU_5, cUU_6, cUU_7⟩ := tx
 have tx := Z95; obtain ⟨cZ_b, cZ_f, cZ_0, cZ_1, cZ_2, cZ_3, cZ_4, cZ_5, cZ_6, cZ_7⟩ := tx
 refine wp_region_lit ?_
 go_step; go_simp; go_step
 go_step; go_simp; go_step
 clear cUU_b cUU_f cUU_0 cUU_1 cUU_2 cUU_3 cUU_4 cUU_5 cUU_6 cUU_7 cZ_b cZ_f cZ_0 cZ_1 cZ_2 cZ_3 cZ_4 cZ_5 cZ_6 cZ_7
 refine wpList_st8 ?_ 41 (Operand.tmp 2) (Operand.tmp 79) ?_ w.heap.size (.bool true) (.int .i64 n0) (.int .i64 m) (.int .i64 k) (.int .i64 wk) (.int .i64 d) (.int .i64 0) (.int .i64 0) ?_ ?_ ?_ Z95 ?_ (fun W9 C hbel => ?_)
 ·
  rfl
 ·
  rfl
 ·
  rfl
 ·
  rfl
 ·
  kernel_rfl
 ·
  simp [Value.oneCell']
 have d9 := hbel _ _ (Nat.le_refl _) B95.out
 clear hbel U95 Z95
 have e0 := C.k0; have e1 := C.k1; have e2 := C.k2; have e3 := C.k3; have e4 := C.k4; have e5 := C.k5; have e6 := C.k6; have e7 := C.k7
 clear C
 go_step; go_simp; go_step
 go_step; go_simp; go_step
 go_step
 simp +zetaDelta only [Exit.then, Exit.inBlock]
 exact bodyPost_ret (v := .tuple #[.agg #[.bool true, .int .i64 n0, .int .i64 m, .int .i64 k, .int .i64 wk, .int .i64 d, .int .i64 0, .int .i64 0], .int .i64 0]) (by simp [results, Tryz.results65, go_sem, e0, e1, e2, e3, e4, e5, e6, e7]) rfl ⟨d9, ⟨true, n0, m, k, wk, d, 0, 0⟩, rfl, fun _ => HV.out.symm⟩
set_option maxHeartbeats 8000000 in
set_option maxRecDepth 100000 in
theorem rend_4 (v : Value) (f0 f1 f2 f3 : ByteArray) (w : World) (S : StS w v [f0, f1, f2, f3]) (hz : ∀ x ∈ ([f0, f1, f2, f3] : List ByteArray), x.size ≤ 600) :
  Calls Tryz.prog 65 #[v] w fun e w' => Below w.heap.size w w' ∧ ∃ u : Er.U, e = .returned (.tuple #[u.v, .int .i64 (Ru.fst (Er.enW [f0, f1, f2, f3]))]) ∧ (Ru.fst (Er.enW [f0, f1, f2, f3]) = 0 → u = Er.enV [f0, f1, f2, f3]) := by
 have z0 := hz f0 (by simp); have z1 := hz f1 (by simp); have z2 := hz f2 (by simp); have z3 := hz f3 (by simp)
 have RD := Lib.hid (fun W => rread_any f0 W (Nat.le_trans z0 (by decide)))
 have MO := Lib.hid (fun W => monthr_any f1 W (Nat.le_trans z1 (by decide)))
 have DR := Lib.hid (fun W => rday21_any f2 (Ru.mo f1) W (Nat.le_trans z2 (by decide)))
 have KR := Lib.hid (fun W => kread_any f3 W z3)
 obtain ⟨A, c, rfl, hA⟩ := S
 obtain ⟨q, rfl, hq, hcell⟩ := hA (by simp)
 have HC : Hid (∀ W, Below w.heap.size w W → W.cell? q = some (.string f0) ∧ W.cell? ⟨q.block, q.off + 1, none⟩ = some (.string f1) ∧ W.cell? ⟨q.block, q.off + 2, none⟩ = some (.string f2) ∧ W.cell? ⟨q.block, q.off + 3, none⟩ = some (.string f3)) := fun W b => by
  have k : ∀ i x, ([f0, f1, f2, f3].map Value.string)[i]? = some x → W.cell? (q.add i) = some x := fun i x hx => by
   have := hcell i x hx
   exact (b.cell (by rw [blk_add]; exact hq)).trans this
  have k0 := k 0 _ rfl
  rw [Addr.add_zero'] at k0
  have kk : ∀ i, q.add (i + 1) = ⟨q.block, q.off + (i + 1), none⟩ := fun i => by rw [Addr.add_succ']
  have k1 := k 1 _ rfl; rw [kk 0] at k1
  have k2 := k 2 _ rfl; rw [kk 1] at k2
  have k3 := k 3 _ rfl; rw [kk 2] at k3
  exact ⟨k0, k1, k2, k3⟩
 have n1 : q.block ≠ w.heap.size := Nat.ne_of_lt hq
 have n3 : w.heap.size ≠ q.block := Nat.ne_of_gt hq
 clear hcell hz z0 z1 z2 z3 hA
 obtain ⟨F, hF⟩ : ∃ F, F = Ru.fst (Er.enW [f0, f1, f2, f3]) := ⟨_, rfl⟩
 obtain ⟨V, hV⟩ : ∃ V, V = Er.enV [f0, f1, f2, f3] := ⟨_, rfl⟩
 rw [← hF, ← hV]
 replace hF : F = Ru.fst [(Er.yr f0.data.toList).2, (Wd.mat f1.data.toList Wd.months).2, (Ru.dy f2.data.toList (Ru.mo f1)).2.2.2, (Cl.rd f3).2.2] := hF
 replace hV : V = ⟨true, (Er.yr f0.data.toList).1, Ru.mo f1, (Ru.dy f2.data.toList (Ru.mo f1)).1, (Ru.dy f2.data.toList (Ru.mo f1)).2.1, (Ru.dy f2.data.toList (Ru.mo f1)).2.2.1, (Cl.rd f3).1, (Cl.rd f3).2.1⟩ := hV
 simp only [show Ru.mo f1 = Wd.up (Wd.mat f1.data.toList Wd.months) from rfl] at hF hV DR
 unfold Er.yr at hF hV
 generalize (Num.rd f0.data.toList).1 = n0 at *
 generalize (Num.rd f0.data.toList).2 = q0 at *
 generalize Wd.up (Wd.mat f1.data.toList Wd.months) = m at *
 generalize (Wd.mat f1.data.toList Wd.months).2 = q1 at *
 generalize (Ru.dy f2.data.toList m).1 = k at *
 generalize (Ru.dy f2.data.toList m).2.1 = wk at *
 generalize (Ru.dy f2.data.toList m).2.2.1 = d at *
 generalize (Ru.dy f2.data.toList m).2.2.2 = q2 at *
 generalize (Cl.rd f3).1 = sec at *
 generalize (Cl.rd f3).2.1 = base at *
 generalize (Cl.rd f3).2.2 = q3 at *
 have HF := Lib.hid hF; have HV := Lib.hid hV; clear hF hV
 go_enter Tryz.func65, Tryz.ntmps65
 obtain ⟨g0, g1, g2, g3⟩ := HC.out _ (Below.refl _ _)
 go_upto_region 4 with (fail)
 refine wp_named ?_; intro w1 hw1
 have d1 : Below w.heap.size w w1 := by rw [hw1]; exact gr0
 have B1 := Lib.hid d1
 have Z1 : Bk8 w1 (w.heap.size) (.bool false) (.int .i64 0) (.int .i64 0) (.int .i64 0) (.int .i64 0) (.int .i64 0) (.int .i64 0) (.int .i64 0) := by rw [hw1]; exact ⟨by simp <;> omega, by intro j; simp [go_sem], by simp [go_sem], by simp [go_sem], by simp [go_sem], by simp [go_sem], by simp [go_sem], by simp [go_sem], by simp [go_sem], by simp [go_sem]⟩
 have UU1 : Bk8 w1 (w.heap.size + 1) (.bool true) (.int .i64 0) (.int .i64 1) (.int .i64 0) (.int .i64 0) (.int .i64 1) (.int .i64 0) (.int .i64 0) := by rw [hw1]; exact ⟨by simp <;> omega, by intro j; simp [go_sem], by simp [go_sem], by simp [go_sem], by simp [go_sem], by simp [go_sem], by simp [go_sem], by simp [go_sem], by simp [go_sem], by simp [go_sem]⟩
 clear d1 hw1
 clear g0 g1 g2 g3
 obtain ⟨g0, g1, g2, g3⟩ := HC.out _ B1.out
 have hqk := Nat.lt_of_lt_of_le hq B1.out.size
 have tx := Z1; obtain ⟨cZ_b, cZ_f, cZ_0, cZ_1, cZ_2, cZ_3, cZ_4, cZ_5, cZ_6, cZ_7⟩ := tx
 have tx := UU1; obtain ⟨cUU_b, cUU_f, cUU_0, cUU_1, cUU_2, cUU_3, cUU_4, cUU_5, cUU_6, cUU_7⟩ := tx
 go_wp2_with fail
 clear cZ_b cZ_f cZ_0 cZ_1 cZ_2 cZ_3 cZ_4 cZ_5 cZ_6 cZ_7 cUU_b cUU_f cUU_0 cUU_1 cUU_2 cUU_3 cUU_4 cUU_5 cUU_6 cUU_7
 refine (RD.out _).mono ?_; rintro e v1 ⟨rfl, rfl⟩
 by_cases h0 : q0 = 0
 case neg =>
  have ey : Er.yrF n0 q0 = (n0, q0) := if_neg (fun h => h0 h.1)
  rw [ey] at HF
  obtain rfl : F = q0 := by rw [HF.out]; exact Ru.fst_no h0
  have hb0 : (F == 0) = false := by rw [beq_eq_false_iff_ne]; exact h0
  have tx := Z1; obtain ⟨cZ_b, cZ_f, cZ_0, cZ_1, cZ_2, cZ_3, cZ_4, cZ_5, cZ_6, cZ_7⟩ := tx
  have tx := UU1; obtain ⟨cUU_b, cUU_f, cUU_0, cUU_1, cUU_2, cUU_3, cUU_4, cUU_5, cUU_6, cUU_7⟩ := tx
  go_upto_region 14 with (fail)
  clear cZ_b cZ_f cZ_0 cZ_1 cZ_2 cZ_3 cZ_4 cZ_5 cZ_6 cZ_7 cUU_b cUU_f cUU_0 cUU_1 cUU_2 cUU_3 cUU_4 cUU_5 cUU_6 cUU_7
  refine wp_named ?_; intro w2 hw2
  have B2 := Lib.hid (show Below w.heap.size w w2 by rw [hw2]; exact grB B1)
  have UU2 := UU1.set1 (v := (.int .i64 n0)) hw2
  have Z2 := Z1.other hw2 (by have := Z1.hb; have := UU1.hb; omega)
  clear UU1 Z1 hw2 B1
  clear g0 g1 g2 g3
  have tx := UU2; obtain ⟨cUU_b, cUU_f, cUU_0, cUU_1, cUU_2, cUU_3, cUU_4, cUU_5, cUU_6, cUU_7⟩ := tx
  have tx := Z2; obtain ⟨cZ_b, cZ_f, cZ_0, cZ_1, cZ_2, cZ_3, cZ_4, cZ_5, cZ_6, cZ_7⟩ := tx
  refine wp_region_lit ?_
  go_step; go_simp; go_step
  go_step; go_simp; go_step
  clear cUU_b cUU_f cUU_0 cUU_1 cUU_2 cUU_3 cUU_4 cUU_5 cUU_6 cUU_7 cZ_b cZ_f cZ_0 cZ_1 cZ_2 cZ_3 cZ_4 cZ_5 cZ_6 cZ_7
  refine wpList_st8 ?_ 41 (Operand.tmp 2) (Operand.tmp 79) ?_ w.heap.size (.bool true) (.int .i64 n0) (.int .i64 1) (.int .i64 0) (.int .i64 0) (.int .i64 1) (.int .i64 0) (.int .i64 0) ?_ ?_ ?_ Z2 ?_ (fun W9 C hbel => ?_)
  ·
   rfl
  ·
   rfl
  ·
   rfl
  ·
   rfl
  ·
   kernel_rfl
  ·
   simp [Value.oneCell']
  have d9 := hbel _ _ (Nat.le_refl _) B2.out
  clear hbel UU2 Z2
  have e0 := C.k0; have e1 := C.k1; have e2 := C.k2; have e3 := C.k3; have e4 := C.k4; have e5 := C.k5; have e6 := C.k6; have e7 := C.k7
  clear C
  go_step; go_simp; go_step
  go_step; go_simp; go_step
  go_step
  simp +zetaDelta only [Exit.then, Exit.inBlock]
  exact bodyPost_ret (v := .tuple #[.agg #[.bool true, .int .i64 n0, .int .i64 1, .int .i64 0, .int .i64 0, .int .i64 1, .int .i64 0, .int .i64 0], .int .i64 F]) (by simp [results, Tryz.results65, go_sem, e0, e1, e2, e3, e4, e5, e6, e7]) rfl ⟨d9, ⟨true, n0, 1, 0, 0, 1, 0, 0⟩, rfl, fun h => absurd h h0⟩
 subst h0
 by_cases h1 : n0 ≤ -32767
 case pos =>
  have ey : Er.yrF n0 0 = (0, 1) := if_pos ⟨rfl, .inl h1⟩
  rw [ey] at HF
  obtain rfl : F = 1 := by rw [HF.out]; exact Ru.fst_no (by decide)
  have tx := Z1; obtain ⟨cZ_b, cZ_f, cZ_0, cZ_1, cZ_2, cZ_3, cZ_4, cZ_5, cZ_6, cZ_7⟩ := tx
  have tx := UU1; obtain ⟨cUU_b, cUU_f, cUU_0, cUU_1, cUU_2, cUU_3, cUU_4, cUU_5, cUU_6, cUU_7⟩ := tx
  go_upto_region 14 with (fail)
  clear cZ_b cZ_f cZ_0 cZ_1 cZ_2 cZ_3 cZ_4 cZ_5 cZ_6 cZ_7 cUU_b cUU_f cUU_0 cUU_1 cUU_2 cUU_3 cUU_4 cUU_5 cUU_6 cUU_7
  refine wp_named ?_; intro w2 hw2
  have B2 := Lib.hid (show Below w.heap.size w w2 by rw [hw2]; exact grB B1)
  have UU2 := UU1.set1 (v := (.int .i64 n0)) hw2
  have Z2 := Z1.other hw2 (by have := Z1.hb; have := UU1.hb; omega)
  clear UU1 Z1 hw2 B1
  clear g0 g1 g2 g3
  have tx := UU2; obtain ⟨cUU_b, cUU_f, cUU_0, cUU_1, cUU_2, cUU_3, cUU_4, cUU_5, cUU_6, cUU_7⟩ := tx
  have tx := Z2; obtain ⟨cZ_b, cZ_f, cZ_0, cZ_1, cZ_2, cZ_3, cZ_4, cZ_5, cZ_6, cZ_7⟩ := tx
  refine wp_region_lit ?_
  go_step; go_simp; go_step
  go_step; go_simp; go_step
  clear cUU_b cUU_f cUU_0 cUU_1 cUU_2 cUU_3 cUU_4 cUU_5 cUU_6 cUU_7 cZ_b cZ_f cZ_0 cZ_1 cZ_2 cZ_3 cZ_4 cZ_5 cZ_6 cZ_7
  refine wpList_st8 ?_ 41 (Operand.tmp 2) (Operand.tmp 79) ?_ w.heap.size (.bool true) (.int .i64 n0) (.int .i64 1) (.int .i64 0) (.int .i64 0) (.int .i64 1) (.int .i64 0) (.int .i64 0) ?_ ?_ ?_ Z2 ?_ (fun W9 C hbel => ?_)
  ·
   rfl
  ·
   rfl
  ·
   rfl
  ·
   rfl
  ·
   kernel_rfl
  ·
   simp [Value.oneCell']
  have d9 := hbel _ _ (Nat.le_refl _) B2.out
  clear hbel UU2 Z2
  have e0 := C.k0; have e1 := C.k1; have e2 := C.k2; have e3 := C.k3; have e4 := C.k4; have e5 := C.k5; have e6 := C.k6; have e7 := C.k7
  clear C
  go_step; go_simp; go_step
  go_step; go_simp; go_step
  go_step
  simp +zetaDelta only [Exit.then, Exit.inBlock]
  exact bodyPost_ret (v := .tuple #[.agg #[.bool true, .int .i64 n0, .int .i64 1, .int .i64 0, .int .i64 0, .int .i64 1, .int .i64 0, .int .i64 0], .int .i64 1]) (by simp [results, Tryz.results65, go_sem, e0, e1, e2, e3, e4, e5, e6, e7]) rfl ⟨d9, ⟨true, n0, 1, 0, 0, 1, 0, 0⟩, rfl, fun h => absurd h (by decide)⟩
 by_cases h2 : 32767 ≤ n0
 case pos =>
  have ey : Er.yrF n0 0 = (0, 1) := if_pos ⟨rfl, .inr h2⟩
  rw [ey] at HF
  obtain rfl : F = 1 := by rw [HF.out]; exact Ru.fst_no (by decide)
  have tx := Z1; obtain ⟨cZ_b, cZ_f, cZ_0, cZ_1, cZ_2, cZ_3, cZ_4, cZ_5, cZ_6, cZ_7⟩ := tx
  have tx := UU1; obtain ⟨cUU_b, cUU_f, cUU_0, cUU_1, cUU_2, cUU_3, cUU_4, cUU_5, cUU_6, cUU_7⟩ := tx
  go_upto_region 14 with (fail)
  clear cZ_b cZ_f cZ_0 cZ_1 cZ_2 cZ_3 cZ_4 cZ_5 cZ_6 cZ_7 cUU_b cUU_f cUU_0 cUU_1 cUU_2 cUU_3 cUU_4 cUU_5 cUU_6 cUU_7
  refine wp_named ?_; intro w2 hw2
  have B2 := Lib.hid (show Below w.heap.size w w2 by rw [hw2]; exact grB B1)
  have UU2 := UU1.set1 (v := (.int .i64 n0)) hw2
  have Z2 := Z1.other hw2 (by have := Z1.hb; have := UU1.hb; omega)
  clear UU1 Z1 hw2 B1
  clear g0 g1 g2 g3
  have tx := UU2; obtain ⟨cUU_b, cUU_f, cUU_0, cUU_1, cUU_2, cUU_3, cUU_4, cUU_5, cUU_6, cUU_7⟩ := tx
  have tx := Z2; obtain ⟨cZ_b, cZ_f, cZ_0, cZ_1, cZ_2, cZ_3, cZ_4, cZ_5, cZ_6, cZ_7⟩ := tx
  refine wp_region_lit ?_
  go_step; go_simp; go_step
  go_step; go_simp; go_step
  clear cUU_b cUU_f cUU_0 cUU_1 cUU_2 cUU_3 cUU_4 cUU_5 cUU_6 cUU_7 cZ_b cZ_f cZ_0 cZ_1 cZ_2 cZ_3 cZ_4 cZ_5 cZ_6 cZ_7
  refine wpList_st8 ?_ 41 (Operand.tmp 2) (Operand.tmp 79) ?_ w.heap.size (.bool true) (.int .i64 n0) (.int .i64 1) (.int .i64 0) (.int .i64 0) (.int .i64 1) (.int .i64 0) (.int .i64 0) ?_ ?_ ?_ Z2 ?_ (fun W9 C hbel => ?_)
  ·
   rfl
  ·
   rfl
  ·
   rfl
  ·
   rfl
  ·
   kernel_rfl
  ·
   simp [Value.oneCell']
  have d9 := hbel _ _ (Nat.le_refl _) B2.out
  clear hbel UU2 Z2
  have e0 := C.k0; have e1 := C.k1; have e2 := C.k2; have e3 := C.k3; have e4 := C.k4; have e5 := C.k5; have e6 := C.k6; have e7 := C.k7
  clear C
  go_step; go_simp; go_step
  go_step; go_simp; go_step
  go_step
  simp +zetaDelta only [Exit.then, Exit.inBlock]
  exact bodyPost_ret (v := .tuple #[.agg #[.bool true, .int .i64 n0, .int .i64 1, .int .i64 0, .int .i64 0, .int .i64 1, .int .i64 0, .int .i64 0], .int .i64 1]) (by simp [results, Tryz.results65, go_sem, e0, e1, e2, e3, e4, e5, e6, e7]) rfl ⟨d9, ⟨true, n0, 1, 0, 0, 1, 0, 0⟩, rfl, fun h => absurd h (by decide)⟩
 have ey : Er.yrF n0 0 = (n0, 0) := if_neg (fun h => h.2.elim h1 h2)
 rw [ey] at HF HV
 clear ey
 have tx := Z1; obtain ⟨cZ_b, cZ_f, cZ_0, cZ_1, cZ_2, cZ_3, cZ_4, cZ_5, cZ_6, cZ_7⟩ := tx
 have tx := UU1; obtain ⟨cUU_b, cUU_f, cUU_0, cUU_1, cUU_2, cUU_3, cUU_4, cUU_5, cUU_6, cUU_7⟩ := tx
 go_upto_region 9 with (fail)
 clear cZ_b cZ_f cZ_0 cZ_1 cZ_2 cZ_3 cZ_4 cZ_5 cZ_6 cZ_7 cUU_b cUU_f cUU_0 cUU_1 cUU_2 cUU_3 cUU_4 cUU_5 cUU_6 cUU_7
 refine wp_named ?_; intro w2 hw2
 have B2 := Lib.hid (show Below w.heap.size w w2 by rw [hw2]; exact grB B1)
 have UU2 := UU1.set1 (v := (.int .i64 n0)) hw2
 have Z2 := Z1.other hw2 (by have := Z1.hb; have := UU1.hb; omega)
 clear UU1 Z1 hw2 B1
 clear g0 g1 g2 g3
 obtain ⟨g0, g1, g2, g3⟩ := HC.out _ B2.out
 have hqk := Nat.lt_of_lt_of_le hq B2.out.size
 have tx := UU2; obtain ⟨cUU_b, cUU_f, cUU_0, cUU_1, cUU_2, cUU_3, cUU_4, cUU_5, cUU_6, cUU_7⟩ := tx
 have tx := Z2; obtain ⟨cZ_b, cZ_f, cZ_0, cZ_1, cZ_2, cZ_3, cZ_4, cZ_5, cZ_6, cZ_7⟩ := tx
 go_wp2_with fail
 clear cUU_b cUU_f cUU_0 cUU_1 cUU_2 cUU_3 cUU_4 cUU_5 cUU_6 cUU_7 cZ_b cZ_f cZ_0 cZ_1 cZ_2 cZ_3 cZ_4 cZ_5 cZ_6 cZ_7
 refine (MO.out _).mono ?_; rintro e w3 ⟨rfl, b3⟩
 have d3 : Below w2.heap.size w2 w3 := below_step gr0 b3
 have B3 := Lib.hid (below_step B2.out d3)
 have UU3 := UU2.keep d3
 have Z3 := Z2.keep d3
 clear UU2 Z2 b3 d3 B2
 clear g0 g1 g2 g3
 obtain ⟨g0, g1, g2, g3⟩ := HC.out _ B3.out
 have hqk := Nat.lt_of_lt_of_le hq B3.out.size
 by_cases h3 : q1 = 0
 case neg =>
  obtain rfl : F = q1 := by rw [HF.out]; simp [Ru.fst, h3]
  have hb1 : (F == 0) = false := by rw [beq_eq_false_iff_ne]; exact h3
  have tx := UU3; obtain ⟨cUU_b, cUU_f, cUU_0, cUU_1, cUU_2, cUU_3, cUU_4, cUU_5, cUU_6, cUU_7⟩ := tx
  have tx := Z3; obtain ⟨cZ_b, cZ_f, cZ_0, cZ_1, cZ_2, cZ_3, cZ_4, cZ_5, cZ_6, cZ_7⟩ := tx
  go_upto_region 14 with (fail)
  clear cUU_b cUU_f cUU_0 cUU_1 cUU_2 cUU_3 cUU_4 cUU_5 cUU_6 cUU_7 cZ_b cZ_f cZ_0 cZ_1 cZ_2 cZ_3 cZ_4 cZ_5 cZ_6 cZ_7
  refine wp_named ?_; intro w4 hw4
  have B4 := Lib.hid (show Below w.heap.size w w4 by rw [hw4]; exact grB B3)
  have UU4 := UU3.set2 (v := (.int .i64 m)) hw4
  have Z4 := Z3.other hw4 (by have := Z3.hb; have := UU3.hb; omega)
  clear UU3 Z3 hw4 B3
  clear g0 g1 g2 g3
  have tx := UU4; obtain ⟨cUU_b, cUU_f, cUU_0, cUU_1, cUU_2, cUU_3, cUU_4, cUU_5, cUU_6, cUU_7⟩ := tx
  have tx := Z4; obtain ⟨cZ_b, cZ_f, cZ_0, cZ_1, cZ_2, cZ_3, cZ_4, cZ_5, cZ_6, cZ_7⟩ := tx
  refine wp_region_lit ?_
  go_step; go_simp; go_step
  go_step; go_simp; go_step
  clear cUU_b cUU_f cUU_0 cUU_1 cUU_2 cUU_3 cUU_4 cUU_5 cUU_6 cUU_7 cZ_b cZ_f cZ_0 cZ_1 cZ_2 cZ_3 cZ_4 cZ_5 cZ_6 cZ_7
  refine wpList_st8 ?_ 41 (Operand.tmp 2) (Operand.tmp 79) ?_ w.heap.size (.bool true) (.int .i64 n0) (.int .i64 m) (.int .i64 0) (.int .i64 0) (.int .i64 1) (.int .i64 0) (.int .i64 0) ?_ ?_ ?_ Z4 ?_ (fun W9 C hbel => ?_)
  ·
   rfl
  ·
   rfl
  ·
   rfl
  ·
   rfl
  ·
   kernel_rfl
  ·
   simp [Value.oneCell']
  have d9 := hbel _ _ (Nat.le_refl _) B4.out
  clear hbel UU4 Z4
  have e0 := C.k0; have e1 := C.k1; have e2 := C.k2; have e3 := C.k3; have e4 := C.k4; have e5 := C.k5; have e6 := C.k6; have e7 := C.k7
  clear C
  go_step; go_simp; go_step
  go_step; go_simp; go_step
  go_step
  simp +zetaDelta only [Exit.then, Exit.inBlock]
  exact bodyPost_ret (v := .tuple #[.agg #[.bool true, .int .i64 n0, .int .i64 m, .int .i64 0, .int .i64 0, .int .i64 1, .int .i64 0, .int .i64 0], .int .i64 F]) (by simp [results, Tryz.results65, go_sem, e0, e1, e2, e3, e4, e5, e6, e7]) rfl ⟨d9, ⟨true, n0, m, 0, 0, 1, 0, 0⟩, rfl, fun h => absurd h h3⟩
 subst h3
 have tx := UU3; obtain ⟨cUU_b, cUU_f, cUU_0, cUU_1, cUU_2, cUU_3, cUU_4, cUU_5, cUU_6, cUU_7⟩ := tx
 have tx := Z3; obtain ⟨cZ_b, cZ_f, cZ_0, cZ_1, cZ_2, cZ_3, cZ_4, cZ_5, cZ_6, cZ_7⟩ := tx
 go_upto_region 11 with (fail)
 clear cUU_b cUU_f cUU_0 cUU_1 cUU_2 cUU_3 cUU_4 cUU_5 cUU_6 cUU_7 cZ_b cZ_f cZ_0 cZ_1 cZ_2 cZ_3 cZ_4 cZ_5 cZ_6 cZ_7
 refine wp_named ?_; intro w4 hw4
 have B4 := Lib.hid (show Below w.heap.size w w4 by rw [hw4]; exact grB B3)
 have UU4 := UU3.set2 (v := (.int .i64 m)) hw4
 have Z4 := Z3.other hw4 (by have := Z3.hb; have := UU3.hb; omega)
 clear UU3 Z3 hw4 B3
 clear g0 g1 g2 g3
 obtain ⟨g0, g1, g2, g3⟩ := HC.out _ B4.out
 have hqk := Nat.lt_of_lt_of_le hq B4.out.size
 have hzz := B4.out.size
 have hu2 : w.heap.size + 1 < w4.heap.size := UU4.hb
 have hq9 : q.block ≠ w.heap.size + 1 := by omega
 have SK : ∀ w', Below w4.heap.size w4 w' → (w'.cell? ⟨q.block, q.off + 2, none⟩ = some (.string f2) ∧ w'.cell? ⟨w.heap.size + 1, 2, none⟩ = some (.int .i64 m) ∧ w.heap.size + 1 < w'.heap.size ∧ w'.frozen? ⟨w.heap.size + 1, 3, none⟩ = false ∧ w'.frozen? ⟨w.heap.size + 1, 4, none⟩ = false ∧ w'.frozen? ⟨w.heap.size + 1, 5, none⟩ = false) := fun w' b => ⟨(b.cell (p := ⟨q.block, q.off + 2, none⟩) hqk).trans g2, (b.cell (p := ⟨w.heap.size + 1, 2, none⟩) hu2).trans UU4.k2, Nat.lt_of_lt_of_le hu2 b.size, (UU4.keep b).fz 3, (UU4.keep b).fz 4, (UU4.keep b).fz 5⟩
 have SKS : ∀ w' : World, (w'.cell? ⟨q.block, q.off + 2, none⟩ = some (.string f2) ∧ w'.cell? ⟨w.heap.size + 1, 2, none⟩ = some (.int .i64 m) ∧ w.heap.size + 1 < w'.heap.size ∧ w'.frozen? ⟨w.heap.size + 1, 3, none⟩ = false ∧ w'.frozen? ⟨w.heap.size + 1, 4, none⟩ = false ∧ w'.frozen? ⟨w.heap.size + 1, 5, none⟩ = false) → (fun w' : World => w'.cell? ⟨q.block, q.off + 2, none⟩ = some (.string f2) ∧ w'.cell? ⟨w.heap.size + 1, 2, none⟩ = some (.int .i64 m) ∧ w.heap.size + 1 < w'.heap.size ∧ w'.frozen? ⟨w.heap.size + 1, 3, none⟩ = false ∧ w'.frozen? ⟨w.heap.size + 1, 4, none⟩ = false ∧ w'.frozen? ⟨w.heap.size + 1, 5, none⟩ = false) (((w'.setCell ⟨w.heap.size + 1, 3, none⟩ (.int .i64 k)).setCell ⟨w.heap.size + 1, 4, none⟩ (.int .i64 wk)).setCell ⟨w.heap.size + 1, 5, none⟩ (.int .i64 d)) := fun w' h => ⟨by have h1 := h.1; simp [go_sem, hq9, h1], by have h2 := h.2.1; simp [go_sem, h2], by have h2 := h.2.2.1; simp [go_sem, h2], by have h2 := h.2.2.2.1; simp [go_sem, h2], by have h2 := h.2.2.2.2.1; simp [go_sem, h2], by have h2 := h.2.2.2.2.2; simp [go_sem, h2]⟩
 have hdr : Below w4.heap.size w4 w4.drew := (Below.refl _ _).drew
 go_cut [6] from 54 (fun x wx => x = .int .i64 q2 ∧ Below w.heap.size w wx ∧ Bk8 wx (w.heap.size + 1) (.bool true) (.int .i64 n0) (.int .i64 m) (.int .i64 k) (.int .i64 wk) (.int .i64 d) (.int .i64 0) (.int .i64 0) ∧ Bk8 wx w.heap.size (.bool false) (.int .i64 0) (.int .i64 0) (.int .i64 0) (.int .i64 0) (.int .i64 0) (.int .i64 0) (.int .i64 0))
 case first =>
  clear g0 g1 g2
  have UX := Lib.hid UU4; have ZX := Lib.hid Z4
  clear UU4 Z4
  go_region_held3 (fun w' => w'.cell? ⟨q.block, q.off + 2, none⟩ = some (.string f2) ∧ w'.cell? ⟨w.heap.size + 1, 2, none⟩ = some (.int .i64 m) ∧ w.heap.size + 1 < w'.heap.size ∧ w'.frozen? ⟨w.heap.size + 1, 3, none⟩ = false ∧ w'.frozen? ⟨w.heap.size + 1, 4, none⟩ = false ∧ w'.frozen? ⟨w.heap.size + 1, 5, none⟩ = false) ((first | exact SK _ hdr | exact SK _ (below_step hdr bD) | exact SKS _ (SK _ (below_step hdr bD)))) (first
   | (go_at_call 32; refine (DR.out _).mono ?_; rintro e w' ⟨rfl, bD⟩; have UY := UX.out.keep (below_step hdr bD); have u_b := UY.hb; have u_f := UY.fz; have u_3 := UY.k3; have u_4 := UY.k4; have u_5 := UY.k5; clear UY))
  all_goals (
   have bX := below_step hdr bD
   have UXX := UX.out.keep bX; have ZXX := ZX.out.keep bX
   have BXX := below_step B4.out bX
   have hz9 := BXX.size
   clear UX ZX SK SKS bD bX
   try go_wp2_with fail
   go_meet
   exact ⟨rfl, Below.setCell (Below.setCell (Below.setCell BXX (by first | omega | (simp; done) | (simp; omega)) _) (by first | omega | (simp; done) | (simp; omega)) _) (by first | omega | (simp; done) | (simp; omega)) _, ((UXX.set3 (v := .int .i64 k) rfl).set4 (v := .int .i64 wk) rfl).set5 (v := .int .i64 d) rfl, ((ZXX.other (i := 3) (v := .int .i64 k) rfl (by omega)).other (i := 4) (v := .int .i64 wk) rfl (by omega)).other (i := 5) (v := .int .i64 d) rfl (by omega)⟩)
 obtain ⟨rfl, b95, U95, Z95⟩ := hcut
 clear UU4 Z4 SK SKS hdr hzz hu2
 have hwx : ∃ x95, x95 = wc := ⟨_, rfl⟩
 obtain ⟨w95, hw95⟩ := hwx
 subst hw95
 have B95 := Lib.hid b95
 clear b95 B4
 clear g0 g1 g2 g3
 obtain ⟨g0, g1, g2, g3⟩ := HC.out _ B95.out
 have hqk := Nat.lt_of_lt_of_le hq B95.out.size
 by_cases h4 : q2 = 0
 case neg =>
  obtain rfl : F = q2 := by rw [HF.out]; simp [Ru.fst, h4]
  have hb2 : (F == 0) = false := by rw [beq_eq_false_iff_ne]; exact h4
  have tx := U95; obtain ⟨cUU_b, cUU_f, cUU_0, cUU_1, cUU_2, cUU_3, cUU_4, cUU_5, cUU_6, cUU_7⟩ := tx
  have tx := Z95; obtain ⟨cZ_b, cZ_f, cZ_0, cZ_1, cZ_2, cZ_3, cZ_4, cZ_5, cZ_6, cZ_7⟩ := tx
  go_upto_region 14 with (fail)
  clear cUU_b cUU_f cUU_0 cUU_1 cUU_2 cUU_3 cUU_4 cUU_5 cUU_6 cUU_7 cZ_b cZ_f cZ_0 cZ_1 cZ_2 cZ_3 cZ_4 cZ_5 cZ_6 cZ_7
  clear g0 g1 g2 g3
  have tx := U95; obtain ⟨cUU_b, cUU_f, cUU_0, cUU_1, cUU_2, cUU_3, cUU_4, cUU_5, cUU_6, cUU_7⟩ := tx
  have tx := Z95; obtain ⟨cZ_b, cZ_f, cZ_0, cZ_1, cZ_2, cZ_3, cZ_4, cZ_5, cZ_6, cZ_7⟩ := tx
  refine wp_region_lit ?_
  go_step; go_simp; go_step
  go_step; go_simp; go_step
  clear cUU_b cUU_f cUU_0 cUU_1 cUU_2 cUU_3 cUU_4 cUU_5 cUU_6 cUU_7 cZ_b cZ_f cZ_0 cZ_1 cZ_2 cZ_3 cZ_4 cZ_5 cZ_6 cZ_7
  refine wpList_st8 ?_ 41 (Operand.tmp 2) (Operand.tmp 79) ?_ w.heap.size (.bool true) (.int .i64 n0) (.int .i64 m) (.int .i64 k) (.int .i64 wk) (.int .i64 d) (.int .i64 0) (.int .i64 0) ?_ ?_ ?_ Z95 ?_ (fun W9 C hbel => ?_)
  ·
   rfl
  ·
   rfl
  ·
   rfl
  ·
   rfl
  ·
   kernel_rfl
  ·
   simp [Value.oneCell']
  have d9 := hbel _ _ (Nat.le_refl _) B95.out
  clear hbel U95 Z95
  have e0 := C.k0; have e1 := C.k1; have e2 := C.k2; have e3 := C.k3; have e4 := C.k4; have e5 := C.k5; have e6 := C.k6; have e7 := C.k7
  clear C
  go_step; go_simp; go_step
  go_step; go_simp; go_step
  go_step
  simp +zetaDelta only [Exit.then, Exit.inBlock]
  exact bodyPost_ret (v := .tuple #[.agg #[.bool true, .int .i64 n0, .int .i64 m, .int .i64 k, .int .i64 wk, .int .i64 d, .int .i64 0, .int .i64 0], .int .i64 F]) (by simp [results, Tryz.results65, go_sem, e0, e1, e2, e3, e4, e5, e6, e7]) rfl ⟨d9, ⟨true, n0, m, k, wk, d, 0, 0⟩, rfl, fun h => absurd h h4⟩
 subst h4
 have tx := U95; obtain ⟨cUU_b, cUU_f, cUU_0, cUU_1, cUU_2, cUU_3, cUU_4, cUU_5, cUU_6, cUU_7⟩ := tx
 have tx := Z95; obtain ⟨cZ_b, cZ_f, cZ_0, cZ_1, cZ_2, cZ_3, cZ_4, cZ_5, cZ_6, cZ_7⟩ := tx
 go_wp2_with fail
 clear cUU_b cUU_f cUU_0 cUU_1 cUU_2 cUU_3 cUU_4 cUU_5 cUU_6 cUU_7 cZ_b cZ_f cZ_0 cZ_1 cZ_2 cZ_3 cZ_4 cZ_5 cZ_6 cZ_7
 refine (KR.out _).mono ?_; rintro e w96 ⟨rfl, b96⟩
 have d96 : Below w95.heap.size w95 w96 := below_step gr0 b96
 have B96 := Lib.hid (below_step B95.out d96)
 have UU96 := U95.keep d96
 have Z96 := Z95.keep d96
 clear U95 Z95 b96 d96 B95
 clear g0 g1 g2 g3
 have hF3 : F = q3 := by rw [HF.out]; by_cases h : q3 = 0 <;> simp [Ru.fst, h]
 subst hF3
 have tx := UU96; obtain ⟨cUU_b, cUU_f, cUU_0, cUU_1, cUU_2, cUU_3, cUU_4, cUU_5, cUU_6, cUU_7⟩ := tx
 have tx := Z96; obtain ⟨cZ_b, cZ_f, cZ_0, cZ_1, cZ_2, cZ_3, cZ_4, cZ_5, cZ_6, cZ_7⟩ := tx
 go_upto_region 14 with (fail)
 clear cUU_b cUU_f cUU_0 cUU_1 cUU_2 cUU_3 cUU_4 cUU_5 cUU_6 cUU_7 cZ_b cZ_f cZ_0 cZ_1 cZ_2 cZ_3 cZ_4 cZ_5 cZ_6 cZ_7
 refine wp_named ?_; intro x9 hx9
 have B99 := Lib.hid (show Below w.heap.size w x9 by rw [hx9]; exact (grB B96))
 have UU99 := ((UU96.set6 (v := .int .i64 sec) rfl).set7 (v := .int .i64 base) hx9)
 have Z99 := ((Z96.other (i := 6) (v := .int .i64 sec) rfl (by have := Z96.hb; have := UU96.hb; omega)).other (i := 7) (v := .int .i64 base) hx9 (by have := Z96.hb; have := UU96.hb; omega))
 clear hx9 UU96 Z96 B96
 have tx := UU99; obtain ⟨cUU_b, cUU_f, cUU_0, cUU_1, cUU_2, cUU_3, cUU_4, cUU_5, cUU_6, cUU_7⟩ := tx
 have tx := Z99; obtain ⟨cZ_b, cZ_f, cZ_0, cZ_1, cZ_2, cZ_3, cZ_4, cZ_5, cZ_6, cZ_7⟩ := tx
 refine wp_region_lit ?_
 go_step; go_simp; go_step
 go_step; go_simp; go_step
 clear cUU_b cUU_f cUU_0 cUU_1 cUU_2 cUU_3 cUU_4 cUU_5 cUU_6 cUU_7 cZ_b cZ_f cZ_0 cZ_1 cZ_2 cZ_3 cZ_4 cZ_5 cZ_6 cZ_7
 refine wpList_st8 ?_ 41 (Operand.tmp 2) (Operand.tmp 79) ?_ w.heap.size (.bool true) (.int .i64 n0) (.int .i64 m) (.int .i64 k) (.int .i64 wk) (.int .i64 d) (.int .i64 sec) (.int .i64 base) ?_ ?_ ?_ Z99 ?_ (fun W9 C hbel => ?_)
 ·
  rfl
 ·
  rfl
 ·
  rfl
 ·
  rfl
 ·
  kernel_rfl
 ·
  simp [Value.oneCell']
 have d9 := hbel _ _ (Nat.le_refl _) B99.out
 clear hbel UU99 Z99
 have e0 := C.k0; have e1 := C.k1; have e2 := C.k2; have e3 := C.k3; have e4 := C.k4; have e5 := C.k5; have e6 := C.k6; have e7 := C.k7
 clear C
 go_step; go_simp; go_step
 go_step; go_simp; go_step
 go_step
 simp +zetaDelta only [Exit.then, Exit.inBlock]
 exact bodyPost_ret (v := .tuple #[.agg #[.bool true, .int .i64 n0, .int .i64 m, .int .i64 k, .int .i64 wk, .int .i64 d, .int .i64 sec, .int .i64 base], .int .i64 F]) (by simp [results, Tryz.results65, go_sem, e0, e1, e2, e3, e4, e5, e6, e7]) rfl ⟨d9, ⟨true, n0, m, k, wk, d, sec, base⟩, rfl, fun _ => HV.out.symm⟩
theorem rend_all (v : Value) (r : List ByteArray) (h4 : r.length ≤ 4) (w : World) (S : StS w v r) (hz : ∀ x ∈ r, x.size ≤ 600) :
  Calls Tryz.prog 65 #[v] w fun e w' => Below w.heap.size w w' ∧ ∃ u : Er.U, e = .returned (.tuple #[u.v, .int .i64 (Ru.fst (Er.enW r))]) ∧ (Ru.fst (Er.enW r) = 0 → u = Er.enV r) := by
 match r, h4, S, hz with
 | [], _, S, hz => exact rend_0 v w S hz
 | [a], _, S, hz => exact rend_1 v a w S hz
 | [a, b], _, S, hz => exact rend_2 v a b w S hz
 | [a, b, c], _, S, hz => exact rend_3 v a b c w S hz
 | [a, b, c, d], _, S, hz => exact rend_4 v a b c d w S hz
 | _ :: _ :: _ :: _ :: _ :: _, h, _, _ => simp at h
end Go.Proofs.YtpggfhmnhbnefaaGreatDoor

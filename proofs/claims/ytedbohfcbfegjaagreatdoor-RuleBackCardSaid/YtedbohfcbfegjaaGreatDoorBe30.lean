/- Joined: YrE0, DsG, AmM0, AmM. -/
import Derived.Test.YtedbohfcbfegjaaGreatDoorBe18
import Derived.Test.YtedbohfcbfegjaaGreatDoorBe17
import Derived.Test.YtedbohfcbfegjaaGreatDoorBe08
import Derived.Test.YtedbohfcbfegjaaGreatDoorBe26
/- Years: there and back, in plain lists. -/
set_option linter.unusedVariables false
set_option linter.unusedSimpArgs false
namespace Go.Proofs.YtedbohfcbfegjaaGreatDoor
open Go.RowKit Go.Sort

namespace Yr
theorem starts_tab : ∀ n : Fin 256, (Num.dig (UInt8.ofNat n.val) || decide (n.val = 45)) = starts.contains (UInt8.ofNat n.val) := by decide +kernel
theorem starts_dig (c : UInt8) : starts.contains c = (Num.dig c || decide (c.toNat = 45)) := by
  have := starts_tab ⟨c.toNat, c.toNat_lt⟩
  rw [show UInt8.ofNat c.toNat = c from UInt8.ofNat_toNat] at this
  exact this.symm
theorem itoa_isN (n : Int) : isN (Lib.itoa n) = true := by
  unfold Lib.itoa
  split
  · show starts.contains 45 = true
    decide
  · obtain ⟨c, r, e, hd⟩ := Num.dec_head n.toNat
    rw [e]
    show starts.contains c = true
    rw [starts_dig, hd]; rfl
theorem itoa_rd {n : Int} (n0 : -9223372036854775808 ≤ n) (n1 : n ≤ 9223372036854775807) : Num.rd (Lib.itoa n) = (n, 0) := by
  unfold Num.rd
  rw [Num.isT_itoa, if_pos rfl, Num.parse_itoa n n0 n1]
theorem itoa_num {n : Int} (h : inY n = true) : num (Lib.itoa n) = (n, 0) := by
  have h2 := h
  unfold inY at h2
  rw [Bool.and_eq_true, decide_eq_true_eq, decide_eq_true_eq] at h2
  unfold num
  rw [itoa_rd (by omega) (by omega), if_pos rfl, h]; rfl
theorem tI_size {n : Int} (h : inY n = true) : (tI n).size ≤ 21 := by
  unfold inY at h
  rw [Bool.and_eq_true, decide_eq_true_eq, decide_eq_true_eq] at h
  show (Lib.itoa n).toArray.size ≤ 21
  rw [List.size_toArray]
  exact Lib.itoa_length_le n (by omega) (by omega)
theorem ft_size (y : Int) : (ft y).1.size ≤ 1000 := by
  unfold ft
  cases h : inY y
  · simp only [Bool.false_eq_true, if_false]; decide
  · simp only [if_true]
    split
    · decide
    · have := tI_size h; show (tI y).size ≤ 1000; omega
theorem tt_size (f y : Int) : (tt f y).1.size ≤ 1000 := by
  unfold tt
  cases h : inY y
  · simp only [Bool.false_eq_true, if_false]; decide
  · simp only [if_true]
    split
    · decide
    · split
      · decide
      · split
        · decide
        · have := tI_size h; show (tI y).size ≤ 1000; omega
theorem ft_back {y : Int} (h : (ft y).2 = 0) : fr (ft y).1.data.toList = (y, 0) := by
  revert h
  unfold ft
  cases hi : inY y
  · simp only [Bool.false_eq_true, if_false]; intro h; exact absurd h (by decide)
  · simp only [if_true]
    split
    · rename_i e; subst e; intro _; decide +kernel
    · intro _
      show fr (Lib.itoa y) = (y, 0)
      unfold fr
      rw [itoa_isN, if_pos rfl, itoa_num hi]
theorem only_w : word [111, 110, 108, 121] = (2, 0) ∧ isN [111, 110, 108, 121] = false := by decide +kernel
theorem max_w : word [109, 97, 120] = (1, 0) ∧ isN [109, 97, 120] = false := by decide +kernel
theorem tt_back {f y : Int} (h : (tt f y).2 = 0) : to (tt f y).1.data.toList f = (y, 0) := by
  revert h
  unfold tt
  cases hi : inY y
  · simp only [Bool.false_eq_true, if_false]; intro h; exact absurd h (by decide)
  · simp only [if_true]
    split
    · intro h; exact absurd h (by decide)
    · rename_i hlt
      split
      · rename_i e
        intro _
        subst e
        have e : la [111, 110, 108, 121] y = (y, 0) := by
          unfold la
          rw [only_w.2, only_w.1]; rfl
        show to [111, 110, 108, 121] y = (y, 0)
        unfold to
        rw [e, if_pos rfl, if_pos (Int.le_refl _)]
      · split
        · rename_i e
          intro _
          subst e
          have e : la [109, 97, 120] f = (32767, 0) := by
            unfold la
            rw [max_w.2, max_w.1]; rfl
          show to [109, 97, 120] f = (32767, 0)
          unfold to
          rw [e, if_pos rfl, if_pos (by omega)]
        · intro _
          have e : la (Lib.itoa y) f = (y, 0) := by
            unfold la
            rw [itoa_isN, if_pos rfl, itoa_num hi]
          show to (Lib.itoa y) f = (y, 0)
          unfold to
          rw [e, if_pos rfl, if_pos (by omega)]
theorem to_ge {l : List UInt8} {f : Int} (h : (to l f).2 = 0) : f ≤ (to l f).1 := by
  revert h
  unfold to
  split
  · split
    · rename_i h; intro _; exact h
    · intro h; exact absurd h (by decide)
  · rename_i h; intro h2; exact absurd h2 h
end Yr
end Go.Proofs.YtedbohfcbfegjaaGreatDoor

/- Names of days: there and back in plain lists; the answers that noontidelaw18.lives asks for. -/
set_option linter.unusedVariables false
set_option linter.unusedSimpArgs false
namespace Go.Proofs.YtedbohfcbfegjaaGreatDoor
open Go.RowKit Go.Sort

/-- What the row's list gives. -/
structure Ds.Lv (w : World) (tp : TypeId) (p : Value) : Prop where
  tab : Lib.TabIs Tryz.prog w "internal/strconv.uint64pow10" .u64 Lib.pow10Tab
  rng : w.var? Tryz.prog "strconv.ErrRange" = some #[.iface tp p]
  days : Wd.DTabs w
theorem Ds.Lv.keep {w w' : World} {tp : TypeId} {p : Value} (h : Ds.Lv w tp p) (k : Below w.heap.size w w') : Ds.Lv w' tp p := ⟨var_keep k h.tab, var_keep k h.rng, h.days.on k⟩
namespace Wd
theorem run_lt (s : List UInt8) (all : List ByteArray) (N : Nat) : ∀ (r : List ByteArray) (k : Nat) (f : Int) (sv : Bool), k + r.length ≤ N → f < N → (run s all r k f sv).2 = 0 → (run s all r k f sv).1 < N := by
  intro r
  induction r with
  | nil =>
    intro k f sv h1 h2
    rw [run_nil]
    split
    · intro h; exact absurd h (by simp)
    · intro _; exact h2
  | cons x r ih =>
    intro k f sv h1 h2
    have h3 : k + 1 + r.length ≤ N := by simp at h1; omega
    have h4 : (k : Int) < N := by simp at h1; omega
    unfold run
    split
    · intro _; exact h4
    · split
      · exact ih _ _ _ h3 h2
      · split
        · exact ih _ _ _ h3 h4
        · split
          · exact ih _ _ _ h3 h2
          · exact ih _ _ _ h3 h2
theorem mat_lt {s : List UInt8} {all : List ByteArray} : (mat s all).2 = 0 → (mat s all).1 < all.length := by
  unfold mat
  split
  · intro h; exact absurd h (by simp)
  · have hN : (-1 : Int) < (all.length : Int) := by omega
    exact run_lt s all all.length all 0 (-1) false (by omega) hN
end Wd
namespace Ds
theorem wd_bd {l : List UInt8} (h : (wd l).2 = 0) : 0 ≤ (wd l).1 ∧ (wd l).1 ≤ 6 := by
  unfold wd at h ⊢
  obtain ⟨h0, h1, -⟩ := Wd.mat_bd l Wd.days
  have e : Wd.days.length = 7 := rfl
  rw [e] at h1
  refine ⟨h0, ?_⟩
  have := Wd.mat_lt h
  rw [e] at this
  omega
theorem day_bd {l : List UInt8} (h : (day l).2 = 0) : 1 ≤ (day l).1 ∧ (day l).1 ≤ 31 := by
  revert h; unfold day
  split
  · cases hi : inD (Num.rd l).1
    · intro h; exact absurd h (by simp)
    · intro _
      unfold inD at hi
      rw [Bool.and_eq_true, decide_eq_true_eq, decide_eq_true_eq] at hi
      exact hi
  · rename_i h; intro h2; exact absurd h2 h
theorem sw_R {k : Int} {a n : List UInt8} (hk : k = 2 ∨ k = 3) (h : (sw k a n).2.2.2 = 0) : Dr.onR (sw k a n).1 (sw k a n).2.1 (sw k a n).2.2.1 = true := by
  by_cases h1 : (wd a).2 = 0
  · by_cases h2 : (day n).2 = 0
    · rw [sw_y h1 h2]
      have a1 := wd_bd h1
      have a2 := day_bd h2
      exact Dr.onR_true.2 (.inr (.inr ⟨hk, a1.1, a1.2, a2.1, a2.2⟩))
    · rw [sw_d h1 h2] at h; exact absurd h h2
  · rw [sw_w h1] at h; exact absurd h h1
theorem rd_R {l : List UInt8} (h : (rd l).2.2.2 = 0) : Dr.onR (rd l).1 (rd l).2.1 (rd l).2.2.1 = true := by
  revert h; unfold rd
  split
  · unfold ws
    split
    · exact sw_R (.inl rfl)
    · split
      · exact sw_R (.inr rfl)
      · intro h; exact absurd h (by decide)
  · split
    · split
      · rename_i hd; intro _
        have a2 := day_bd hd
        exact Dr.onR_true.2 (.inl ⟨rfl, rfl, a2.1, a2.2⟩)
      · rename_i hd; intro h; exact absurd h hd
    · split
      · split
        · rename_i hw; intro _
          have a1 := wd_bd hw
          exact Dr.onR_true.2 (.inr (.inl ⟨rfl, a1.1, a1.2, rfl⟩))
        · rename_i hw; intro h; exact absurd h hw
      · intro h; exact absurd h (by decide)
set_option maxRecDepth 100000 in
theorem rd_tab : ∀ k : Fin 4, ∀ w : Fin 7, ∀ d : Fin 32, Dr.onR k.val w.val d.val = true → rd (tx k.val w.val d.val).1.data.toList = ((k.val : Int), (w.val : Int), (d.val : Int), (0 : Int)) := by decide +kernel
theorem rd_tx {k w d : Int} (h : Dr.onR k w d = true) : rd (tx k w d).1.data.toList = (k, w, d, 0) := by
  have hb := Dr.onR_true.1 h
  obtain ⟨k', rfl⟩ : ∃ n : Nat, k = n := ⟨k.toNat, by omega⟩
  obtain ⟨w', rfl⟩ : ∃ n : Nat, w = n := ⟨w.toNat, by omega⟩
  obtain ⟨d', rfl⟩ : ∃ n : Nat, d = n := ⟨d.toNat, by omega⟩
  exact rd_tab ⟨k', by omega⟩ ⟨w', by omega⟩ ⟨d', by omega⟩ h
theorem tx_ok {k w d : Int} (h : Dr.onR k w d = true) : (tx k w d).2 = 0 ∧ (tx k w d).1.size ≤ 1000 := by
  have hb := Dr.onR_true.1 h
  have a := td_sz d (by omega) (by omega)
  have b := tw_sz w (by omega) (by omega)
  unfold tx
  rw [if_pos h]
  refine ⟨rfl, ?_⟩
  show (if k = 1 then ⟨#[108, 97, 115, 116]⟩ ++ tw w else if k = 2 then tw w ++ ⟨#[62, 61]⟩ ++ td d else if k = 3 then tw w ++ ⟨#[60, 61]⟩ ++ td d else td d : ByteArray).size ≤ 1000
  have e1 : (⟨#[108, 97, 115, 116]⟩ : ByteArray).size = 4 := rfl
  have e2 : (⟨#[62, 61]⟩ : ByteArray).size = 2 := rfl
  have e3 : (⟨#[60, 61]⟩ : ByteArray).size = 2 := rfl
  split
  · rw [ByteArray.size_append]; omega
  · split
    · rw [ByteArray.size_append, ByteArray.size_append]; omega
    · split
      · rw [ByteArray.size_append, ByteArray.size_append]; omega
      · omega
theorem tx_no {k w d : Int} (h : Dr.onR k w d = false) : tx k w d = (⟨#[]⟩, 4) := by
  unfold tx; rw [h]; rfl
end Ds
theorem dRead_c (s : ByteArray) (x0 x1 x2 q : Int) (h : Ds.rd s.data.toList = (x0, x1, x2, q)) (hs : s.size ≤ 1000) (w : World) (tp : TypeId) (p : Value) (L : Ds.Lv w tp p) :
    Calls Tryz.prog 84 #[.string s] w fun e w' => e = .returned (.tuple #[.agg #[.int .i64 x0, .int .i64 x1, .int .i64 x2], .int .i64 q]) ∧ Below w.heap.size w w' := by
  have := dRead_any s w hs tp p L.rng L.days
  rw [h] at this
  exact this
theorem dText_c (k wk d : Int) (t : ByteArray) (q : Int) (h : Ds.tx k wk d = (t, q)) (w : World) (tp : TypeId) (p : Value) (L : Ds.Lv w tp p) :
    Calls Tryz.prog 42 #[.agg #[.int .i64 k, .int .i64 wk, .int .i64 d]] w fun e w' => e = .returned (.tuple #[.string t, .int .i64 q]) ∧ Below w.heap.size w w' := by
  have := dspt_any k wk d w L.tab L.days
  rw [h] at this
  exact this
end Go.Proofs.YtedbohfcbfegjaaGreatDoor

/- Amounts, there and back: what the written texts mean, in plain lists. -/
set_option linter.unusedVariables false
set_option linter.unusedSimpArgs false
namespace Go.Proofs.YtedbohfcbfegjaaGreatDoor
open Go Go.Lib

namespace Am
def nc (l : List UInt8) : Prop := ∀ c ∈ l, c ≠ 58
theorem nc_dig {l : List UInt8} (h : l.all Num.dig = true) : nc l := by
  intro c hc e
  subst e
  have := List.all_eq_true.1 h 58 hc
  revert this; decide
theorem pre58 (c : UInt8) (l : List UInt8) : ([58] : List UInt8).isPrefixOf (c :: l) = (58 == c) := by
  rw [List.isPrefixOf, List.isPrefixOf, Bool.and_true]
theorem ix_none : ∀ l : List UInt8, nc l → index l [58] = -1 := by
  intro l
  induction l with
  | nil => intro _; rfl
  | cons c l ih =>
    intro h
    have h1 : (58 == c) = false := by rw [beq_eq_false_iff_ne]; exact fun e => h c (List.mem_cons_self ..) e.symm
    unfold index
    rw [pre58, h1, ih (fun x hx => h x (List.mem_cons_of_mem _ hx))]
    rfl
theorem ix_at : ∀ (a r : List UInt8), nc a → index (a ++ 58 :: r) [58] = (a.length : Int) := by
  intro a
  induction a with
  | nil => intro r _; rw [List.nil_append]; unfold index; rw [pre58]; rfl
  | cons c a ih =>
    intro r h
    have h1 : (58 == c) = false := by rw [beq_eq_false_iff_ne]; exact fun e => h c (List.mem_cons_self ..) e.symm
    have h2 := ih r (fun x hx => h x (List.mem_cons_of_mem _ hx))
    have h3 : ((a.length : Int) == -1) = false := by rw [beq_eq_false_iff_ne]; omega
    rw [List.cons_append]
    unfold index
    rw [pre58, h1, h2, h3]
    simp
theorem splitK_at (a r : List UInt8) (k : Nat) (h : nc a) : splitK [58] 0 (k + 1) (a ++ 58 :: r) = a :: splitK [58] 0 k r := by
  have h3 : ((a.length : Int) == -1) = false := by rw [beq_eq_false_iff_ne]; omega
  conv => lhs; unfold splitK
  rw [ix_at a r h, h3]
  simp
theorem splitK_no (k : Nat) (l : List UInt8) (h : nc l) : splitK [58] 0 k l = [l] := by
  cases k with
  | zero => rfl
  | succ k => unfold splitK; rw [ix_none l h]; rfl
theorem pcs_data (s : ByteArray) : (pcs s).map (·.data.toList) = splitK [58] 0 (min 3 (s.size + 1) - 1) s.data.toList := splitB_data _ _ _ _
theorem isK_l (s : ByteArray) (k : Nat) : isK s k = match ((pcs s).map (·.data.toList))[k]? with | some x => isP k x | none => true := by
  unfold isK
  rw [List.getElem?_map]
  cases (pcs s)[k]? <;> rfl
theorem vK_l (s : ByteArray) (k : Nat) : vK s k = match ((pcs s).map (·.data.toList))[k]? with | some x => (Num.val 0 x : Int) | none => 0 := by
  unfold vK
  rw [List.getElem?_map]
  cases (pcs s)[k]? <;> rfl
theorem pcs3 {s : ByteArray} {a b c : List UInt8} (e : s.data.toList = a ++ 58 :: (b ++ 58 :: c)) (ha : nc a) (hb : nc b) : (pcs s).map (·.data.toList) = [a, b, c] := by
  have hl : 2 ≤ s.size := by rw [← ab_len s, e]; simp; omega
  rw [pcs_data, e, show min 3 (s.size + 1) - 1 = 2 by omega, splitK_at a _ 1 ha, splitK_at b _ 0 hb]
  rfl
theorem pcs2 {s : ByteArray} {a b : List UInt8} (e : s.data.toList = a ++ 58 :: b) (hl : 2 ≤ s.size) (ha : nc a) (hb : nc b) : (pcs s).map (·.data.toList) = [a, b] := by
  rw [pcs_data, e, show min 3 (s.size + 1) - 1 = 2 by omega, splitK_at a _ 1 ha, splitK_no 1 b hb]
theorem ok3 {s : ByteArray} {a b c : List UInt8} (e : s.data.toList = a ++ 58 :: (b ++ 58 :: c)) (ha : isP 0 a = true) (hb : isP 1 b = true) (hc : isP 2 c = true) :
    okK s = true ∧ vK s 0 = (Num.val 0 a : Int) ∧ vK s 1 = (Num.val 0 b : Int) ∧ vK s 2 = (Num.val 0 c : Int) := by
  have p := pcs3 e (nc_dig (isP_size ha).1) (nc_dig (isP_size hb).1)
  refine ⟨?_, by rw [vK_l, p]; rfl, by rw [vK_l, p]; rfl, by rw [vK_l, p]; rfl⟩
  unfold okK
  rw [isK_l, isK_l, isK_l, p]
  show (isP 0 a && (isP 1 b && isP 2 c)) = true
  rw [ha, hb, hc]; rfl
theorem ok2 {s : ByteArray} {a b : List UInt8} (e : s.data.toList = a ++ 58 :: b) (ha : isP 0 a = true) (hb : isP 1 b = true) :
    okK s = true ∧ vK s 0 = (Num.val 0 a : Int) ∧ vK s 1 = (Num.val 0 b : Int) ∧ vK s 2 = 0 := by
  have hl : 2 ≤ s.size := by
    rw [← ab_len s, e]
    unfold isP at hb
    rw [Bool.and_eq_true] at hb
    have := of_decide_eq_true hb.2
    simp; omega
  have p := pcs2 e hl (nc_dig (isP_size ha).1) (nc_dig (isP_size hb).1)
  refine ⟨?_, by rw [vK_l, p]; rfl, by rw [vK_l, p]; rfl, by rw [vK_l, p]; rfl⟩
  unfold okK
  rw [isK_l, isK_l, isK_l, p]
  show (isP 0 a && (isP 1 b && true)) = true
  rw [ha, hb]; rfl
/-- The first part is none. -/
theorem no1 {s : ByteArray} {a r : List UInt8} (e : s.data.toList = a ++ 58 :: r) (ha : nc a) (hp : isP 0 a = false) : okK s = false := by
  have hl : 1 ≤ s.size := by rw [← ab_len s, e]; simp; omega
  obtain ⟨k, hk⟩ : ∃ k, min 3 (s.size + 1) - 1 = k + 1 := ⟨min 3 (s.size + 1) - 2, by omega⟩
  have p : ((pcs s).map (·.data.toList))[0]? = some a := by rw [pcs_data, e, hk, splitK_at a r k ha]; rfl
  refine okK_no (k := 0) (by omega) ?_
  rw [isK_l, p]; exact hp
theorem un_dig {t : ByteArray} {c : UInt8} {r : List UInt8} (h : t.data.toList = c :: r) (hc : c ≠ 45) : un t = t ∧ neg t = false := by
  have e : trimPrefix t.data.toList [45] = t.data.toList := by rw [h]; exact Num.tp_other c r hc
  refine ⟨?_, ?_⟩
  · unfold un; rw [e]
  · unfold neg; rw [h, Num.hp_cons]; simpa using hc
theorem un_neg {t : ByteArray} {l : List UInt8} (h : t.data.toList = 45 :: l) : un t = ⟨l.toArray⟩ ∧ neg t = true := by
  refine ⟨?_, ?_⟩
  · unfold un; rw [h, Num.tp_minus]
  · unfold neg; rw [h, Num.hp_cons]; rfl
theorem alone {t : ByteArray} (h : 2 ≤ t.size) : (t.toList == [45]) = false := by
  rw [beq_eq_false_iff_ne, ByteArray.toList_eq]
  intro e
  have := ab_len t
  rw [e] at this
  simp at this; omega
/-- What is told of three numbers read. -/
theorem rd_of {t : ByteArray} {x y z : Int} {ng : Bool} (h2 : 2 ≤ t.size) (hn : neg t = ng) (h : okK (un t) = true ∧ vK (un t) 0 = x ∧ vK (un t) 1 = y ∧ vK (un t) 2 = z) :
    rd t = if y < 60 ∧ z < 60 ∧ x * 3600 + y * 60 + z ≤ 604799 then ((if ng then -(x * 3600 + y * 60 + z) else x * 3600 + y * 60 + z), 0) else (0, 1) := by
  obtain ⟨hk, v0, v1, v2⟩ := h
  unfold rd inR sum
  rw [alone h2, hk, v0, v1, v2, hn]
  simp only [Bool.false_eq_true, if_false]
  by_cases h1 : y < 60
  · by_cases h3 : z < 60
    · by_cases h4 : x * 3600 + y * 60 + z ≤ 604799
      · simp [h1, h3, h4]
      · simp [h1, h3, h4]
    · simp [h1, h3]
  · simp [h1]
theorem rd_no {t : ByteArray} (h2 : 2 ≤ t.size) (h : okK (un t) = false) : rd t = (0, 2) := by
  unfold rd
  rw [alone h2, h]; rfl
/-- Hours' texts; two digits. -/
theorem h_tab : ∀ n : Fin 1000, (isP 0 (itoa (n.val : Int)) && (decide (Num.val 0 (itoa (n.val : Int)) = n.val) && (isP 0 (48 :: itoa (n.val : Int)) == decide (n.val < 100)))) = true := by decide +kernel
theorem d_tab : ∀ n : Fin 100, (isP 1 (itoa ((n.val : Int) / 10) ++ itoa ((n.val : Int) % 10)) && decide (Num.val 0 (itoa ((n.val : Int) / 10) ++ itoa ((n.val : Int) % 10)) = n.val)) = true := by decide +kernel
theorem e_tab : ∀ n : Fin 100, 10 ≤ n.val → (isP 1 (itoa (n.val : Int)) && decide (Num.val 0 (itoa (n.val : Int)) = n.val)) = true := by decide +kernel
theorem hours {n : Int} (h0 : 0 ≤ n) (h1 : n < 1000) : isP 0 (itoa n) = true ∧ (Num.val 0 (itoa n) : Int) = n ∧ isP 0 (48 :: itoa n) = decide (n < 100) := by
  have := h_tab ⟨n.toNat, by omega⟩
  rw [Bool.and_eq_true, Bool.and_eq_true, decide_eq_true_eq, beq_iff_eq] at this
  obtain ⟨a, b, c⟩ := this
  simp only [show ((n.toNat : Nat) : Int) = n by omega] at a b c
  refine ⟨a, by omega, ?_⟩
  rw [c, Bool.eq_iff_iff, decide_eq_true_eq, decide_eq_true_eq]; omega
theorem isP_12 {l : List UInt8} : isP 2 l = isP 1 l := rfl
theorem digits3 {n : Int} (h0 : 10 ≤ n) (h1 : n < 100) : isP 1 (itoa n) = true ∧ (Num.val 0 (itoa n) : Int) = n := by
  have := e_tab ⟨n.toNat, by omega⟩ (show 10 ≤ n.toNat by omega)
  rw [Bool.and_eq_true, decide_eq_true_eq] at this
  simp only [show ((n.toNat : Nat) : Int) = n by omega] at this
  exact ⟨this.1, by omega⟩
theorem isP_head {i : Int} {l : List UInt8} (h : isP i l = true) (hn : l ≠ []) : ∃ c r, l = c :: r ∧ c ≠ 45 := by
  cases l with
  | nil => exact absurd rfl hn
  | cons c r =>
    have := (isP_size (i := i.toNat) (l := c :: r))
    unfold isP at h
    rw [Bool.and_eq_true, List.all_cons, Bool.and_eq_true] at h
    exact ⟨c, r, rfl, (Num.dig_ne h.1.1).1⟩
end Am
end Go.Proofs.YtedbohfcbfegjaaGreatDoor

/- Two digits of amounts. -/
set_option linter.unusedVariables false
set_option linter.unusedSimpArgs false
namespace Go.Proofs.YtedbohfcbfegjaaGreatDoor
open Go Go.Lib

namespace Am
theorem digits2 {n : Int} (h0 : 0 ≤ n) (h1 : n < 100) : isP 1 (dd n).data.toList = true ∧ (Num.val 0 (dd n).data.toList : Int) = n := by
  have := d_tab ⟨n.toNat, by omega⟩
  rw [Bool.and_eq_true, decide_eq_true_eq] at this
  simp only [show ((n.toNat : Nat) : Int) = n by omega] at this
  have e : (dd n).data.toList = itoa (n / 10) ++ itoa (n % 10) := by unfold dd tI; rw [ByteArray.data_append, Array.toList_append]
  rw [e]
  exact ⟨this.1, by omega⟩
end Am
end Go.Proofs.YtedbohfcbfegjaaGreatDoor

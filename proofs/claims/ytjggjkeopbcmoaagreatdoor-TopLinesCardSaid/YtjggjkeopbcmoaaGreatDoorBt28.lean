/- Joined: WdRe, WdG, ErU. -/
import Derived.Test.YtjggjkeopbcmoaaGreatDoorBt06
import Derived.Test.YtjggjkeopbcmoaaGreatDoorBt07
import Derived.Test.YtjggjkeopbcmoaaGreatDoorBt23
import Derived.Test.YtjggjkeopbcmoaaGreatDoorBt27
set_option linter.unusedVariables false
set_option linter.unusedSimpArgs false
namespace Go.Proofs.YtjggjkeopbcmoaaGreatDoor
section
open Go.RowKit
end
section
open Go.RowKit Go.Sort
namespace Wd
def ref2 (s : List UInt8) (all : List ByteArray) : List ByteArray → Nat → Int → Int × Int
 | [], _, f => if f < 0 then (0, 3) else (f, 0)
 | x :: r, i, f => if beg x.data.toList s = false then ref2 s all r (i + 1) f else if f < 0 then ref2 s all r (i + 1) (i : Int)
  else if same (all.getD f.toNat ByteArray.empty).data.toList x.data.toList = true then ref2 s all r (i + 1) f else (0, 3)
def ref1 (s : List UInt8) (all : List ByteArray) : List ByteArray → Nat → Int × Int
 | [], _ => ref2 s all all 0 (-1)
 | x :: r, i => if same x.data.toList s = true then ((i : Int), 0) else ref1 s all r (i + 1)
theorem run_exact {s : List UInt8} {all : List ByteArray} : ∀ (r : List ByteArray) (i : Nat) (f : Int) (sv : Bool), (∃ x ∈ r, same x.data.toList s = true) → run s all r i f sv = ref1 s all r i := by
 intro r
 induction r with
 | nil => intro i f sv ⟨x, hx, _⟩; cases hx
 | cons y r ih =>
  intro i f sv hex
  unfold run ref1
  by_cases h : same y.data.toList s = true
  ·
   rw [if_pos h, if_pos h]
  ·
   rw [if_neg h, if_neg h]
   have hr : ∃ x ∈ r, same x.data.toList s = true := by
    obtain ⟨x, hx, he⟩ := hex
    rcases List.mem_cons.1 hx with rfl | hx
    ·
     exact absurd he h
    ·
     exact ⟨x, hx, he⟩
   split
   ·
    exact ih _ _ _ hr
   ·
    split
    ·
     exact ih _ _ _ hr
    ·
     split <;> exact ih _ _ _ hr
theorem run_many {s : List UInt8} {all : List ByteArray} : ∀ (r : List ByteArray) (i : Nat) (f : Int), (∀ x ∈ r, ¬ same x.data.toList s = true) → run s all r i f true = (0, 3) := by
 intro r
 induction r with
 | nil => intro i f _; rw [run_nil, if_pos (.inr rfl)]
 | cons y r ih =>
  intro i f hno
  have hr : ∀ x ∈ r, ¬ same x.data.toList s = true := fun x hx => hno x (List.mem_cons_of_mem _ hx)
  unfold run
  rw [if_neg (hno y (List.mem_cons_self ..))]
  split
  ·
   exact ih _ _ hr
  ·
   split
   ·
    exact ih _ _ hr
   ·
    split <;> exact ih _ _ hr
theorem run_ref2 {s : List UInt8} {all : List ByteArray} : ∀ (r : List ByteArray) (i : Nat) (f : Int), (∀ x ∈ r, ¬ same x.data.toList s = true) → run s all r i f false = ref2 s all r i f := by
 intro r
 induction r with
 | nil => intro i f _; rw [run_nil]; unfold ref2; simp
 | cons y r ih =>
  intro i f hno
  have hr : ∀ x ∈ r, ¬ same x.data.toList s = true := fun x hx => hno x (List.mem_cons_of_mem _ hx)
  unfold run ref2
  rw [if_neg (hno y (List.mem_cons_self ..))]
  split
  ·
   exact ih _ _ hr
  ·
   split
   ·
    exact ih _ _ hr
   ·
    rw [same_comm]
    split
    ·
     exact ih _ _ hr
    ·
     exact run_many _ _ _ hr
theorem ref1_no {s : List UInt8} {all : List ByteArray} : ∀ (r : List ByteArray) (i : Nat), (∀ x ∈ r, ¬ same x.data.toList s = true) → ref1 s all r i = ref2 s all all 0 (-1) := by
 intro r
 induction r with
 | nil => intro i _; rfl
 | cons y r ih =>
  intro i hno
  unfold ref1
  rw [if_neg (hno y (List.mem_cons_self ..))]
  exact ih _ (fun x hx => hno x (List.mem_cons_of_mem _ hx))
theorem mat_ref {s : List UInt8} {all : List ByteArray} (h : s ≠ []) : mat s all = ref1 s all all 0 := by
 unfold mat
 rw [if_neg h]
 by_cases hex : ∃ x ∈ all, same x.data.toList s = true
 ·
  exact run_exact _ _ _ _ hex
 ·
  have hno : ∀ x ∈ all, ¬ same x.data.toList s = true := fun x hx he => hex ⟨x, hx, he⟩
  rw [run_ref2 _ _ _ hno, ref1_no _ _ hno]
end Wd
end
section
open Go.RowKit Go.Sort
end
end Go.Proofs.YtjggjkeopbcmoaaGreatDoor
set_option linter.unusedVariables false
set_option linter.unusedSimpArgs false
namespace Go.Proofs.YtjggjkeopbcmoaaGreatDoor
open Go.RowKit Go.Sort
theorem ifc {c d : Prop} [Decidable c] [Decidable d] {α : Type} {a b : α} (h : c ↔ d) : (if c then a else b) = if d then a else b := by
 by_cases hc : c
 ·
  rw [if_pos hc, if_pos (h.1 hc)]
 ·
  rw [if_neg hc, if_neg (fun x => hc (h.2 x))]
namespace Wd
theorem ref2_set {s : List UInt8} {all : List ByteArray} : ∀ (r : List ByteArray) (i j : Nat), ref2 s all r i (j : Int) = if (∀ x ∈ r, beg x.data.toList s = true → same (all.getD j ByteArray.empty).data.toList x.data.toList = true) then ((j : Int), 0) else (0, 3) := by
 intro r
 induction r with
 | nil => intro i j; unfold ref2; rw [if_neg (by omega), if_pos (by intro x hx; cases hx)]
 | cons y r ih =>
  intro i j
  unfold ref2
  by_cases h : beg y.data.toList s = false
  ·
   rw [if_pos h, ih]
   refine ifc ?_
   constructor
   ·
    intro H x hx hb
    rcases List.mem_cons.1 hx with rfl | hx
    ·
     rw [h] at hb; cases hb
    ·
     exact H x hx hb
   ·
    intro H x hx hb
    exact H x (List.mem_cons_of_mem _ hx) hb
  ·
   rw [if_neg h, if_neg (by omega)]
   have hb : beg y.data.toList s = true := by simpa using h
   simp only [Int.toNat_natCast]
   by_cases h2 : same (all.getD j ByteArray.empty).data.toList y.data.toList = true
   ·
    rw [if_pos h2, ih]
    refine ifc ?_
    constructor
    ·
     intro H x hx hb
     rcases List.mem_cons.1 hx with rfl | hx
     ·
      exact h2
     ·
      exact H x hx hb
    ·
     intro H x hx hb
     exact H x (List.mem_cons_of_mem _ hx) hb
   ·
    rw [if_neg h2, if_neg (fun H => h2 (H y (List.mem_cons_self ..) hb))]
theorem ref2_open {s : List UInt8} {all : List ByteArray} : ∀ (r pre : List ByteArray), all = pre ++ r →
  (ref2 s all r pre.length (-1) = (0, 3) ∧ ∀ x ∈ r, beg x.data.toList s = false) ∨
  ∃ (k : Nat) (hk : k < all.length), beg all[k].data.toList s = true ∧ ref2 s all r pre.length (-1) = if (∀ x ∈ r, beg x.data.toList s = true → same all[k].data.toList x.data.toList = true) then ((k : Int), 0) else (0, 3) := by
 intro r
 induction r with
 | nil => intro pre _; left; exact ⟨by unfold ref2; rfl, by intro x hx; cases hx⟩
 | cons y r ih =>
  intro pre hall
  by_cases h : beg y.data.toList s = false
  ·
   have e : ref2 s all (y :: r) pre.length (-1) = ref2 s all r (pre ++ [y]).length (-1) := by
    conv => lhs; unfold ref2
    rw [if_pos h]; simp
   rw [e]
   rcases ih (pre ++ [y]) (by rw [hall]; simp) with ⟨a, b⟩ | ⟨k, hk, a, b⟩
   ·
    left
    refine ⟨a, ?_⟩
    intro x hx
    rcases List.mem_cons.1 hx with rfl | hx
    ·
     exact h
    ·
     exact b x hx
   ·
    right
    refine ⟨k, hk, a, ?_⟩
    rw [b]
    refine ifc ?_
    constructor
    ·
     intro H x hx hb
     rcases List.mem_cons.1 hx with rfl | hx
     ·
      rw [h] at hb; cases hb
     ·
      exact H x hx hb
    ·
     intro H x hx hb
     exact H x (List.mem_cons_of_mem _ hx) hb
  ·
   have hb : beg y.data.toList s = true := by simpa using h
   right
   have hk : pre.length < all.length := by rw [hall]; simp
   have hy : all[pre.length] = y := by subst hall; simp
   refine ⟨pre.length, hk, by rw [hy]; exact hb, ?_⟩
   have e : ref2 s all (y :: r) pre.length (-1) = ref2 s all r (pre.length + 1) (pre.length : Int) := by
    conv => lhs; unfold ref2
    rw [if_neg h, if_pos (by omega)]
   rw [e, ref2_set]
   have g : all.getD pre.length ByteArray.empty = y := by rw [List.getD_eq_getElem?_getD, List.getElem?_eq_getElem hk, hy]; rfl
   rw [g, hy]
   refine ifc ?_
   constructor
   ·
    intro H x hx hb
    rcases List.mem_cons.1 hx with rfl | hx
    ·
     exact same_refl _
    ·
     exact H x hx hb
   ·
    intro H x hx hb
    exact H x (List.mem_cons_of_mem _ hx) hb
theorem mat_no_exact {s : List UInt8} {all : List ByteArray} (hs : s ≠ []) (hno : ∀ x ∈ all, ¬ same x.data.toList s = true) :
  (mat s all = (0, 3) ∧ ∀ x ∈ all, beg x.data.toList s = false) ∨
  ∃ (k : Nat) (hk : k < all.length), beg all[k].data.toList s = true ∧ mat s all = if (∀ x ∈ all, beg x.data.toList s = true → same all[k].data.toList x.data.toList = true) then ((k : Int), 0) else (0, 3) := by
 have e : mat s all = ref2 s all all ([] : List ByteArray).length (-1) := by
  unfold mat
  rw [if_neg hs, run_ref2 _ _ _ hno]; rfl
 rw [e]
 exact ref2_open all [] rfl
theorem ref1_exact {s : List UInt8} {all : List ByteArray} : ∀ (r pre : List ByteArray), all = pre ++ r → (∃ x ∈ r, same x.data.toList s = true) →
  ∃ (k : Nat) (hk : k < all.length), ref1 s all r pre.length = ((k : Int), 0) ∧ same all[k].data.toList s = true := by
 intro r
 induction r with
 | nil => intro pre _ ⟨x, hx, _⟩; cases hx
 | cons y r ih =>
  intro pre hall hex
  by_cases h : same y.data.toList s = true
  ·
   have hk : pre.length < all.length := by rw [hall]; simp
   have hy : all[pre.length] = y := by subst hall; simp
   exact ⟨pre.length, hk, by unfold ref1; rw [if_pos h], by rw [hy]; exact h⟩
  ·
   have e : ref1 s all (y :: r) pre.length = ref1 s all r (pre ++ [y]).length := by
    conv => lhs; unfold ref1
    rw [if_neg h]; simp
   rw [e]
   refine ih (pre ++ [y]) (by rw [hall]; simp) ?_
   obtain ⟨x, hx, he⟩ := hex
   rcases List.mem_cons.1 hx with rfl | hx
   ·
    exact absurd he h
   ·
    exact ⟨x, hx, he⟩
theorem mat_exact {s : List UInt8} {all : List ByteArray} (hs : s ≠ []) (hex : ∃ x ∈ all, same x.data.toList s = true) :
  ∃ (k : Nat) (hk : k < all.length), mat s all = ((k : Int), 0) ∧ same all[k].data.toList s = true := by
 rw [mat_ref hs]
 exact ref1_exact all [] rfl hex
theorem mat_ok {s : List UInt8} {all : List ByteArray} (h : (mat s all).2 = 0) :
  ∃ (k : Nat) (hk : k < all.length), mat s all = ((k : Int), 0) ∧ s ≠ [] ∧ (same all[k].data.toList s = true ∨ (∀ x ∈ all, ¬ same x.data.toList s = true) ∧ beg all[k].data.toList s = true ∧ ∀ x ∈ all, beg x.data.toList s = true → same all[k].data.toList x.data.toList = true) := by
 have hs : s ≠ [] := by
  rintro rfl
  unfold mat at h
  rw [if_pos rfl] at h
  cases h
 by_cases hex : ∃ x ∈ all, same x.data.toList s = true
 ·
  obtain ⟨k, hk, e, hm⟩ := mat_exact hs hex
  exact ⟨k, hk, e, hs, .inl hm⟩
 ·
  have hno : ∀ x ∈ all, ¬ same x.data.toList s = true := fun x hx he => hex ⟨x, hx, he⟩
  rcases mat_no_exact hs hno with ⟨e, -⟩ | ⟨k, hk, hb, e⟩
  ·
   rw [e] at h; cases h
  ·
   by_cases hc : ∀ x ∈ all, beg x.data.toList s = true → same all[k].data.toList x.data.toList = true
   ·
    rw [if_pos hc] at e
    exact ⟨k, hk, e, hs, .inr ⟨hno, hb, hc⟩⟩
   ·
    rw [if_neg hc] at e
    rw [e] at h; cases h
end Wd
namespace Er
theorem tp_u (c : UInt8) (t : List UInt8) : Lib.trimPrefix (c :: t) [45] = if c = 45 then t else c :: t := by
 unfold Lib.trimPrefix Lib.hasPrefix
 by_cases h : c = 45
 ·
  subst h; rfl
 ·
  rw [if_neg h, if_neg (by simp [List.isPrefixOf]; first | exact h | exact Ne.symm h | exact fun e => h e.symm)]
theorem dig_in (c : UInt8) (h : Num.dig c = true) : ([48, 49, 50, 51, 52, 53, 54, 55, 56, 57] : List UInt8).contains c = true := by
 have k : ∀ n : Fin 256, Num.dig (UInt8.ofNat n.val) = true → ([48, 49, 50, 51, 52, 53, 54, 55, 56, 57] : List UInt8).contains (UInt8.ofNat n.val) = true := by decide +kernel
 have := k ⟨c.toNat, c.toNat_lt⟩
 simp only [UInt8.ofNat_toNat] at this
 exact this h
theorem dig_45 (c : UInt8) (h : Num.dig c = true) : c ≠ 45 := by rintro rfl; exact absurd h (by decide +kernel)
theorem bg_in (c : UInt8) (h : Lk.bg c.toNat = true) : ([48, 49, 50, 51, 52, 53, 54, 55, 56, 57] : List UInt8).contains c = false ∧ c ≠ 45 := by
 have k : ∀ n : Fin 256, Lk.bg (UInt8.ofNat n.val).toNat = true → ([48, 49, 50, 51, 52, 53, 54, 55, 56, 57] : List UInt8).contains (UInt8.ofNat n.val) = false ∧ (UInt8.ofNat n.val) ≠ 45 := by decide +kernel
 have := k ⟨c.toNat, c.toNat_lt⟩
 simp only [UInt8.ofNat_toNat] at this
 exact this h
theorem isA_dig (c : UInt8) (t : List UInt8) (h : Num.dig c = true) : isA (c :: t) = true ∧ isA (45 :: c :: t) = true := by
 constructor
 ·
  unfold isA
  rw [tp_u, if_neg (dig_45 c h)]
  exact dig_in c h
 ·
  unfold isA
  rw [tp_u, if_pos rfl]
  exact dig_in c h
theorem w1_head {n : Int} (n0 : 0 < n) (n1 : n ≤ 604799) : ∃ c r, (Am.w1 n).data.toList = c :: r ∧ Num.dig c = true := by
 have S := Am.shape_w1 n
 obtain ⟨h1, h2, h3⟩ := Am.hours (n := n / 3600) (by omega) (by omega)
 obtain ⟨c, r, hc, hc45⟩ := Am.isP_head h1 (Num.itoa_ne _)
 obtain ⟨r', hl⟩ := Am.shape_head S hc
 refine ⟨c, r', hl, ?_⟩
 rw [hc] at h1
 unfold Am.isP at h1
 simp only [List.all_cons, Bool.and_eq_true] at h1
 exact h1.1.1
theorem tx_isA {n : Int} (n0 : -604799 ≤ n) (n1 : n ≤ 604799) : isA (Am.tx n).1.data.toList = true ∧ (Am.tx n).1 ≠ ⟨#[45]⟩ := by
 unfold Am.tx
 rw [if_neg (by omega)]
 by_cases h0 : n = 0
 ·
  rw [if_pos h0]
  decide +kernel
 ·
  rw [if_neg h0]
  by_cases hn : n < 0
  ·
   rw [if_pos hn]
   obtain ⟨c, r, hl, hd⟩ := w1_head (n := -n) (by omega) (by omega)
   have e : ((⟨#[45]⟩ : ByteArray) ++ Am.w1 (-n)).data.toList = 45 :: c :: r := by rw [Am.app_l, hl]; rfl
   refine ⟨by show isA ((⟨#[45]⟩ : ByteArray) ++ Am.w1 (-n)).data.toList = true; rw [e]; exact (isA_dig c r hd).2, fun h => ?_⟩
   have h' : ((⟨#[45]⟩ : ByteArray) ++ Am.w1 (-n)) = ⟨#[45]⟩ := h
   rw [h'] at e
   exact absurd e (by simp)
  ·
   rw [if_neg hn]
   obtain ⟨c, r, hl, hd⟩ := w1_head (n := n) (by omega) (by omega)
   refine ⟨by show isA (Am.w1 n).data.toList = true; rw [hl]; exact (isA_dig c r hd).1, fun h => ?_⟩
   have h' : Am.w1 n = ⟨#[45]⟩ := h
   rw [h'] at hl
   have : c = 45 := by
    have e : ([45] : List UInt8) = c :: r := hl
    injection e with e1 _
    exact e1.symm
   exact dig_45 c hd this
theorem nm_isA {s : ByteArray} (h : Lk.nm s.data.toList = 0) : isA s.data.toList = false ∧ s ≠ ⟨#[45]⟩ := by
 generalize hl : s.data.toList = l at h
 unfold Lk.nm at h
 by_cases h1 : 64 < l.length
 ·
  rw [if_pos h1] at h; exact absurd h (by decide)
 ·
  rw [if_neg h1] at h
  cases h2 : Lk.isN l
  ·
   rw [h2] at h; exact absurd h (by decide)
  ·
   match l, h2, hl with
   | [], h2, _ => exact absurd h2 (by decide)
   | c :: t, h2, hl =>
    unfold Lk.isN at h2
    simp only [Bool.and_eq_true] at h2
    obtain ⟨k1, k2⟩ := bg_in c h2.2
    refine ⟨?_, fun e => ?_⟩
    ·
     unfold isA
     rw [tp_u, if_neg k2]
     exact k1
    ·
     subst e
     have e : ([45] : List UInt8) = c :: t := hl
     injection e with e1 _
     exact k2 e1.symm
theorem am_back54 {n : Int} (h1 : -54000 ≤ n) (h2 : n ≤ 54000) : Am.rd (Am.tx n).1 = (n, 0) ∧ (Am.tx n).1.size ≤ 300 := by
 unfold Am.tx
 rw [if_neg (by omega)]
 by_cases h0 : n = 0
 ·
  rw [if_pos h0, h0]; decide +kernel
 ·
  rw [if_neg h0]
  by_cases hn : n < 0
  ·
   rw [if_pos hn]
   have := (Am.back (n := -n) (by omega) (by omega)).2.1
   have hs := Am.w1_size (-n) (by omega) (by omega)
   refine ⟨by rw [this]; simp, ?_⟩
   show ((⟨#[45]⟩ : ByteArray) ++ Am.w1 (-n)).size ≤ 300
   rw [ByteArray.size_append]
   have e : (⟨#[45]⟩ : ByteArray).size = 1 := rfl
   omega
  ·
   rw [if_neg hn]
   have hs := Am.w1_size n (by omega) (by omega)
   exact ⟨(Am.back (by omega) (by omega)).1, by show (Am.w1 n).size ≤ 300; omega⟩
theorem ba_nil {s : ByteArray} (h : s.data.toList = []) : s = ⟨#[]⟩ := by
 apply ByteArray.ext
 apply Array.toList_inj.1
 rw [h]
theorem rk_back {kind save : Int} {rs : ByteArray} (h : rulR kind save rs = true) (hs : rs.size ≤ 500) : rk (rtx kind save rs) = (kind, save, rs) ∧ rq (rtx kind save rs) = 0 ∧ (rtx kind save rs).size ≤ 600 := by
 unfold rulR at h
 by_cases k0 : kind = 0
 ·
  rw [if_pos k0] at h
  simp only [Bool.and_eq_true, beq_iff_eq] at h
  obtain ⟨rfl, h2⟩ := h
  subst k0
  have := ba_nil h2
  subst this
  refine ⟨rfl, rfl, by decide⟩
 ·
  rw [if_neg k0] at h
  by_cases k1 : kind = 1
  ·
   rw [if_pos k1] at h
   simp only [Bool.and_eq_true, decide_eq_true_eq, beq_iff_eq] at h
   obtain ⟨a1, a2, h2⟩ := h
   have := ba_nil h2
   subst this; subst k1
   obtain ⟨i1, i2⟩ := tx_isA (n := save) (by omega) (by omega)
   obtain ⟨b1, b2⟩ := am_back54 (n := save) (by omega) (by omega)
   have e : rtx 1 save ⟨#[]⟩ = (Am.tx save).1 := rfl
   rw [e]
   have ea : am 10800 (Am.tx save).1 = (save, 0) := by
    unfold am amF
    rw [b1, if_neg (by simp; omega)]
   refine ⟨?_, ?_, by omega⟩
   ·
    unfold rk; rw [if_neg i2, if_pos i1, ea]
   ·
    unfold rq; rw [if_neg i2, if_pos i1, ea]
  ·
   rw [if_neg k1] at h
   by_cases k2 : kind = 2
   ·
    rw [if_pos k2] at h
    simp only [Bool.and_eq_true, beq_iff_eq] at h
    obtain ⟨rfl, h2⟩ := h
    subst k2
    obtain ⟨i1, i2⟩ := nm_isA h2
    have e : rtx 2 0 rs = rs := rfl
    rw [e]
    refine ⟨?_, ?_, by omega⟩
    ·
     unfold rk; rw [if_neg i2, if_neg (by rw [i1]; decide)]
    ·
     unfold rq; rw [if_neg i2, if_neg (by rw [i1]; decide)]; exact h2
   ·
    rw [if_neg k2] at h; exact absurd h (by decide)
theorem yr_back {y : Int} (h1 : -32767 < y) (h2 : y < 32767) : yr (Yr.tI y).data.toList = (y, 0) ∧ (Yr.tI y).size ≤ 30 := by
 have e : (Yr.tI y).data.toList = Lib.itoa y := rfl
 refine ⟨?_, ?_⟩
 ·
  rw [e]
  unfold yr yrF
  rw [Yr.itoa_rd (by omega) (by omega), if_neg (by simp; omega)]
 ·
  have := Yr.tI_size (n := y) (by unfold Yr.inY; simp; omega)
  omega
theorem end_back {u : U} (h : endR u.h u.y u.m u.k u.wk u.d u.sec u.base = true) : enV u.et = u ∧ Ru.fst (enW u.et) = 0 ∧ (∀ x ∈ u.et, x.size ≤ 600) ∧ u.et.length ≤ 4 ∧ (decide (0 < u.et.length) = u.h) := by
 obtain ⟨hh, y, m, k, wk, d, sec, base⟩ := u
 cases hh with
 | false =>
  replace h : decide (y = 0 ∧ m = 0 ∧ k = 0 ∧ wk = 0 ∧ d = 0 ∧ sec = 0 ∧ base = 0) = true := h
  rw [decide_eq_true_eq] at h
  obtain ⟨h1, h2, h3, h4, h5, h6, h7⟩ := h
  subst h1; subst h2; subst h3; subst h4; subst h5; subst h6; subst h7
  exact ⟨rfl, rfl, (by intro x hx; cases hx), by decide, rfl⟩
 | true =>
  obtain ⟨y0, y1, ho, hb⟩ := end_of h rfl
  dsimp only at y0 y1 ho hb
  obtain ⟨ey, sy⟩ := yr_back y0 y1
  obtain ⟨h41, m1, m2, -⟩ := Dr.onF_true.1 ho
  obtain ⟨em, em2, sm⟩ := Ru.mon_back m1 m2
  have ed := Ds.rd_tx h41
  have sd := Ru.ds_sz h41
  obtain ⟨ec, sc⟩ := Ru.cl_back hb
  have edy : Ru.dy (Ds.tx k wk d).1.data.toList (Ru.mo (Wd.t3 Wd.months (m - 1))) = (k, wk, d, 0) := by
   unfold Ru.dy Ru.dyF
   rw [ed, em, ho, if_neg (by simp)]
  have et : (⟨true, y, m, k, wk, d, sec, base⟩ : U).et = [Yr.tI y, Wd.t3 Wd.months (m - 1), (Ds.tx k wk d).1, (Cl.tx sec base).1].take ((⟨true, y, m, k, wk, d, sec, base⟩ : U).last + 1) := rfl
  have hl : (⟨true, y, m, k, wk, d, sec, base⟩ : U).last = if ¬ (sec = 0 ∧ base = 0) then 3 else if ¬ (k = 0 ∧ wk = 0 ∧ d = 1) then 2 else if ¬ m = 1 then 1 else 0 := rfl
  rw [et, hl]
  clear et hl
  generalize Yr.tI y = t0 at *
  generalize Wd.t3 Wd.months (m - 1) = t1 at *
  generalize (Ds.tx k wk d).1 = t2 at *
  generalize (Cl.tx sec base).1 = t3 at *
  have sz : ∀ n, ∀ x ∈ [t0, t1, t2, t3].take n, x.size ≤ 600 := fun n x hx => by
   have := List.mem_of_mem_take hx
   simp only [List.mem_cons, List.mem_nil_iff, or_false] at this
   rcases this with rfl | rfl | rfl | rfl <;> omega
  by_cases g1 : sec = 0 ∧ base = 0
  ·
   rw [if_neg (by simp [g1])]
   by_cases g2 : k = 0 ∧ wk = 0 ∧ d = 1
   ·
    rw [if_neg (by simp [g2])]
    by_cases g3 : m = 1
    ·
     rw [if_neg (by simp [g3])]
     obtain ⟨rfl, rfl⟩ := g1; obtain ⟨rfl, rfl, rfl⟩ := g2; subst g3
     refine ⟨?_, ?_, sz _, by simp, rfl⟩
     ·
      show (⟨true, (yr t0.data.toList).1, 1, 0, 0, 1, 0, 0⟩ : U) = _
      rw [ey]
     ·
      show Ru.fst [(yr t0.data.toList).2, 0, 0, 0] = 0
      rw [ey]; rfl
    ·
     rw [if_pos g3]
     obtain ⟨rfl, rfl⟩ := g1; obtain ⟨rfl, rfl, rfl⟩ := g2
     refine ⟨?_, ?_, sz _, by simp, rfl⟩
     ·
      show (⟨true, (yr t0.data.toList).1, Ru.mo t1, 0, 0, 1, 0, 0⟩ : U) = _
      rw [ey, em]
     ·
      show Ru.fst [(yr t0.data.toList).2, (Wd.mat t1.data.toList Wd.months).2, 0, 0] = 0
      rw [ey, em2]; rfl
   ·
    rw [if_pos g2]
    obtain ⟨rfl, rfl⟩ := g1
    refine ⟨?_, ?_, sz _, by simp, rfl⟩
    ·
     show (⟨true, (yr t0.data.toList).1, Ru.mo t1, (Ru.dy t2.data.toList (Ru.mo t1)).1, (Ru.dy t2.data.toList (Ru.mo t1)).2.1, (Ru.dy t2.data.toList (Ru.mo t1)).2.2.1, 0, 0⟩ : U) = _
     rw [edy, ey, em]
    ·
     show Ru.fst [(yr t0.data.toList).2, (Wd.mat t1.data.toList Wd.months).2, (Ru.dy t2.data.toList (Ru.mo t1)).2.2.2, 0] = 0
     rw [edy, ey, em2]; rfl
  ·
   rw [if_pos g1]
   refine ⟨?_, ?_, sz _, by simp, rfl⟩
   ·
    show (⟨true, (yr t0.data.toList).1, Ru.mo t1, (Ru.dy t2.data.toList (Ru.mo t1)).1, (Ru.dy t2.data.toList (Ru.mo t1)).2.1, (Ru.dy t2.data.toList (Ru.mo t1)).2.2.1, (Cl.rd t3).1, (Cl.rd t3).2.1⟩ : U) = _
    rw [edy, ey, em, ec]
   ·
    show Ru.fst [(yr t0.data.toList).2, (Wd.mat t1.data.toList Wd.months).2, (Ru.dy t2.data.toList (Ru.mo t1)).2.2.2, (Cl.rd t3).2.2] = 0
    rw [edy, ey, em2, ec]; rfl
theorem back {e : E} (h : e.ok = true) (hr : e.rs.size ≤ 500) (hf : e.fm.size ≤ 500) : rd e.ts = (e, 0) ∧ (∀ x ∈ e.ts, x.size ≤ 600) ∧ e.ts.length ≤ 7 ∧ decide (3 < e.ts.length) = e.u.h := by
 obtain ⟨h1, h2, h3, h4, h5⟩ := ok_of h
 obtain ⟨b1, b2⟩ := am_back54 h1 h2
 obtain ⟨r1, r2, r3⟩ := rk_back h3 hr
 obtain ⟨e1, e2, e3, e4, e5⟩ := end_back h5
 obtain ⟨off, kind, save, rs, fm, u⟩ := e
 dsimp only at b1 b2 r1 r2 r3 e1 e2 e3 e4 e5 hr hf h1 h2 h4
 have ea : am 54000 (Am.tx off).1 = (off, 0) := by
  unfold am amF
  rw [b1, if_neg (by simp; omega)]
 have et : (⟨off, kind, save, rs, fm, u⟩ : E).ts = (Am.tx off).1 :: rtx kind save rs :: fm :: u.et := rfl
 rw [et]
 refine ⟨?_, ?_, by simp; omega, ?_⟩
 ·
  rw [rd_some _ _ _ _ e4]
  have hw : Ru.fst (rdW (Am.tx off).1 (rtx kind save rs) fm u.et) = 0 := by
   unfold rdW
   rw [ea, r2, Ru.fst_yes rfl, Ru.fst_yes rfl, Ru.fst_yes h4]
   exact e2
  rw [if_pos hw]
  unfold rl
  rw [ea, r1, e1]
 ·
  intro x hx
  rcases List.mem_cons.1 hx with rfl | hx
  ·
   omega
  ·
   rcases List.mem_cons.1 hx with rfl | hx
   ·
    exact r3
   ·
    rcases List.mem_cons.1 hx with rfl | hx
    ·
     omega
    ·
     exact e3 x hx
 ·
  show decide (3 < u.et.length + 1 + 1 + 1) = u.h
  rw [← e5]
  by_cases g : 0 < u.et.length
  ·
   rw [decide_eq_true g, decide_eq_true (by omega)]
  ·
   rw [decide_eq_false g, decide_eq_false (by omega)]
theorem am_bd {b : Int} {s : ByteArray} (b0 : 0 ≤ b) (h : (am b s).2 = 0) : -b ≤ (am b s).1 ∧ (am b s).1 ≤ b := by
 unfold am amF at h ⊢
 by_cases h1 : (Am.rd s).2 = 0 ∧ ((Am.rd s).1 < -b ∨ b < (Am.rd s).1)
 ·
  rw [if_pos h1] at h; exact absurd h (by decide : ¬ (1 : Int) = 0)
 ·
  rw [if_neg h1] at h ⊢
  have h2 : (Am.rd s).2 = 0 := h
  show -b ≤ (Am.rd s).1 ∧ (Am.rd s).1 ≤ b
  omega
theorem yr_bd {l : List UInt8} (h : (yr l).2 = 0) : -32767 < (yr l).1 ∧ (yr l).1 < 32767 := by
 unfold yr yrF at h ⊢
 by_cases h1 : (Num.rd l).2 = 0 ∧ ((Num.rd l).1 ≤ -32767 ∨ 32767 ≤ (Num.rd l).1)
 ·
  rw [if_pos h1] at h; exact absurd h (by decide : ¬ (1 : Int) = 0)
 ·
  rw [if_neg h1] at h ⊢
  have h2 : (Num.rd l).2 = 0 := h
  show -32767 < (Num.rd l).1 ∧ (Num.rd l).1 < 32767
  omega
theorem rk_bd {f : ByteArray} (h : rq f = 0) (hf : f.size ≤ 300) : rulR (rk f).1 (rk f).2.1 (rk f).2.2 = true ∧ (rk f).2.2.size ≤ 300 := by
 unfold rq at h
 unfold rk
 by_cases h1 : f = ⟨#[45]⟩
 ·
  rw [if_pos h1]; exact ⟨by decide, by show (⟨#[]⟩ : ByteArray).size ≤ 300; decide⟩
 ·
  rw [if_neg h1] at h ⊢
  cases h2 : isA f.data.toList
  ·
   rw [h2, if_neg (by decide)] at h
   rw [if_neg (by decide)]
   refine ⟨?_, hf⟩
   show rulR 2 0 f = true
   unfold rulR
   rw [if_neg (by decide), if_neg (by decide), if_pos rfl, h]
   rfl
  ·
   rw [h2, if_pos rfl] at h
   rw [if_pos rfl]
   obtain ⟨a1, a2⟩ := am_bd (b := 10800) (by decide) h
   refine ⟨?_, by show (⟨#[]⟩ : ByteArray).size ≤ 300; decide⟩
   show rulR 1 (am 10800 f).1 ⟨#[]⟩ = true
   unfold rulR
   rw [if_neg (by decide), if_pos rfl, decide_eq_true (show -10800 ≤ (am 10800 f).1 from a1), decide_eq_true a2]
   rfl
theorem one_ok : ∀ m : Fin 12, Dr.onF 0 0 1 ((m.val : Int) + 1) = true := by decide +kernel
theorem onF_one {m : Int} (h1 : 1 ≤ m) (h2 : m ≤ 12) : Dr.onF 0 0 1 m = true := by
 have h := one_ok ⟨(m - 1).toNat, by omega⟩
 have e : (((⟨(m - 1).toNat, by omega⟩ : Fin 12).val : Int)) + 1 = m := by show (((m - 1).toNat : Nat) : Int) + 1 = m; omega
 rwa [e] at h
theorem last_0 {h : Bool} {y m k wk d sec base : Int} (e1 : sec = 0 ∧ base = 0) (e2 : k = 0 ∧ wk = 0 ∧ d = 1) (e3 : m = 1) : (⟨h, y, m, k, wk, d, sec, base⟩ : U).last = 0 := by unfold U.last; simp [e1, e2, e3]
theorem last_1 {h : Bool} {y m k wk d sec base : Int} (e1 : sec = 0 ∧ base = 0) (e2 : k = 0 ∧ wk = 0 ∧ d = 1) : (⟨h, y, m, k, wk, d, sec, base⟩ : U).last ≤ 1 := by unfold U.last; simp [e1, e2]; split <;> omega
theorem last_2 {h : Bool} {y m k wk d sec base : Int} (e1 : sec = 0 ∧ base = 0) : (⟨h, y, m, k, wk, d, sec, base⟩ : U).last ≤ 2 := by unfold U.last; simp [e1]; split <;> (try split) <;> omega
theorem et_len (u : U) (h : u.h = true) : u.et.length = u.last + 1 := by
 unfold U.et U.ts
 rw [if_pos h, List.length_take]
 have := u.last_le
 simp; omega
theorem mo_bd {f : ByteArray} (h : (Wd.mat f.data.toList Wd.months).2 = 0) : 1 ≤ Ru.mo f ∧ Ru.mo f ≤ 12 := by
 obtain ⟨k, hk, e, -⟩ := Wd.mat_ok h
 have hk' : k < 12 := hk
 unfold Ru.mo Wd.up
 rw [e, if_pos rfl]
 show 1 ≤ (k : Int) + 1 ∧ (k : Int) + 1 ≤ 12
 omega
theorem end_bd (r : List ByteArray) (h4 : r.length ≤ 4) (h : Ru.fst (enW r) = 0) : endR (enV r).h (enV r).y (enV r).m (enV r).k (enV r).wk (enV r).d (enV r).sec (enV r).base = true ∧ (enV r).et.length ≤ r.length ∧ -32767 ≤ (enV r).y ∧ (enV r).y ≤ 32767 := by
 have hall := Ru.all_fst h
 match r, h4, hall with
 | [], _, _ => exact ⟨by decide, by decide, by decide, by decide⟩
 | [a], _, hall =>
  have q0 : (yr a.data.toList).2 = 0 := hall _ (by simp [enW])
  obtain ⟨y0, y1⟩ := yr_bd q0
  refine ⟨?_, ?_, ?_, ?_⟩
  ·
   show endR true (yr a.data.toList).1 1 0 0 1 0 0 = true
   unfold endR
   rw [if_pos rfl, decide_eq_true y0, decide_eq_true y1]
   decide
  ·
   rw [et_len _ rfl]
   have : (enV [a]).last = 0 := last_0 ⟨rfl, rfl⟩ ⟨rfl, rfl, rfl⟩ rfl
   rw [this]; simp
  ·
   show -32767 ≤ (yr a.data.toList).1; omega
  ·
   show (yr a.data.toList).1 ≤ 32767; omega
 | [a, b], _, hall =>
  have q0 : (yr a.data.toList).2 = 0 := hall _ (by simp [enW])
  have q1 : (Wd.mat b.data.toList Wd.months).2 = 0 := hall _ (by simp [enW, enMq])
  obtain ⟨y0, y1⟩ := yr_bd q0
  obtain ⟨m0, m1⟩ := mo_bd q1
  refine ⟨?_, ?_, ?_, ?_⟩
  ·
   show endR true (yr a.data.toList).1 (Ru.mo b) 0 0 1 0 0 = true
   unfold endR
   rw [if_pos rfl, decide_eq_true y0, decide_eq_true y1, onF_one m0 m1]
   decide
  ·
   rw [et_len _ rfl]
   have : (enV [a, b]).last ≤ 1 := last_1 ⟨rfl, rfl⟩ ⟨rfl, rfl, rfl⟩
   show _ ≤ 2
   omega
  ·
   show -32767 ≤ (yr a.data.toList).1; omega
  ·
   show (yr a.data.toList).1 ≤ 32767; omega
 | [a, b, c], _, hall =>
  have q0 : (yr a.data.toList).2 = 0 := hall _ (by simp [enW])
  have q2 : (Ru.dy c.data.toList (Ru.mo b)).2.2.2 = 0 := hall _ (by simp [enW, enD])
  obtain ⟨y0, y1⟩ := yr_bd q0
  refine ⟨?_, ?_, ?_, ?_⟩
  ·
   show endR true (yr a.data.toList).1 (Ru.mo b) (Ru.dy c.data.toList (Ru.mo b)).1 (Ru.dy c.data.toList (Ru.mo b)).2.1 (Ru.dy c.data.toList (Ru.mo b)).2.2.1 0 0 = true
   unfold endR
   rw [if_pos rfl, decide_eq_true y0, decide_eq_true y1, Ru.dy_bd q2]
   decide
  ·
   rw [et_len _ rfl]
   have : (enV [a, b, c]).last ≤ 2 := last_2 ⟨rfl, rfl⟩
   show _ ≤ 3
   omega
  ·
   show -32767 ≤ (yr a.data.toList).1; omega
  ·
   show (yr a.data.toList).1 ≤ 32767; omega
 | [a, b, c, d], _, hall =>
  have q0 : (yr a.data.toList).2 = 0 := hall _ (by simp [enW])
  have q2 : (Ru.dy c.data.toList (Ru.mo b)).2.2.2 = 0 := hall _ (by simp [enW, enD])
  have q3 : (Cl.rd d).2.2 = 0 := hall _ (by simp [enW, enC])
  obtain ⟨y0, y1⟩ := yr_bd q0
  refine ⟨?_, ?_, ?_, ?_⟩
  ·
   show endR true (yr a.data.toList).1 (Ru.mo b) (Ru.dy c.data.toList (Ru.mo b)).1 (Ru.dy c.data.toList (Ru.mo b)).2.1 (Ru.dy c.data.toList (Ru.mo b)).2.2.1 (Cl.rd d).1 (Cl.rd d).2.1 = true
   unfold endR
   rw [if_pos rfl, decide_eq_true y0, decide_eq_true y1, Ru.dy_bd q2, Ru.cl_bd q3]
   rfl
  ·
   rw [et_len _ rfl]
   have := (enV [a, b, c, d]).last_le
   show _ ≤ 4
   omega
  ·
   show -32767 ≤ (yr a.data.toList).1; omega
  ·
   show (yr a.data.toList).1 ≤ 32767; omega
theorem right {l : List ByteArray} (h : (rd l).2 = 0) (hz : ∀ x ∈ l, x.size ≤ 300) : (rd l).1.ok = true ∧ (rd l).1.rs.size ≤ 300 ∧ (rd l).1.fm.size ≤ 300 ∧ -32767 ≤ (rd l).1.u.y ∧ (rd l).1.u.y ≤ 32767 ∧ (rd l).1.ts.length ≤ l.length := by
 by_cases h9 : l.length < 3 ∨ 7 < l.length
 ·
  rw [rd_other _ h9] at h
  by_cases h3 : l.length < 3
  ·
   rw [if_pos h3] at h; exact absurd h (by decide : ¬ (5 : Int) = 0)
  ·
   rw [if_neg h3] at h; exact absurd h (by decide : ¬ (6 : Int) = 0)
 ·
  match l, h9, h, hz with
  | [], h9, _, _ => simp at h9
  | [_], h9, _, _ => simp at h9
  | [_, _], h9, _, _ => simp at h9
  | f0 :: f1 :: f2 :: r, h9, h, hz =>
   have h4 : r.length ≤ 4 := by simp at h9; omega
   rw [rd_some f0 f1 f2 r h4] at h ⊢
   by_cases hf : Ru.fst (rdW f0 f1 f2 r) = 0
   ·
    rw [if_pos hf]
    unfold rdW at hf
    have hall := Ru.all_fst hf
    have q0 : (am 54000 f0).2 = 0 := hall _ (by simp)
    have q1 : rq f1 = 0 := hall _ (by simp)
    have q2 : (Fo.kd f2.data.toList).2 = 0 := hall _ (by simp)
    have q3 : Ru.fst (enW r) = 0 := Ru.fst_all fun x hx => hall x (by simp [hx])
    obtain ⟨a1, a2⟩ := am_bd (b := 54000) (by decide) q0
    obtain ⟨k1, k2⟩ := rk_bd q1 (hz f1 (by simp))
    obtain ⟨d1, d2, d3, d4⟩ := end_bd r h4 q3
    refine ⟨?_, k2, hz f2 (by simp), d3, d4, ?_⟩
    ·
     show Er.ok (am 54000 f0).1 (rk f1).1 (rk f1).2.1 (rk f1).2.2 f2 (enV r).h (enV r).y (enV r).m (enV r).k (enV r).wk (enV r).d (enV r).sec (enV r).base = true
     unfold Er.ok
     rw [decide_eq_true (show -54000 ≤ (am 54000 f0).1 from a1), decide_eq_true a2, k1, q2, d1]
     rfl
    ·
     show ([_, _, _] ++ (enV r).et).length ≤ r.length + 1 + 1 + 1
     rw [List.length_append]
     simp; omega
   ·
    rw [if_neg hf] at h; exact absurd h hf
end Er
end Go.Proofs.YtjggjkeopbcmoaaGreatDoor

/- Joined: FdO, TpP, TpA. -/
import Derived.Test.YtjggjkeopbcmoaaGreatDoorBt24
import Derived.Test.YtjggjkeopbcmoaaGreatDoorBt28
import Derived.Test.YtjggjkeopbcmoaaGreatDoorBt26
import Derived.Test.YtjggjkeopbcmoaaGreatDoorBt15
import Derived.Test.YtjggjkeopbcmoaaGreatDoorBt17
import Derived.Test.YtjggjkeopbcmoaaGreatDoorBt23
import Derived.Test.YtjggjkeopbcmoaaGreatDoorBt25
set_option linter.unusedVariables false
set_option linter.unusedSimpArgs false
namespace Go.Proofs.YtjggjkeopbcmoaaGreatDoor
namespace Fd
def Shut (R : List UInt8) : Prop := R = [] ∨ ∃ c r, R = c :: r ∧ mkB c = true ∧ c ≠ 34
theorem shut_32 (r : List UInt8) : Shut (32 :: r) := .inr ⟨32, r, rfl, by decide, by decide⟩
theorem fl_end (f R : List UInt8) (h : Shut R) : fl f false R = some (f, R) := by
 rcases h with rfl | ⟨c, r, rfl, hm, h4⟩
 ·
  rfl
 ·
  exact fl_shut f c r hm h4
theorem not_34 {x : List UInt8} (h : ¬ x.contains 34 = true) : ∀ c ∈ x, c ≠ 34 := by
 rintro c hc rfl
 exact h (by simpa using hc)
theorem no_mk {x : List UInt8} (h : ¬ (x.any mkB = true)) : ∀ c ∈ x, mkB c = false := by
 intro c hc
 cases hm : mkB c
 ·
  rfl
 ·
  exact absurd (List.any_eq_true.2 ⟨c, hc, hm⟩) h
theorem go_field (out : List (List UInt8)) (x R : List UInt8) (h : (tx x).2 = 0) (hR : Shut R) : go out [] false false ((tx x).1 ++ R) = go (out ++ [x]) [] false false R := by
 unfold tx at h ⊢
 by_cases hc : x.contains 34 = true
 ·
  rw [if_pos hc] at h; cases h
 ·
  rw [if_neg hc] at h ⊢
  by_cases hq : x = [] ∨ x.any mkB = true
  ·
   rw [if_pos hq]
   show go out [] false false (34 :: ((x ++ [34]) ++ R)) = _
   rw [go_s, if_neg (by decide), if_neg (by decide), if_pos rfl, go_fl, List.append_assoc]
   rw [show ([34] ++ R : List UInt8) = 34 :: R from rfl, fl_quoted R x [] (not_34 hc), List.nil_append, fl_end _ _ hR]
   rfl
  ·
   rw [if_neg hq]
   obtain ⟨h1, h2⟩ := not_or.1 hq
   have hm := no_mk h2
   cases x with
   | nil => exact absurd rfl h1
   | cons c t =>
    obtain ⟨h4, h5, hw⟩ := mk_no (hm c (List.mem_cons_self ..))
    show go out [] false false (c :: (t ++ R)) = _
    rw [go_s, if_neg h5, if_neg (by rw [hw]; decide), if_neg h4, go_fl]
    rw [fl_plain R t ([] ++ [c]) (fun y hy => hm y (List.mem_cons_of_mem _ hy)), fl_end _ _ hR]
    rfl
theorem go_blank (out : List (List UInt8)) (c : UInt8) (r : List UInt8) (h : isW c.toNat = true) : go out [] false false (c :: r) = go out [] false false r := by
 have h5 : c ≠ 35 := by rintro rfl; cases h
 rw [go_s, if_neg h5, if_pos h]; rfl
theorem jr_ok : ∀ (l : List (List UInt8)) (acc : List UInt8) (k : Nat) (J : List UInt8), jr acc k l = (J, 0) → ∃ T, J = acc ++ T ∧ (k ≠ 0 → T = [] ∨ ∃ r, T = 32 :: r) ∧ ∀ out, go out [] false false T = some (out ++ l)
 | [], acc, k, J, h => by
  injection h with h1 _
  exact ⟨[], by rw [List.append_nil]; exact h1.symm, fun _ => .inl rfl, fun out => by rw [List.append_nil]; rfl⟩
 | x :: r, acc, k, J, h => by
  unfold jr at h
  by_cases h0 : (tx x).2 = 0
  ·
   rw [if_pos h0] at h
   obtain ⟨T, hJ, hT, hg⟩ := jr_ok r _ (k + 1) J h
   have hs : Shut T := by
    rcases hT (by omega) with rfl | ⟨u, rfl⟩
    ·
     exact .inl rfl
    ·
     exact shut_32 u
   have key : ∀ out, go out [] false false ((tx x).1 ++ T) = some (out ++ x :: r) := fun out => by
    rw [go_field out x T h0 hs, hg, List.append_assoc]; rfl
   by_cases hk : k = 0
   ·
    rw [if_pos hk] at hJ
    exact ⟨(tx x).1 ++ T, by rw [hJ]; simp, fun h => absurd hk h, key⟩
   ·
    rw [if_neg hk] at hJ
    refine ⟨32 :: ((tx x).1 ++ T), by rw [hJ]; simp, fun _ => .inr ⟨_, rfl⟩, fun out => ?_⟩
    rw [go_blank _ _ _ (by decide)]
    exact key out
  ·
   rw [if_neg h0] at h
   injection h with _ h2
   exact absurd h2 h0
theorem of_jn (l : List (List UInt8)) (J : List UInt8) (h : jn l = (J, 0)) : of J = (l, 0) := by
 unfold jn at h
 by_cases h16 : 16 < l.length
 ·
  rw [if_pos h16] at h; cases h
 ·
  rw [if_neg h16] at h
  obtain ⟨T, hJ, -, hg⟩ := jr_ok l [] 0 J h
  unfold of
  rw [show J = T by rw [hJ]; rfl, hg []]
  exact if_neg h16
theorem tx_ok {x : List UInt8} (h : (34 : UInt8) ∉ x) : (tx x).2 = 0 := by
 unfold tx
 rw [if_neg (by simpa using h)]
 split <;> rfl
theorem jr_some : ∀ (l : List (List UInt8)) (acc : List UInt8) (k : Nat), (∀ x ∈ l, (tx x).2 = 0) → (jr acc k l).2 = 0
 | [], acc, k, _ => rfl
 | x :: r, acc, k, h => by
  unfold jr
  rw [if_pos (h x (List.mem_cons_self ..))]
  exact jr_some r _ _ (fun y hy => h y (List.mem_cons_of_mem _ hy))
def sm (l : List (List UInt8)) : Nat := (l.map (·.length)).foldr (· + ·) 0
theorem sm_cons (x : List UInt8) (l : List (List UInt8)) : sm (x :: l) = x.length + sm l := rfl
theorem jr_len : ∀ (l : List (List UInt8)) (acc : List UInt8) (k : Nat), (jr acc k l).1.length ≤ acc.length + sm l + 3 * l.length
 | [], acc, k => by show acc.length ≤ _; omega
 | x :: r, acc, k => by
  unfold jr
  have hx := tx_len x
  by_cases h0 : (tx x).2 = 0
  ·
   rw [if_pos h0]
   refine Nat.le_trans (jr_len r _ _) ?_
   rw [sm_cons, List.length_append, List.length_append, List.length_cons]
   have : (if k = 0 then ([] : List UInt8) else [32]).length ≤ 1 := by split <;> simp
   omega
  ·
   rw [if_neg h0]; simp
theorem jn_len (l : List (List UInt8)) : (jn l).1.length ≤ sm l + 48 := by
 unfold jn
 by_cases h16 : 16 < l.length
 ·
  rw [if_pos h16]; simp
 ·
  rw [if_neg h16]
  have := jr_len l [] 0
  simp at this; omega
end Fd
end Go.Proofs.YtjggjkeopbcmoaaGreatDoor
set_option linter.unusedVariables false
set_option linter.unusedSimpArgs false
namespace Go.Proofs.YtjggjkeopbcmoaaGreatDoor
open Go.RowKit Go.Sort
namespace Tp
def okC (c : UInt8) : Bool := Ln.okB c && decide (c.toNat ≠ 34)
def okL (l : List UInt8) : Prop := l.all okC = true
theorem okL.app {a b : List UInt8} (h : okL a) (k : okL b) : okL (a ++ b) := by unfold okL at *; rw [List.all_append, h, k]; rfl
theorem okL.cons {c : UInt8} {l : List UInt8} (h : okC c = true) (k : okL l) : okL (c :: l) := by unfold okL at *; rw [List.all_cons, h, k]; rfl
theorem okL.imp {l : List UInt8} {p : UInt8 → Bool} (h : l.all p = true) (k : ∀ n : Fin 256, p (UInt8.ofNat n.val) = true → okC (UInt8.ofNat n.val) = true) : okL l := by
 unfold okL
 rw [List.all_eq_true] at h ⊢
 intro c hc
 have := k ⟨c.toNat, c.toNat_lt⟩
 simp only [UInt8.ofNat_toNat] at this
 exact this (h c hc)
theorem dig_ok {l : List UInt8} (h : l.all Num.dig = true) : okL l := okL.imp h (by decide +kernel)
theorem itoa_ok (n : Int) : okL (Lib.itoa n) := by
 unfold Lib.itoa
 split
 ·
  exact okL.cons (by decide +kernel) (dig_ok (Num.dec_all _ _ (Nat.le_refl _)).1)
 ·
  exact dig_ok (Num.dec_all _ _ (Nat.le_refl _)).1
def F (x : ByteArray) (n : Nat) : Prop := okL x.data.toList ∧ x.size ≤ n
theorem app_l (a b : ByteArray) : (a ++ b).data.toList = a.data.toList ++ b.data.toList := Am.app_l a b
theorem F.app {a b : ByteArray} {n k : Nat} (h : F a n) (g : F b k) : F (a ++ b) (n + k) := ⟨by rw [app_l]; exact h.1.app g.1, by rw [ByteArray.size_append]; have := h.2; have := g.2; omega⟩
theorem F.le {a : ByteArray} {n k : Nat} (h : F a n) (g : n ≤ k) : F a k := ⟨h.1, Nat.le_trans h.2 g⟩
theorem hour_F {n : Int} (h0 : 0 ≤ n) (h1 : n < 1000) : F (Am.tI n) 3 := by
 obtain ⟨a, -, -⟩ := Am.hours h0 h1
 unfold Am.isP at a
 rw [Bool.and_eq_true] at a
 refine ⟨itoa_ok n, ?_⟩
 have := a.2
 simp only [if_true, decide_eq_true_eq] at this
 show (Lib.itoa n).toArray.size ≤ 3
 rw [List.size_toArray]
 exact this.2
theorem dd_tab : ∀ n : Fin 60, (Am.dd (n.val : Int)).size ≤ 2 := by decide +kernel
theorem dd_F {n : Int} (h0 : 0 ≤ n) (h1 : n < 60) : F (Am.dd n) 2 := by
 refine ⟨?_, ?_⟩
 ·
  unfold Am.dd
  rw [app_l]
  exact (itoa_ok _).app (itoa_ok _)
 ·
  have := dd_tab ⟨n.toNat, by omega⟩
  have e : ((⟨n.toNat, by omega⟩ : Fin 60).val : Int) = n := by show ((n.toNat : Nat) : Int) = n; omega
  rwa [e] at this
theorem w1_F {n : Int} (h0 : 0 ≤ n) (h1 : n ≤ 604799) : F (Am.w1 n) 9 := by
 have a := hour_F (n := n / 3600) (by omega) (by omega)
 have b := dd_F (n := n / 60 % 60) (by omega) (by omega)
 have c := dd_F (n := n % 60) (by omega) (by omega)
 have d : F ⟨#[58]⟩ 1 := ⟨by unfold okL; decide +kernel, by decide⟩
 unfold Am.w1 Am.wr
 split
 ·
  exact ((a.app d).app b).le (by omega)
 ·
  exact ((a.app d).app b).app (d.app c)
theorem am_F {n : Int} (h0 : -604799 ≤ n) (h1 : n ≤ 604799) : F (Am.tx n).1 10 := by
 unfold Am.tx
 rw [if_neg (by omega)]
 split
 ·
  exact ⟨itoa_ok 0, by decide +kernel⟩
 ·
  split
  ·
   have a : F ⟨#[45]⟩ 1 := ⟨by unfold okL; decide +kernel, by decide⟩
   exact a.app (w1_F (n := -n) (by omega) (by omega))
  ·
   exact (w1_F (n := n) (by omega) (by omega)).le (by omega)
theorem cl_F {n b : Int} (h : Cl.rB n b = true) : F (Cl.tx n b).1 11 := by
 obtain ⟨n0, n1, b0, b1⟩ := rB_iff.1 h
 have a := am_F (n := n) (by omega) (by omega)
 unfold Cl.tx
 rw [if_neg (by rw [h]; decide)]
 by_cases hb : b = 0
 ·
  rw [if_pos hb]; exact a.le (by omega)
 ·
  rw [if_neg hb]
  rcases (by omega : b = 1 ∨ b = 2) with rfl | rfl
  ·
   exact a.app (k := 1) ⟨by unfold okL; decide +kernel, by decide +kernel⟩
  ·
   exact a.app (k := 1) ⟨by unfold okL; decide +kernel, by decide +kernel⟩
theorem ds_tab : ∀ k : Fin 4, ∀ w : Fin 7, ∀ d : Fin 32, ((Ds.tx k.val w.val d.val).1.data.toList.all okC && decide ((Ds.tx k.val w.val d.val).1.size ≤ 30)) = true := by decide +kernel
theorem ds_F {k w d : Int} (h : Dr.onR k w d = true) : F (Ds.tx k w d).1 30 := by
 have hb := Dr.onR_true.1 h
 obtain ⟨k', rfl⟩ : ∃ n : Nat, k = n := ⟨k.toNat, by omega⟩
 obtain ⟨w', rfl⟩ : ∃ n : Nat, w = n := ⟨w.toNat, by omega⟩
 obtain ⟨d', rfl⟩ : ∃ n : Nat, d = n := ⟨d.toNat, by omega⟩
 have := ds_tab ⟨k', by omega⟩ ⟨w', by omega⟩ ⟨d', by omega⟩
 rw [Bool.and_eq_true, decide_eq_true_eq] at this
 exact this
theorem mon_tab : ∀ m : Fin 12, ((Wd.t3 Wd.months (m.val : Int)).data.toList.all okC && decide ((Wd.t3 Wd.months (m.val : Int)).size ≤ 3)) = true := by decide +kernel
theorem mon_F {m : Int} (h1 : 1 ≤ m) (h2 : m ≤ 12) : F (Wd.t3 Wd.months (m - 1)) 3 := by
 have := mon_tab ⟨(m - 1).toNat, by omega⟩
 have e : ((⟨(m - 1).toNat, by omega⟩ : Fin 12).val : Int) = m - 1 := by show (((m - 1).toNat : Nat) : Int) = m - 1; omega
 rw [e, Bool.and_eq_true, decide_eq_true_eq] at this
 exact this
theorem yr_F {y : Int} (h : Yr.inY y = true) : F (Yr.tI y) 21 := ⟨itoa_ok y, Yr.tI_size h⟩
theorem ft_F {y : Int} (h : Yr.inY y = true) : F (Yr.ft y).1 21 := by
 unfold Yr.ft
 rw [if_pos h]
 split
 ·
  exact ⟨by unfold okL; decide +kernel, by decide +kernel⟩
 ·
  exact yr_F h
theorem tt_F (f : Int) {y : Int} (h : Yr.inY y = true) : F (Yr.tt f y).1 21 := by
 unfold Yr.tt
 rw [if_pos h]
 split
 ·
  exact ⟨by unfold okL; decide +kernel, by decide +kernel⟩
 ·
  split
  ·
   exact ⟨by unfold okL; decide +kernel, by decide +kernel⟩
  ·
   split
   ·
    exact ⟨by unfold okL; decide +kernel, by decide +kernel⟩
   ·
    exact yr_F h
theorem nm_F {s : ByteArray} (h : Lk.nm s.data.toList = 0) : F s 64 := by
 unfold Lk.nm at h
 by_cases h1 : 64 < s.data.toList.length
 ·
  rw [if_pos h1] at h; exact absurd h (by decide)
 ·
  rw [if_neg h1] at h
  cases h2 : Lk.isN s.data.toList
  ·
   rw [h2] at h; exact absurd h (by decide)
  ·
   unfold Lk.isN at h2
   rw [Bool.and_eq_true] at h2
   exact ⟨okL.imp h2.1 (by decide +kernel), by rw [← ab_len]; omega⟩
theorem made_ok {sg l : List UInt8} (h : Fo.made sg l = true) (k : ∀ n : Fin 256, (Fo.isB (UInt8.ofNat n.val) || sg.contains (UInt8.ofNat n.val)) = true → okC (UInt8.ofNat n.val) = true) : okL l := by
 unfold Fo.made Fo.mdA at h
 rw [Bool.and_eq_true] at h
 exact okL.imp (p := fun c => Fo.isB c || sg.contains c) h.1 k
theorem tx_all {x : List UInt8} (h : okL x) : ((Fd.tx x).1.all Ln.okB = true) ∧ (Fd.tx x).2 = 0 := by
 have h34 : (34 : UInt8) ∉ x := fun hm => by
  unfold okL at h
  rw [List.all_eq_true] at h
  exact absurd (h 34 hm) (by decide +kernel)
 have hall : x.all Ln.okB = true := by
  unfold okL at h
  rw [List.all_eq_true] at h ⊢
  intro c hc
  have := h c hc
  unfold okC at this
  rw [Bool.and_eq_true] at this
  exact this.1
 refine ⟨?_, Fd.tx_ok h34⟩
 unfold Fd.tx
 split
 ·
  rfl
 ·
  split
  ·
   show (34 :: (x ++ [34]) : List UInt8).all Ln.okB = true
   rw [List.all_cons, List.all_append, hall]
   decide +kernel
  ·
   exact hall
theorem jr_ok : ∀ (l : List (List UInt8)) (acc : List UInt8) (k : Nat), acc.all Ln.okB = true → (∀ x ∈ l, okL x) → (Fd.jr acc k l).1.all Ln.okB = true
 | [], acc, k, h, _ => h
 | x :: r, acc, k, h, g => by
  obtain ⟨t1, t2⟩ := tx_all (g x (List.mem_cons_self ..))
  rw [Fd.jr_next acc k x r t2]
  refine jr_ok r _ _ ?_ (fun y hy => g y (List.mem_cons_of_mem _ hy))
  rw [List.all_append, List.all_append, h, t1]
  split <;> decide +kernel
theorem join (T : List ByteArray) (hT : ∀ x ∈ T, okL x.data.toList) (hn : T.length ≤ 16) (hs : Fd.sm (Fd.bl T) ≤ 400) :
  ∃ J, Fd.jn (Fd.bl T) = (J, 0) ∧ Fd.of J = (Fd.bl T, 0) ∧ J.length ≤ 448 ∧ Ln.chk J = 0 ∧ Ln.chk ([82, 117, 108, 101, 32] ++ J) = 0 := by
 have hT' : ∀ x ∈ Fd.bl T, okL x := fun x hx => by
  unfold Fd.bl at hx
  obtain ⟨y, hy, rfl⟩ := List.mem_map.1 hx
  exact hT y hy
 have hl : ¬ 16 < (Fd.bl T).length := by unfold Fd.bl; rw [List.length_map]; omega
 have e : Fd.jn (Fd.bl T) = Fd.jr [] 0 (Fd.bl T) := by unfold Fd.jn; rw [if_neg hl]
 have h2 : (Fd.jr [] 0 (Fd.bl T)).2 = 0 := Fd.jr_some _ _ _ (fun x hx => (tx_all (hT' x hx)).2)
 have h3 := jr_ok (Fd.bl T) [] 0 rfl hT'
 have h4 := Fd.jn_len (Fd.bl T)
 rw [e] at h4
 have e2 : Fd.jn (Fd.bl T) = ((Fd.jr [] 0 (Fd.bl T)).1, 0) := by rw [e]; exact Prod.ext rfl h2
 generalize (Fd.jr [] 0 (Fd.bl T)).1 = J at *
 refine ⟨J, e2, Fd.of_jn _ _ e2, by omega, ?_, ?_⟩
 ·
  unfold Ln.chk
  rw [if_neg (by omega), if_pos h3]
 ·
  unfold Ln.chk
  rw [if_neg (by rw [List.length_append]; simp; omega), if_pos (by rw [List.all_append, h3]; decide +kernel)]
theorem lt_F {l : List UInt8} (h : (Fo.ltx l).2 = 0) : F ⟨(Fo.ltx l).1.toArray⟩ 7 := by
 unfold Fo.ltx at h ⊢
 by_cases h0 : l = []
 ·
  rw [if_pos h0]
  exact ⟨by unfold okL; decide +kernel, by decide⟩
 ·
  rw [if_neg h0] at h ⊢
  by_cases h1 : (Fo.lt l).2 ≠ 0 ∨ (Fo.lt l).1 ≠ l
  ·
   rw [if_pos h1] at h; exact absurd h (by decide : ¬ (4 : Int) = 0)
  ·
   rw [if_neg h1]
   obtain ⟨a, b⟩ := not_or.1 h1
   have a := Classical.not_not.1 a
   have b := Classical.not_not.1 b
   unfold Fo.lt at a b
   by_cases h45 : l = [45]
   ·
    rw [if_pos h45] at b; exact absurd b.symm h0
   ·
    rw [if_neg h45] at a b
    by_cases h6 : 6 < l.length
    ·
     rw [if_pos h6] at a; exact absurd a (by decide : ¬ (9 : Int) = 0)
    ·
     rw [if_neg h6] at a b
     cases hm : Fo.made [43, 45] l
     ·
      rw [hm, if_pos rfl] at a; exact absurd a (by decide : ¬ (4 : Int) = 0)
     ·
      exact ⟨made_ok hm (by decide +kernel), by show l.toArray.size ≤ 7; rw [List.size_toArray]; omega⟩
theorem kd_F {s : ByteArray} (h : (Fo.kd s.data.toList).2 = 0) : F s 16 := by
 unfold Fo.kd at h
 by_cases h1 : 16 < s.data.toList.length
 ·
  rw [if_pos h1] at h; exact absurd h (by decide : ¬ (9 : Int) = 0)
 ·
  rw [if_neg h1] at h
  cases hm : Fo.made [43, 45, 37, 47] s.data.toList
  ·
   rw [hm, if_pos rfl] at h; exact absurd h (by decide : ¬ (4 : Int) = 0)
  ·
   exact ⟨made_ok hm (by decide +kernel), by rw [← ab_len]; omega⟩
theorem sm_b (x : ByteArray) (T : List ByteArray) : Fd.sm (Fd.bl (x :: T)) = x.size + Fd.sm (Fd.bl T) := by
 unfold Fd.bl
 rw [List.map_cons, Fd.sm_cons, ab_len]
theorem sm_n : Fd.sm (Fd.bl []) = 0 := rfl
theorem rule_F {r : Ru.R} (h : r.ok = true) : (∀ x ∈ r.ts, okL x.data.toList) ∧ r.ts.length ≤ 16 ∧ Fd.sm (Fd.bl r.ts) ≤ 400 := by
 obtain ⟨h0, h1, h2, h3, h4, h5, h6, h7, h8⟩ := Ru.ok_of h
 obtain ⟨h41, m1, m2, -⟩ := Dr.onF_true.1 h4
 have a0 := nm_F h0
 have a1 := ft_F (y := r.fy) (by unfold Yr.inY; simp; omega)
 have a2 := tt_F r.fy (y := r.ty) (by unfold Yr.inY; simp; omega)
 have a3 : F ⟨#[45]⟩ 1 := ⟨by unfold okL; decide +kernel, by decide⟩
 have a4 := mon_F m1 m2
 have a5 := ds_F h41
 have a6 := cl_F h5
 have a7 := am_F (n := r.save) (by omega) (by omega)
 have a8 := lt_F h8
 have e : r.ts = [r.s, (Yr.ft r.fy).1, (Yr.tt r.fy r.ty).1, ⟨#[45]⟩, Wd.t3 Wd.months (r.m - 1), (Ds.tx r.k r.wk r.d).1, (Cl.tx r.sec r.base).1, (Am.tx r.save).1, ⟨(Fo.ltx r.t.data.toList).1.toArray⟩] := rfl
 rw [e]
 generalize r.s = x0 at *
 generalize (Yr.ft r.fy).1 = x1 at *
 generalize (Yr.tt r.fy r.ty).1 = x2 at *
 generalize (⟨#[45]⟩ : ByteArray) = x3 at *
 generalize Wd.t3 Wd.months (r.m - 1) = x4 at *
 generalize (Ds.tx r.k r.wk r.d).1 = x5 at *
 generalize (Cl.tx r.sec r.base).1 = x6 at *
 generalize (Am.tx r.save).1 = x7 at *
 generalize (⟨(Fo.ltx r.t.data.toList).1.toArray⟩ : ByteArray) = x8 at *
 refine ⟨?_, by simp, ?_⟩
 ·
  intro x hx
  simp only [List.mem_cons, List.mem_nil_iff, or_false] at hx
  rcases hx with rfl | rfl | rfl | rfl | rfl | rfl | rfl | rfl | rfl
  ·
   exact a0.1
  ·
   exact a1.1
  ·
   exact a2.1
  ·
   exact a3.1
  ·
   exact a4.1
  ·
   exact a5.1
  ·
   exact a6.1
  ·
   exact a7.1
  ·
   exact a8.1
 ·
  simp only [sm_b, sm_n]
  have := a0.2; have := a1.2; have := a2.2; have := a3.2; have := a4.2; have := a5.2; have := a6.2; have := a7.2; have := a8.2
  omega
theorem rk_F {kind save : Int} {rs : ByteArray} (h : Er.rulR kind save rs = true) : F (Er.rtx kind save rs) 64 := by
 obtain ⟨s0, s1⟩ := Er.save_of h
 unfold Er.rtx
 by_cases k1 : kind = 1
 ·
  rw [if_pos k1]; exact (am_F (by omega) (by omega)).le (by omega)
 ·
  rw [if_neg k1]
  by_cases k2 : kind = 2
  ·
   rw [if_pos k2]
   unfold Er.rulR at h
   rw [if_neg (by omega), if_neg k1, if_pos k2, Bool.and_eq_true, beq_iff_eq, beq_iff_eq] at h
   exact nm_F h.2
  ·
   rw [if_neg k2]
   exact ⟨by unfold okL; decide +kernel, by decide⟩
theorem era_F {e : Er.E} (h : e.ok = true) : (∀ x ∈ e.ts, okL x.data.toList) ∧ e.ts.length ≤ 16 ∧ Fd.sm (Fd.bl e.ts) ≤ 400 ∧ e.rs.size ≤ 64 ∧ e.fm.size ≤ 16 := by
 obtain ⟨h1, h2, h3, h4, h5⟩ := Er.ok_of h
 have a0 := am_F (n := e.off) (by omega) (by omega)
 have a1 := rk_F h3
 have a2 := kd_F h4
 have hrs : e.rs.size ≤ 64 := by
  unfold Er.rulR at h3
  by_cases k0 : e.kind = 0
  ·
   rw [if_pos k0, Bool.and_eq_true, beq_iff_eq, beq_iff_eq] at h3
   rw [← ab_len, h3.2]; simp
  ·
   rw [if_neg k0] at h3
   by_cases k1 : e.kind = 1
   ·
    rw [if_pos k1] at h3
    simp only [Bool.and_eq_true, beq_iff_eq] at h3
    rw [← ab_len, h3.2.2]; simp
   ·
    rw [if_neg k1] at h3
    by_cases k2 : e.kind = 2
    ·
     rw [if_pos k2, Bool.and_eq_true, beq_iff_eq, beq_iff_eq] at h3
     exact (nm_F h3.2).2
    ·
     rw [if_neg k2] at h3; exact absurd h3 (by decide)
 have hu : (∀ x ∈ e.u.et, okL x.data.toList) ∧ e.u.et.length ≤ 4 ∧ Fd.sm (Fd.bl e.u.et) ≤ 100 := by
  unfold Er.U.et
  cases hh : e.u.h
  ·
   rw [if_neg (by decide)]
   exact ⟨(fun x hx => by cases hx), by simp, by rw [sm_n]; omega⟩
  ·
   rw [if_pos rfl]
   obtain ⟨y0, y1, ho, hb⟩ := Er.end_of h5 hh
   obtain ⟨h41, m1, m2, -⟩ := Dr.onF_true.1 ho
   have b0 := yr_F (y := e.u.y) (by unfold Yr.inY; simp; omega)
   have b1 := mon_F m1 m2
   have b2 := ds_F h41
   have b3 := cl_F hb
   have hl := e.u.last_le
   unfold Er.U.ts
   generalize Yr.tI e.u.y = t0 at *
   generalize Wd.t3 Wd.months (e.u.m - 1) = t1 at *
   generalize (Ds.tx e.u.k e.u.wk e.u.d).1 = t2 at *
   generalize (Cl.tx e.u.sec e.u.base).1 = t3 at *
   generalize e.u.last = n at *
   have c0 := b0.2; have c1 := b1.2; have c2 := b2.2; have c3 := b3.2
   refine ⟨fun x hx => ?_, by rw [List.length_take]; simp; omega, ?_⟩
   ·
    have := List.mem_of_mem_take hx
    simp only [List.mem_cons, List.mem_nil_iff, or_false] at this
    rcases this with rfl | rfl | rfl | rfl
    ·
     exact b0.1
    ·
     exact b1.1
    ·
     exact b2.1
    ·
     exact b3.1
   ·
    rcases (by omega : n = 0 ∨ n = 1 ∨ n = 2 ∨ n = 3) with rfl | rfl | rfl | rfl
    all_goals
     simp only [Nat.zero_add, Nat.reduceAdd, List.take_succ_cons, List.take_zero, sm_b, sm_n]
     omega
 have et : e.ts = (Am.tx e.off).1 :: Er.rtx e.kind e.save e.rs :: e.fm :: e.u.et := rfl
 refine ⟨?_, ?_, ?_, hrs, a2.2⟩
 ·
  rw [et]
  intro x hx
  rcases List.mem_cons.1 hx with rfl | hx
  ·
   exact a0.1
  ·
   rcases List.mem_cons.1 hx with rfl | hx
   ·
    exact a1.1
   ·
    rcases List.mem_cons.1 hx with rfl | hx
    ·
     exact a2.1
    ·
     exact hu.1 x hx
 ·
  rw [et]; have := hu.2.1; simp; omega
 ·
  rw [et]
  simp only [sm_b]
  have := a0.2; have := a1.2; have := a2.2; have := hu.2.2
  omega
end Tp
theorem tot_bl : ∀ l : List ByteArray, Fd.tot l = Fd.sm (Fd.bl l)
 | [] => rfl
 | x :: l => by rw [Fd.tot_cons, Tp.sm_b, tot_bl l]
theorem mem_sm : ∀ (l : List ByteArray) (x : ByteArray), x ∈ l → x.size ≤ Fd.sm (Fd.bl l)
 | y :: l, x, h => by
  rw [Tp.sm_b]
  rcases List.mem_cons.1 h with rfl | h
  ·
   omega
  ·
   have := mem_sm l x h; omega
theorem tp_join (T : List ByteArray) (hT : ∀ x ∈ T, Tp.okL x.data.toList) (hn : T.length ≤ 16) (hs : Fd.sm (Fd.bl T) ≤ 400) : ∃ J : ByteArray, J.size ≤ 448 ∧
  (∀ v W, StS W v T → Calls Tryz.prog 6 #[v] W fun e w' => e = .returned (.tuple #[.string J, .int .i64 0]) ∧ Below W.heap.size W w') ∧
  (∀ W, Calls Tryz.prog 7 #[.string J] W fun e w' => Below W.heap.size W w' ∧ ∃ A c, e = .returned (.tuple #[.slice A T.length c, .int .i64 0]) ∧ (T.length ≤ c ∧ StS w' (.slice A T.length c) T)) ∧
  (∀ W, Calls Tryz.prog 9 #[.string J] W fun e w' => e = .returned (.int .i64 0) ∧ Below W.heap.size W w') ∧
  (∀ W, Calls Tryz.prog 9 #[.string (⟨#[82, 117, 108, 101, 32]⟩ ++ J)] W fun e w' => e = .returned (.int .i64 0) ∧ Below W.heap.size W w') := by
 obtain ⟨J, j1, j2, j3, j4, j5⟩ := Tp.join T hT hn hs
 have hsz : (⟨J.toArray⟩ : ByteArray).size = J.length := List.size_toArray
 refine ⟨⟨J.toArray⟩, by omega, fun v W S => ?_, fun W => ?_, fun W => ?_, fun W => ?_⟩
 ·
  have := fjoin_any v T W S (by omega) (by rw [tot_bl]; omega)
  rw [j1] at this
  exact this
 ·
  refine (fof_room ⟨J.toArray⟩ W (by omega)).mono fun e w' a => ?_
  have e1 : (⟨J.toArray⟩ : ByteArray).data.toList = J := rfl
  rw [e1, j2] at a
  obtain ⟨A, n, c, l, hnc, S, hl, he, hb⟩ := a
  have hl' : l = T := fd_bytes hl
  subst hl'
  have hn' : n = l.length := S.len
  subst hn'
  exact ⟨hb, A, c, he, hnc, S⟩
 ·
  have := lcheck_any ⟨J.toArray⟩ W (by unfold maxLen; omega)
  rw [show (⟨J.toArray⟩ : ByteArray).data.toList = J from rfl, j4] at this
  exact this
 ·
  have := lcheck_any (⟨#[82, 117, 108, 101, 32]⟩ ++ ⟨J.toArray⟩) W (by rw [ByteArray.size_append]; have : (⟨#[82, 117, 108, 101, 32]⟩ : ByteArray).size = 5 := rfl; unfold maxLen; omega)
  rw [Tp.app_l, show (⟨J.toArray⟩ : ByteArray).data.toList = J from rfl, show (⟨#[82, 117, 108, 101, 32]⟩ : ByteArray).data.toList = [82, 117, 108, 101, 32] from rfl, j5] at this
  exact this
theorem tp_rule_no (r : Ru.R) (h : r.ok = false) (hs : r.s.size ≤ maxLen) (ht : r.t.size ≤ maxLen) (tp : TypeId) (pp : Value) (y : Int) (W : World) (L : Ru.Lv W tp pp y) :
  Calls Tryz.prog 5 #[r.v] W fun e w' => ∃ v, StS w' v [] ∧ e = .returned (.tuple #[v, .int .i64 4]) ∧ Below W.heap.size W w' := by
 refine (rufields_any r.s r.t r.fy r.ty r.m r.k r.wk r.d r.sec r.base r.save W hs (by unfold maxLen at ht; omega) tp pp y L).mono fun e w' a => ?_
 have hf : Ru.fl ⟨r.s, r.fy, r.ty, r.m, r.k, r.wk, r.d, r.sec, r.base, r.save, r.t⟩ = ([], 4) := Ru.fl_no (r := r) h
 rw [hf] at a
 obtain ⟨v, l, S, hl, he, hb⟩ := a
 have hl' : l = [] := by cases l with | nil => rfl | cons _ _ => exact absurd hl (by simp)
 subst hl'
 exact ⟨_, S, he, hb⟩
theorem tp_rule_yes (r : Ru.R) (h : r.ok = true) (hs : r.s.size ≤ maxLen) (ht : r.t.size ≤ maxLen) (tp : TypeId) (pp : Value) (y : Int) :
  ∃ (T : List ByteArray) (J : ByteArray), J.size ≤ 448 ∧
   (∀ W, Ru.Lv W tp pp y → Calls Tryz.prog 5 #[r.v] W fun e w' => ∃ v, StS w' v T ∧ e = .returned (.tuple #[v, .int .i64 0]) ∧ Below W.heap.size W w') ∧
   (∀ v W, StS W v T → Calls Tryz.prog 6 #[v] W fun e w' => e = .returned (.tuple #[.string J, .int .i64 0]) ∧ Below W.heap.size W w') ∧
   (∀ W, Calls Tryz.prog 7 #[.string J] W fun e w' => Below W.heap.size W w' ∧ ∃ A c, e = .returned (.tuple #[.slice A T.length c, .int .i64 0]) ∧ (T.length ≤ c ∧ StS w' (.slice A T.length c) T)) ∧
   (∀ v W, StS W v T → Ru.Lv W tp pp y → Calls Tryz.prog 8 #[v] W fun e w' => e = .returned (.tuple #[r.v, .int .i64 0]) ∧ Below W.heap.size W w') ∧
   (∀ W, Calls Tryz.prog 9 #[.string (⟨#[82, 117, 108, 101, 32]⟩ ++ J)] W fun e w' => e = .returned (.int .i64 0) ∧ Below W.heap.size W w') := by
 obtain ⟨g1, g2, g3⟩ := Tp.rule_F h
 obtain ⟨J, j1, j2, j3, j4, j5⟩ := tp_join r.ts g1 g2 g3
 refine ⟨r.ts, J, j1, fun W L => ?_, j2, j3, fun v W S L => ?_, j5⟩
 ·
  refine (rufields_any r.s r.t r.fy r.ty r.m r.k r.wk r.d r.sec r.base r.save W hs (by unfold maxLen at ht; omega) tp pp y L).mono fun e w' a => ?_
  have hf : Ru.fl ⟨r.s, r.fy, r.ty, r.m, r.k, r.wk, r.d, r.sec, r.base, r.save, r.t⟩ = (r.ts.map (·.data.toList), 0) := Ru.fl_yes (r := r) h
  rw [hf] at a
  obtain ⟨v, l, S, hl, he, hb⟩ := a
  have hl' : l = r.ts := fd_bytes hl
  subst hl'
  exact ⟨v, S, he, hb⟩
 ·
  have := ruRead_any v r.ts W S (by omega) (fun x hx => Nat.le_trans (mem_sm _ _ hx) (by omega)) tp pp y L
  rw [Ru.back h] at this
  exact this
theorem tp_era_no (e : Er.E) (h : e.ok = false) (hs : e.rs.size ≤ maxLen) (ht : e.fm.size ≤ maxLen) (y0 : -9223372036854775808 ≤ e.u.y) (y1 : e.u.y ≤ 9223372036854775807) (tp : TypeId) (pp : Value) (y : Int) (W : World) (L : Ru.Lv W tp pp y) :
  Calls Tryz.prog 10 #[e.v] W fun E w' => ∃ v, StS w' v [] ∧ E = .returned (.tuple #[v, .int .i64 4]) ∧ Below W.heap.size W w' := by
 refine (erfields_any e.off e.kind e.save e.rs e.fm e.u.h e.u.y e.u.m e.u.k e.u.wk e.u.d e.u.sec e.u.base W (by unfold maxLen at hs; omega) (by unfold maxLen at ht; omega) y0 y1 tp pp y L).mono fun E w' a => ?_
 have hf : Er.fl ⟨e.off, e.kind, e.save, e.rs, e.fm, ⟨e.u.h, e.u.y, e.u.m, e.u.k, e.u.wk, e.u.d, e.u.sec, e.u.base⟩⟩ = ([], 4) := Er.fl_no (e := e) h
 rw [hf] at a
 obtain ⟨A, n, c, l, hnc, S, hl, he, hb⟩ := a
 have hl' : l = [] := by cases l with | nil => rfl | cons _ _ => exact absurd hl (by simp)
 subst hl'
 exact ⟨_, S, he, hb⟩
theorem tp_era_yes (e : Er.E) (h : e.ok = true) (hs : e.rs.size ≤ maxLen) (ht : e.fm.size ≤ maxLen) (y0 : -9223372036854775808 ≤ e.u.y) (y1 : e.u.y ≤ 9223372036854775807) (tp : TypeId) (pp : Value) (y : Int) :
  ∃ (T : List ByteArray) (J : ByteArray), J.size ≤ 448 ∧
   (∀ W, Ru.Lv W tp pp y → Calls Tryz.prog 10 #[e.v] W fun E w' => ∃ v, StS w' v T ∧ E = .returned (.tuple #[v, .int .i64 0]) ∧ Below W.heap.size W w') ∧
   (∀ v W, StS W v T → Calls Tryz.prog 6 #[v] W fun e w' => e = .returned (.tuple #[.string J, .int .i64 0]) ∧ Below W.heap.size W w') ∧
   (∀ W, Calls Tryz.prog 7 #[.string J] W fun e w' => Below W.heap.size W w' ∧ ∃ A c, e = .returned (.tuple #[.slice A T.length c, .int .i64 0]) ∧ (T.length ≤ c ∧ StS w' (.slice A T.length c) T)) ∧
   (∀ A c W, T.length ≤ c → StS W (.slice A T.length c) T → Ru.Lv W tp pp y → Calls Tryz.prog 11 #[.slice A T.length c] W fun E w' => E = .returned (.tuple #[e.v, .int .i64 0]) ∧ Below W.heap.size W w') ∧
   (∀ W, Calls Tryz.prog 9 #[.string J] W fun e w' => e = .returned (.int .i64 0) ∧ Below W.heap.size W w') := by
 obtain ⟨g1, g2, g3, g4, g5⟩ := Tp.era_F h
 obtain ⟨b1, b2, b3, b4⟩ := Er.back h (by omega) (by omega)
 obtain ⟨J, j1, j2, j3, j4, j5⟩ := tp_join e.ts g1 g2 g3
 refine ⟨e.ts, J, j1, fun W L => ?_, j2, j3, fun A c W hc S L => ?_, j4⟩
 ·
  refine (erfields_any e.off e.kind e.save e.rs e.fm e.u.h e.u.y e.u.m e.u.k e.u.wk e.u.d e.u.sec e.u.base W (by omega) (by omega) y0 y1 tp pp y L).mono fun E w' a => ?_
  have hf : Er.fl ⟨e.off, e.kind, e.save, e.rs, e.fm, ⟨e.u.h, e.u.y, e.u.m, e.u.k, e.u.wk, e.u.d, e.u.sec, e.u.base⟩⟩ = (e.ts.map (·.data.toList), 0) := Er.fl_yes (e := e) h
  rw [hf] at a
  obtain ⟨A, n, c, l, hnc, S, hl, he, hb⟩ := a
  have hl' : l = e.ts := fd_bytes hl
  subst hl'
  exact ⟨_, S, he, hb⟩
 ·
  have := erRead_any A e.ts.length c e.ts W S hc (by omega) b2 tp pp y L
  rw [b1] at this
  exact this
end Go.Proofs.YtjggjkeopbcmoaaGreatDoor

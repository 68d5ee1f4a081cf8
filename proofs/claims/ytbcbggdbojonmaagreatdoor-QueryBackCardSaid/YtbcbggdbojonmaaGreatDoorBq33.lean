/- Joined: QyX, QyY0, QyG, LkB, QyO, QyR, PairN. -/
import Derived.Test.YtbcbggdbojonmaaGreatDoorBq16
import Derived.Test.YtbcbggdbojonmaaGreatDoorBq12
import Derived.Test.YtbcbggdbojonmaaGreatDoorBq09
import Derived.Test.YtbcbggdbojonmaaGreatDoorBq22
import Derived.Test.YtbcbggdbojonmaaGreatDoorBq03
import Derived.Test.YtbcbggdbojonmaaGreatDoorBq05
import Derived.Test.YtbcbggdbojonmaaGreatDoorBq23
import Derived.Test.YtbcbggdbojonmaaGreatDoorBq20
set_option linter.unusedVariables false
set_option linter.unusedSimpArgs false
namespace Go.Proofs.YtbcbggdbojonmaaGreatDoor
namespace Qy
theorem dg_ch (k : Nat) (n : Int) : ∀ c ∈ Tx.dg k n, c = 45 ∨ Num.dig c = true := by
 intro c hc
 unfold Tx.dg at hc
 rcases List.mem_append.1 hc with h | h
 ·
  have := List.eq_of_mem_replicate h
  subst this
  exact .inr (by decide)
 ·
  exact An.itoa_ch n c h
theorem tx_ch (y m d h i s : Int) : ∀ c ∈ Tx.txt y m d h i s, c = 45 ∨ Num.dig c = true ∨ c = 84 ∨ c = 58 := by
 intro c hc
 have H : ∀ k n, c ∈ Tx.dg k n → c = 45 ∨ Num.dig c = true ∨ c = 84 ∨ c = 58 := fun k n hk => (dg_ch k n c hk).elim .inl (fun x => .inr (.inl x))
 unfold Tx.txt at hc
 rcases List.mem_append.1 hc with h1 | h1
 ·
  unfold Tx.yr at h1
  split at h1
  ·
   rcases List.mem_cons.1 h1 with h2 | h2
   ·
    exact .inl h2
   ·
    exact H _ _ h2
  ·
   exact H _ _ h1
 ·
  unfold Tx.beh at h1
  simp only [List.mem_cons, List.mem_append] at h1
  rcases h1 with h1 | h1 | h1 | h1 | h1 | h1 | h1 | h1 | h1 | h1
  ·
   exact .inl h1
  ·
   exact H _ _ h1
  ·
   exact .inl h1
  ·
   exact H _ _ h1
  ·
   exact .inr (.inr (.inl h1))
  ·
   exact H _ _ h1
  ·
   exact .inr (.inr (.inr h1))
  ·
   exact H _ _ h1
  ·
   exact .inr (.inr (.inr h1))
  ·
   exact H _ _ h1
theorem ch_all (c : UInt8) (h : c = 45 ∨ Num.dig c = true ∨ c = 84 ∨ c = 58) : Fd.mkB c = false ∧ c ≠ 34 ∧ Ln.okB c = true := by
 have H : ∀ n : Fin 256, (UInt8.ofNat n.1 = 45 ∨ Num.dig (UInt8.ofNat n.1) = true ∨ UInt8.ofNat n.1 = 84 ∨ UInt8.ofNat n.1 = 58) → Fd.mkB (UInt8.ofNat n.1) = false ∧ UInt8.ofNat n.1 ≠ 34 ∧ Ln.okB (UInt8.ofNat n.1) = true := by decide +kernel
 have := H ⟨c.toNat, c.toNat_lt⟩
 simp only [UInt8.ofNat_toNat] at this
 exact this h
theorem sc_tx {y m d h i s : Int} (hr : St.rB y m d h i s = true) : sc (Tx.txt y m d h i s) = (St.sec y m d h i s, 0) ∧ Pt 64 (Tx.txt y m d h i s) := by
 obtain ⟨hR, h0, h1, i0, i1, s0, s1⟩ := St.rB_true.1 hr
 have R := right_true.1 hR
 have hm := Cal.month_of R
 have hd := Cal.len_bd y m
 obtain ⟨y0, y1, d0, d1⟩ := of_decide_eq_true (by unfold rightB at hR; exact hR)
 have hl := Tx.beh_len (m := m) (d := d) (h := h) (i := i) (s := s) (by omega) (by omega) (by omega) (by omega) h0 (by omega) i0 (by omega) s0 (by omega)
 have hyl := Tx.yr_len y (by omega) (by omega)
 obtain ⟨o, v0, v1, v2, v3, v4, v5⟩ := Rd.txt_read hr (by omega) (by omega) (show 0 ≤ m by omega) (show m < 100 by omega) (show 0 ≤ d by omega) (show d < 100 by omega)
 have hlen : (Tx.txt y m d h i s).length = (Tx.yr y).length + 15 := by unfold Tx.txt; rw [List.length_append, hl]
 have hT : isT (Tx.txt y m d h i s) = true := by
  obtain ⟨p, q, e1, -⟩ := Rd.two_of (show 0 ≤ m by omega) (show m < 100 by omega)
  obtain ⟨p', q', e2, -⟩ := Rd.two_of (show 0 ≤ d by omega) (show d < 100 by omega)
  unfold isT
  rw [hlen, decide_eq_true (by omega), Bool.true_and, show (Tx.yr y).length + 15 - 9 = (Tx.yr y).length + 6 by omega]
  unfold Tx.txt Tx.beh
  rw [e1, e2]
  simp
 have hf : Rd.form (Tx.txt y m d h i s) = true := by
  unfold Rd.ok at o
  simp only [Bool.and_eq_true] at o
  exact o.1
 refine ⟨?_, tx_pl _ (fun e => by rw [e] at hlen; simp at hlen) (fun c hc => ⟨(ch_all c (tx_ch _ _ _ _ _ _ c hc)).1, (ch_all c (tx_ch _ _ _ _ _ _ c hc)).2.1⟩), by omega, List.all_eq_true.2 (fun c hc => (ch_all c (tx_ch _ _ _ _ _ _ c hc)).2.2)⟩
 unfold sc
 rw [hT, if_pos rfl]
 unfold rs
 rw [if_pos hf, if_pos o, v0, v1, v2, v3, v4, v5]
theorem rd_stamp {z : List UInt8} {t y m d h i s : Int} (hr : St.rB y m d h i s = true) (ht : St.sec y m d h i s = t) (hz : Lk.nm z = 0) : rd ([115, 121, 115, 32] ++ z ++ [32] ++ Tx.txt y m d h i s) = ((1, z, t, 0, 0, 0), 0) := by
 obtain ⟨e1, e2⟩ := sc_tx hr
 have e : [115, 121, 115, 32] ++ z ++ [32] ++ Tx.txt y m d h i s = sj [word heads 1, z, Tx.txt y m d h i s] := by
  show _ = [115, 121, 115] ++ (32 :: (z ++ (32 :: (Tx.txt y m d h i s ++ []))))
  simp
 obtain ⟨a, b⟩ := pt_head (k := 1) (by omega) (by omega)
 rw [e, rd_sj _ (by intro x hx; simp at hx; rcases hx with rfl | rfl | rfl; exact a; exact pt_name hz; exact e2) (by simp), rdF_cons, b, if_neg (by simp)]
 show fin [Lk.nm z, (sc (Tx.txt y m d h i s)).2] (1, z, (sc (Tx.txt y m d h i s)).1, 0, 0, 0) = _
 rw [e1, hz, ht]
 exact fin_yes rfl
end Qy
namespace Qy
theorem rs_bd (s : List UInt8) : An.bd (rs s).1 := by
 unfold rs
 split
 ·
  split
  ·
   rename_i h1 h2
   have hr : St.rB (Rd.yv (Rd.hd s)) (Rd.pV (Rd.tl s) 0) (Rd.pV (Rd.tl s) 1) (Rd.pV (Rd.tl s) 2) (Rd.pV (Rd.tl s) 3) (Rd.pV (Rd.tl s) 4) = true := by
    unfold Rd.ok at h2
    rw [Bool.and_eq_true, Bool.and_eq_true] at h2
    exact h2.2.2
   obtain ⟨hR, h0, h1, i0, i1, s0, s1⟩ := St.rB_true.1 hr
   have nb := Cal.num_range (right_true.1 hR)
   unfold An.bd St.sec
   dsimp only
   generalize Cal.num _ _ _ = n at *
   omega
  ·
   unfold An.bd; dsimp only; omega
 ·
  unfold An.bd; dsimp only; omega
theorem sc_bd (s : List UInt8) : An.bd (sc s).1 := by
 unfold sc
 split
 ·
  exact rs_bd s
 ·
  exact An.rd_bd
def Bd (q : Q) : Prop := An.bd q.2.2.1 ∧ An.bd q.2.2.2.1
theorem bd0 : An.bd 0 := by unfold An.bd; omega
theorem one_bd (s : Int) (x : List UInt8) (q : Q) (h : Bd q) : Bd (one s x q).1 := by
 obtain ⟨h1, h2⟩ := h
 unfold one
 repeat' split
 ·
  exact ⟨h1, h2⟩
 ·
  exact ⟨sc_bd x, h2⟩
 ·
  exact ⟨An.rd_bd, h2⟩
 ·
  exact ⟨h1, An.rd_bd⟩
 ·
  exact ⟨h1, h2⟩
 ·
  exact ⟨h1, h2⟩
theorem stp_bd : ∀ (l : List Int) (r : List (List UInt8)) (q : Q), Bd q → Bd (stp l r q).1
 | [], _, _, h => h
 | _ :: _, [], _, h => h
 | s :: l, x :: r, q, h => by
  rw [stp_cons]
  split
  ·
   exact ⟨bd0, bd0⟩
  ·
   exact stp_bd l r _ (one_bd s x q h)
theorem aft_bd (k : Int) (R : Q × Int) (h : Bd R.1) : Bd (aft k R).1 := by
 unfold aft
 repeat' split
 all_goals first | exact h | exact ⟨bd0, bd0⟩
theorem rdK_bd (k : Nat) (r : List (List UInt8)) (h1 : 1 ≤ k) (h7 : k ≤ 7) : Bd (rdK k r).1 := by
 rw [rdK_stp k r h1 h7]
 repeat' split
 ·
  exact ⟨bd0, bd0⟩
 ·
  exact ⟨bd0, bd0⟩
 ·
  exact aft_bd _ _ (stp_bd _ _ _ ⟨bd0, bd0⟩)
theorem rdq_bd (s : List UInt8) : Bd (rd s).1 := by
 unfold rd
 split
 ·
  exact ⟨bd0, bd0⟩
 ·
  split
  ·
   exact ⟨bd0, bd0⟩
  ·
   generalize (Fd.of s).1 = f
   match f with
   | [] => exact ⟨bd0, bd0⟩
   | a :: r =>
    rw [rdF_cons]
    split
    ·
     exact ⟨bd0, bd0⟩
    ·
     rename_i h3
     have m := Wd.mat_lt a heads (by simpa using h3)
     have ml : heads.length = 7 := rfl
     rw [ml] at m
     obtain ⟨kk, hkk⟩ : ∃ kk : Nat, (Wd.mat a heads).1 + 1 = kk := ⟨((Wd.mat a heads).1 + 1).toNat, by omega⟩
     rw [hkk]
     exact rdK_bd kk r (by omega) (by omega)
theorem right_len {q : Q} (h : right q) : q.2.1.length ≤ 64 := by
 obtain ⟨k, z, t, n, u, p⟩ := q
 rcases h with ⟨-, h, -⟩ | ⟨-, h, -⟩ | ⟨-, h, -⟩ | ⟨-, h, -⟩ | ⟨-, h, -⟩ | ⟨-, h, -⟩
 ·
  show z.length ≤ 64; rw [h]; simp
 ·
  show z.length ≤ 64; rw [h]; simp
 all_goals exact (nm_ok h).1
end Qy
end Go.Proofs.YtbcbggdbojonmaaGreatDoor
set_option linter.unusedVariables false
set_option linter.unusedSimpArgs false
namespace Go.Proofs.YtbcbggdbojonmaaGreatDoor
open Go.RowKit Go.Sort
namespace Lk
end Lk
end Go.Proofs.YtbcbggdbojonmaaGreatDoor
set_option linter.unusedVariables false
set_option linter.unusedSimpArgs false
namespace Go.Proofs.YtbcbggdbojonmaaGreatDoor
open Go.RowKit Go.Sort Go.Pairs
end Go.Proofs.YtbcbggdbojonmaaGreatDoor
set_option linter.unusedVariables false
set_option linter.unusedSimpArgs false
namespace Go.Proofs.YtbcbggdbojonmaaGreatDoor
open Go.RowKit Go.Sort
theorem Qy.right_plain {k : Int} {z : List UInt8} {t n u p : Int} (h : Qy.right (k, z, t, n, u, p)) :
  (k = 0 ∨ k = 6 → z = [] ∧ t = 0) ∧ (¬ (k = 5 ∨ k = 7) → n = 0) ∧ (¬ k = 5 → u = 0) ∧ (¬ (k = 5 ∨ k = 3) → p = 0) := by
 rcases h with ⟨h, h1, h2, h3, h4, h5⟩ | ⟨h, h1, h2, h3, h4, h5⟩ | ⟨h, -, h3, h4, h5⟩ | ⟨h, -, h3, h4, -⟩ | ⟨h, -⟩ | ⟨h, -, h4, h5, -⟩
 ·
  exact ⟨fun _ => ⟨h1, h2⟩, fun _ => h3, fun _ => h4, fun _ => h5⟩
 ·
  exact ⟨fun _ => ⟨h1, h2⟩, fun _ => h3, fun _ => h4, fun _ => h5⟩
 ·
  exact ⟨fun g => by omega, fun _ => h3, fun _ => h4, fun _ => h5⟩
 ·
  exact ⟨fun g => by omega, fun _ => h3, fun _ => h4, fun g => by omega⟩
 ·
  exact ⟨fun g => by omega, fun g => by omega, fun g => by omega, fun g => by omega⟩
 ·
  exact ⟨fun g => by omega, fun g => by omega, fun _ => h4, fun _ => h5⟩
theorem Qy.right_nm {k : Int} {z : List UInt8} {t n u p : Int} (h0 : ¬ k = 0) (h6 : ¬ k = 6) (h : Qy.right (k, z, t, n, u, p)) : Lk.nm z = 0 := by
 rcases h with ⟨h, -⟩ | ⟨h, -⟩ | ⟨_, h, -⟩ | ⟨_, h, -⟩ | ⟨_, h, -⟩ | ⟨_, h, -⟩
 ·
  exact absurd h h0
 ·
  exact absurd h h6
 all_goals exact h
end Go.Proofs.YtbcbggdbojonmaaGreatDoor
namespace Go.Pairs
open Go
section
variable (P : Program) (l : List Oper) (x y : Nat) (dx : Tmp) (R : Nat → Value → World → Prop) (S : Value → World → Prop) (till : Nat → Option Nat) (D : World → Prop) (G : Nat → World → World → Prop) (Q : Exit → Act → World → Prop) (a0 : Act)
structure GoodX : Prop where
 nodup : nodupB (l.filterMap (·.dst)) = true
 on : onB 0 l = true
 inside : insideB a0.tmps.size l = true
 hx : (l[x]?).bind (·.dst) = some dx
 wyx : ((l[y]?).any (fun o => waitsB o x)) = true
 hxy : x ≠ y
 keep : ∀ i w w', D w → G i w w' → D w'
 stable : ∀ i j, i ≠ j → till j ≠ some i → ∀ v w w', G i w w' → R j v w → R j v w'
 sst : ∀ i, i ≠ y → ∀ v w w', G i w w' → S v w → S v w'
 ob : ∀ i o, l[i]? = some o → i = y ∨ ObT P l R till D G Q a0 i o
 oby : ∀ o, l[y]? = some o → ∀ a w, D w → Same l a0 a → (∀ j oj d, l[j]? = some oj → oj.dst = some d → waitsB o j = true → liveB till l y j = true → ∃ v, a.tmps[d]? = some v ∧ R j v w) →
  ∀ K : Act → World → Prop, (∀ v w', G y w w' → R y v w' → (∃ u, a.tmps[dx]? = some u ∧ S u w') → K (a.put o.dst v) w') → if Region.wanted o (yielded l.toArray a.tmps) = true then o.wp P a w K Q else K (a.put o.dst undef) w
 last : ∀ a w, D w → Same l a0 a → (∀ j oj d, l[j]? = some oj → oj.dst = some d → till j = none → ∃ v, a.tmps[d]? = some v ∧ R j v w) → (∃ v, a.tmps[dx]? = some v ∧ S v w) → Q .normal a w
variable {P l x y dx R S till D G Q a0}
theorem CT_step {i : Nat} {o : Oper} {ld : Nat → Bool} {a : Act} {w w' : World} {v : Value} (nodup : nodupB (l.filterMap (·.dst)) = true) (inside : insideB a0.tmps.size l = true) (keep : ∀ i w w', D w → G i w w' → D w')
  (stable : ∀ i j, i ≠ j → till j ≠ some i → ∀ v w w', G i w w' → R j v w → R j v w') (ho : l[i]? = some o) (hS : Same l a0 a) (hC : CT l R till D a0 ld a w) (hG : G i w w') (hRv : R i v w') : CT l R till D a0 (come ld i) (a.put o.dst v) w' := by
 refine ⟨keep _ _ _ hC.1 hG, hS.put ho v, ?_⟩
 intro j oj d hj hd hl htl
 unfold come at hl htl
 by_cases hij : j = i
 ·
  subst hij
  obtain rfl : o = oj := by rw [ho] at hj; exact Option.some.inj hj
  rw [hd, put_same (by rw [hS.size]; exact inside_at inside hj hd)]
  exact ⟨_, rfl, hRv⟩
 ·
  rw [if_neg hij] at hl
  rw [put_other (fun he => hij (nodup_at nodup ho hj he hd).symm)]
  obtain ⟨v', h1, h2⟩ := hC.2.2 j oj d hj hd hl fun t ht => by
   have := htl t ht
   by_cases hti : t = i
   ·
    rw [if_pos hti] at this; cases this
   ·
    rwa [if_neg hti] at this
  refine ⟨v', h1, stable i j (fun e => hij e.symm) (fun e => ?_) _ _ _ hG h2⟩
  have := htl i e
  rw [if_pos rfl] at this; cases this
theorem CT_marks {i : Nat} {o : Oper} {ld : Nat → Bool} {a : Act} {w : World} (hC : CT l R till D a0 ld a w) (hif : ld i = false) (hw : ∀ j, waitsB o j = true → ld j = true) (hcl : Closed l ld) :
  ∀ j oj d, l[j]? = some oj → oj.dst = some d → waitsB o j = true → liveB till l i j = true → ∃ v, a.tmps[d]? = some v ∧ R j v w := by
 intro j oj d hj hd hwj hlv
 refine hC.2.2 j oj d hj hd (hw j hwj) fun t ht => ?_
 rcases live_at hlv t ht with e | ⟨ot, e1, e2⟩
 ·
  subst e; exact hif
 ·
  rcases hb : ld t with _ | _
  ·
   rfl
  ·
   have := hcl t ot i e1 hb e2
   rw [hif] at this; cases this
theorem GoodX.goodF (h : GoodX P l x y dx R S till D G Q a0) : GoodF P l (fun ld a w => CT l R till D a0 ld a w ∧ (ld y = true → ∃ v, a.tmps[dx]? = some v ∧ S v w)) Q a0 where
 on := h.on
 ob := fun i o ho ld a w hC hif hw hcl hS K hK => by
  obtain ⟨ox, hox, hdx⟩ : ∃ ox, l[x]? = some ox ∧ ox.dst = some dx := by
   have := h.hx
   cases hl : l[x]? with
   | none => rw [hl] at this; cases this
   | some ox => rw [hl] at this; exact ⟨ox, rfl, this⟩
  have hm := CT_marks hC.1 hif hw hcl
  by_cases hiy : i = y
  ·
   subst hiy
   refine h.oby o ho a w hC.1.1 hS hm K fun v w' hG hRv hu => hK _ _ ⟨CT_step h.nodup h.inside h.keep h.stable ho hS hC.1 hG hRv, fun _ => ?_⟩
   obtain ⟨u, hu, hs⟩ := hu
   refine ⟨u, ?_, hs⟩
   rw [put_other (fun he => h.hxy (nodup_at h.nodup hox ho hdx he))]
   exact hu
  ·
   have hob := (h.ob i o ho).resolve_left hiy
   refine hob a w hC.1.1 hS hm K fun v w' hG hRv => hK _ _ ⟨CT_step h.nodup h.inside h.keep h.stable ho hS hC.1 hG hRv, fun hy => ?_⟩
   unfold come at hy
   rw [if_neg (fun e => hiy e.symm)] at hy
   obtain ⟨u, hu, hs⟩ := hC.2 hy
   have hix : i ≠ x := by
    rintro rfl
    have hwy := h.wyx
    cases hl : l[y]? with
    | none => rw [hl] at hwy; cases hwy
    | some oy =>
     rw [hl] at hwy
     have := hcl y oy i hl hy (by simpa using hwy)
     rw [hif] at this; cases this
   refine ⟨u, ?_, h.sst i hiy _ _ _ hG hs⟩
   rw [put_other (fun he => hix (nodup_at h.nodup ho hox he hdx))]
   exact hu
 last := fun ld a w hC hall hS => h.last a w hC.1.1 hS (fun j oj d hj hd htl =>
  hC.1.2.2 j oj d hj hd (hall j (List.getElem?_eq_some_iff.1 hj).1) fun t ht => by rw [htl] at ht; cases ht) (hC.2 (hall y (by
   have hwy := h.wyx
   cases hl : l[y]? with
   | none => rw [hl] at hwy; cases hwy
   | some oy => exact (List.getElem?_eq_some_iff.1 hl).1)))
theorem wp_region_tie {id : Nat} {w : World} (hm : P.follows .mixedOrders = true) (hD : D w.drew) (h : GoodX P l x y dx R S till D G Q a0) : (Code.region id l.toArray true).wp P Q a0 w :=
 wp_region_frame (C := fun ld a w => CT l R till D a0 ld a w ∧ (ld y = true → ∃ v, a.tmps[dx]? = some v ∧ S v w)) hm ⟨⟨hD, ⟨rfl, rfl, fun _ _ => rfl⟩, fun _ _ _ _ _ hl => by cases hl⟩, fun hl => by cases hl⟩ h.goodF
def ObsX (P : Program) (l : List Oper) (y : Nat) (R : Nat → Value → World → Prop) (till : Nat → Option Nat) (D : World → Prop) (G : Nat → World → World → Prop) (Q : Exit → Act → World → Prop) (a0 : Act) : Nat → List Oper → Prop
 | _, [] => True
 | k, o :: os => (k = y ∨ ObT P l R till D G Q a0 k o) ∧ ObsX P l y R till D G Q a0 (k + 1) os
theorem ObsX.at : ∀ {os : List Oper} {k : Nat}, ObsX P l y R till D G Q a0 k os → ∀ i o, os[i]? = some o → (k + i) = y ∨ ObT P l R till D G Q a0 (k + i) o := by
 intro os
 induction os with
 | nil => intro k _ i o h; simp at h
 | cons z os ih =>
  intro k h i o hi
  cases i with
  | zero => simp at hi; subst hi; exact h.1
  | succ i => simp at hi; have := ih h.2 i o hi; rw [show k + (i + 1) = k + 1 + i by omega]; exact this
theorem ObsX.all (h : ObsX P l y R till D G Q a0 0 l) : ∀ i o, l[i]? = some o → i = y ∨ ObT P l R till D G Q a0 i o := fun i o hi => by
 have := h.at i o hi
 rwa [Nat.zero_add] at this
theorem ObsX.nil {k : Nat} : ObsX P l y R till D G Q a0 k [] := trivial
theorem ObsX.cons {k k' : Nat} {o : Oper} {os : List Oper} (hk : k + 1 = k') (h : ObT P l R till D G Q a0 k o) (hs : ObsX P l y R till D G Q a0 k' os) : ObsX P l y R till D G Q a0 k (o :: os) := ⟨.inr h, hk ▸ hs⟩
theorem ObsX.skip {k k' : Nat} {o : Oper} {os : List Oper} (hk : k + 1 = k') (h : k = y) (hs : ObsX P l y R till D G Q a0 k' os) : ObsX P l y R till D G Q a0 k (o :: os) := ⟨.inl h, hk ▸ hs⟩
end
end Go.Pairs

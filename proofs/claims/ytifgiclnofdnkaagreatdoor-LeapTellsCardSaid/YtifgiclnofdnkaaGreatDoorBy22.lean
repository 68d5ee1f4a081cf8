/- Joined: QyX, LnC, LnP0, LpR, LpG. -/
import Derived.Test.YtifgiclnofdnkaaGreatDoorBy21
import Derived.Test.YtifgiclnofdnkaaGreatDoorBy16
import Derived.Test.YtifgiclnofdnkaaGreatDoorBy14
import Derived.Test.YtifgiclnofdnkaaGreatDoorBy08
import Derived.Test.YtifgiclnofdnkaaGreatDoorBy07
import Derived.Shelf.Strings.Split
import Derived.Lib.SplitLaws
import Derived.Test.YtifgiclnofdnkaaGreatDoorBy03
import Derived.Maps.OwnSet
import Derived.Maps.StringElems
import Derived.Maps.RangeWalk
import Derived.StringKeys
import Derived.Carry
set_option linter.unusedVariables false
set_option linter.unusedSimpArgs false
namespace Go.Proofs.YtifgiclnofdnkaaGreatDoor
namespace Qy
theorem dg_ch (k : Nat) (n : Int) : ∀ c ∈ Tx.dg k n, c = 45 ∨ Num.dig c = true := by
 intro c hc
 unfold Tx.dg at hc
 rcases List.mem_append.1 hc with h | h
 ·
  have := List.eq_of_mem_replicate h
  subst this
  exact .inr (by decide)
 ·
  exact An.itoa_ch n c h
theorem tx_ch (y m d h i s : Int) : ∀ c ∈ Tx.txt y m d h i s, c = 45 ∨ Num.dig c = true ∨ c = 84 ∨ c = 58 := by
 intro c hc
 have H : ∀ k n, c ∈ Tx.dg k n → c = 45 ∨ Num.dig c = true ∨ c = 84 ∨ c = 58 := fun k n hk => (dg_ch k n c hk).elim .inl (fun x => .inr (.inl x))
 unfold Tx.txt at hc
 rcases List.mem_append.1 hc with h1 | h1
 ·
  unfold Tx.yr at h1
  split at h1
  ·
   rcases List.mem_cons.1 h1 with h2 | h2
   ·
    exact .inl h2
   ·
    exact H _ _ h2
  ·
   exact H _ _ h1
 ·
  unfold Tx.beh at h1
  simp only [List.mem_cons, List.mem_append] at h1
  rcases h1 with h1 | h1 | h1 | h1 | h1 | h1 | h1 | h1 | h1 | h1
  ·
   exact .inl h1
  ·
   exact H _ _ h1
  ·
   exact .inl h1
  ·
   exact H _ _ h1
  ·
   exact .inr (.inr (.inl h1))
  ·
   exact H _ _ h1
  ·
   exact .inr (.inr (.inr h1))
  ·
   exact H _ _ h1
  ·
   exact .inr (.inr (.inr h1))
  ·
   exact H _ _ h1
theorem ch_all (c : UInt8) (h : c = 45 ∨ Num.dig c = true ∨ c = 84 ∨ c = 58) : Fd.mkB c = false ∧ c ≠ 34 ∧ Ln.okB c = true := by
 have H : ∀ n : Fin 256, (UInt8.ofNat n.1 = 45 ∨ Num.dig (UInt8.ofNat n.1) = true ∨ UInt8.ofNat n.1 = 84 ∨ UInt8.ofNat n.1 = 58) → Fd.mkB (UInt8.ofNat n.1) = false ∧ UInt8.ofNat n.1 ≠ 34 ∧ Ln.okB (UInt8.ofNat n.1) = true := by decide +kernel
 have := H ⟨c.toNat, c.toNat_lt⟩
 simp only [UInt8.ofNat_toNat] at this
 exact this h
theorem sc_tx {y m d h i s : Int} (hr : St.rB y m d h i s = true) : sc (Tx.txt y m d h i s) = (St.sec y m d h i s, 0) ∧ Pt 64 (Tx.txt y m d h i s) := by
 obtain ⟨hR, h0, h1, i0, i1, s0, s1⟩ := St.rB_true.1 hr
 have R := right_true.1 hR
 have hm := Cal.month_of R
 have hd := Cal.len_bd y m
 obtain ⟨y0, y1, d0, d1⟩ := of_decide_eq_true (by unfold rightB at hR; exact hR)
 have hl := Tx.beh_len (m := m) (d := d) (h := h) (i := i) (s := s) (by omega) (by omega) (by omega) (by omega) h0 (by omega) i0 (by omega) s0 (by omega)
 have hyl := Tx.yr_len y (by omega) (by omega)
 obtain ⟨o, v0, v1, v2, v3, v4, v5⟩ := Rd.txt_read hr (by omega) (by omega) (show 0 ≤ m by omega) (show m < 100 by omega) (show 0 ≤ d by omega) (show d < 100 by omega)
 have hlen : (Tx.txt y m d h i s).length = (Tx.yr y).length + 15 := by unfold Tx.txt; rw [List.length_append, hl]
 have hT : isT (Tx.txt y m d h i s) = true := by
  obtain ⟨p, q, e1, -⟩ := Rd.two_of (show 0 ≤ m by omega) (show m < 100 by omega)
  obtain ⟨p', q', e2, -⟩ := Rd.two_of (show 0 ≤ d by omega) (show d < 100 by omega)
  unfold isT
  rw [hlen, decide_eq_true (by omega), Bool.true_and, show (Tx.yr y).length + 15 - 9 = (Tx.yr y).length + 6 by omega]
  unfold Tx.txt Tx.beh
  rw [e1, e2]
  simp
 have hf : Rd.form (Tx.txt y m d h i s) = true := by
  unfold Rd.ok at o
  simp only [Bool.and_eq_true] at o
  exact o.1
 refine ⟨?_, tx_pl _ (fun e => by rw [e] at hlen; simp at hlen) (fun c hc => ⟨(ch_all c (tx_ch _ _ _ _ _ _ c hc)).1, (ch_all c (tx_ch _ _ _ _ _ _ c hc)).2.1⟩), by omega, List.all_eq_true.2 (fun c hc => (ch_all c (tx_ch _ _ _ _ _ _ c hc)).2.2)⟩
 unfold sc
 rw [hT, if_pos rfl]
 unfold rs
 rw [if_pos hf, if_pos o, v0, v1, v2, v3, v4, v5]
end Qy
end Go.Proofs.YtifgiclnofdnkaaGreatDoor
set_option linter.unusedVariables false
set_option linter.unusedSimpArgs false
namespace Go.Proofs.YtifgiclnofdnkaaGreatDoor
open Go.RowKit Go.Sort
namespace Ln
open Go.Lib
def nl (l : List UInt8) : Prop := ∀ c ∈ l, c ≠ 10
theorem pre10 (c : UInt8) (l : List UInt8) : ([10] : List UInt8).isPrefixOf (c :: l) = (10 == c) := by
 rw [List.isPrefixOf, List.isPrefixOf, Bool.and_true]
theorem ix_at : ∀ (a r : List UInt8), nl a → index (a ++ 10 :: r) [10] = (a.length : Int) := by
 intro a
 induction a with
 | nil => intro r _; rw [List.nil_append]; unfold index; rw [pre10]; rfl
 | cons c a ih =>
  intro r h
  have h1 : (10 == c) = false := by rw [beq_eq_false_iff_ne]; exact fun e => h c (List.mem_cons_self ..) e.symm
  have h2 := ih r (fun x hx => h x (List.mem_cons_of_mem _ hx))
  have h3 : ((a.length : Int) == -1) = false := by rw [beq_eq_false_iff_ne]; omega
  rw [List.cons_append]
  unfold index
  rw [pre10, h1, h2, h3]
  simp
theorem splitK_at (a r : List UInt8) (k : Nat) (h : nl a) : splitK [10] 0 (k + 1) (a ++ 10 :: r) = a :: splitK [10] 0 k r := by
 have h3 : ((a.length : Int) == -1) = false := by rw [beq_eq_false_iff_ne]; omega
 conv => lhs; unfold splitK
 rw [ix_at a r h, h3]
 simp
def rest (cur : List UInt8) : List UInt8 → List (List UInt8)
 | [] => [cur]
 | c :: r => if c = 10 then cur :: rest [] r else rest (cur ++ [c]) r
def cut (cur : List UInt8) : List UInt8 → List (List UInt8)
 | [] => if cur = [] then [] else [cur]
 | c :: r => if c = 10 then cur :: cut [] r else cut (cur ++ [c]) r
def dropE (P : List (List UInt8)) : List (List UInt8) := if P.getLast? = some [] then P.dropLast else P
theorem rest_ne (cur l : List UInt8) : rest cur l ≠ [] := by
 induction l generalizing cur with
 | nil => simp [rest]
 | cons c r ih =>
  unfold rest
  split
  ·
   simp
  ·
   exact ih _
theorem cut_rest (cur l : List UInt8) : cut cur l = dropE (rest cur l) := by
 induction l generalizing cur with
 | nil =>
  unfold cut rest dropE
  by_cases h : cur = [] <;> simp [h]
 | cons c r ih =>
  unfold cut rest
  by_cases h : c = 10
  ·
   rw [if_pos h, if_pos h, ih []]
   have hn := rest_ne [] r
   generalize rest [] r = X at hn
   unfold dropE
   cases X with
   | nil => exact absurd rfl hn
   | cons x y =>
    rw [List.getLast?_cons_cons]
    by_cases hl : (x :: y).getLast? = some []
    ·
     rw [if_pos hl, if_pos hl]; rfl
    ·
     rw [if_neg hl, if_neg hl]
  ·
   rw [if_neg h, if_neg h]
   exact ih _
theorem splitK_rest (l cur : List UInt8) (h : nl cur) : splitK [10] 0 (count l [10]) (cur ++ l) = rest cur l := by
 induction l generalizing cur with
 | nil =>
  rw [show count [] [10] = 0 by rw [count_one]; rfl, List.append_nil]
  rfl
 | cons c r ih =>
  unfold rest
  by_cases hc : c = 10
  ·
   subst hc
   rw [if_pos rfl, count_cons_eq, Nat.add_comm, splitK_at cur r _ h]
   have := ih [] (fun c hc => by cases hc)
   rw [List.nil_append] at this
   rw [this]
  ·
   rw [if_neg hc, count_cons_ne c 10 r hc]
   have := ih (cur ++ [c]) (fun x hx => by
    rcases List.mem_append.1 hx with hx | hx
    ·
     exact h x hx
    ·
     rw [List.mem_singleton.1 hx]; exact hc)
   rw [List.append_assoc] at this
   exact this
def pcs (s : ByteArray) : List ByteArray := splitB ⟨#[10]⟩ 0 (countB s ⟨#[10]⟩) s
theorem pcs_data (s : ByteArray) : (pcs s).map (·.data.toList) = rest [] s.data.toList := by
 unfold pcs
 rw [splitB_data]
 have := splitK_rest s.data.toList [] (fun c hc => by cases hc)
 rw [List.nil_append] at this
 exact this
theorem pcs_len (s : ByteArray) : (pcs s).length = countB s ⟨#[10]⟩ + 1 := splitB_all ⟨#[10]⟩ (Nat.le_refl 1) 0 _ s rfl
theorem cut_size (cur l : List UInt8) : ∀ p ∈ cut cur l, p.length ≤ cur.length + l.length := by
 induction l generalizing cur with
 | nil =>
  intro p hp
  unfold cut at hp
  split at hp
  ·
   cases hp
  ·
   rw [List.mem_singleton.1 hp]; omega
 | cons c r ih =>
  intro p hp
  unfold cut at hp
  split at hp
  ·
   rcases List.mem_cons.1 hp with rfl | hp
   ·
    omega
   ·
    have := ih [] p hp
    simp at this ⊢; omega
  ·
   have := ih _ p hp
   simp at this ⊢; omega
theorem cut_len (cur l : List UInt8) : (cut cur l).length ≤ l.length + 1 := by
 induction l generalizing cur with
 | nil => unfold cut; split <;> simp
 | cons c r ih =>
  unfold cut
  split
  ·
   have := ih []; simp; omega
  ·
   have := ih (cur ++ [c]); simp; omega
end Ln
def AnsL (P : List (List UInt8)) (w : World) (e : Ending) (w' : World) : Prop := ∃ (v : Value) (l : List ByteArray), StS w' v l ∧ l.map (·.data.toList) = P ∧ e = .returned v ∧ Below w.heap.size w w'
end Go.Proofs.YtifgiclnofdnkaaGreatDoor
set_option linter.unusedVariables false
set_option linter.unusedSimpArgs false
namespace Go.Proofs.YtifgiclnofdnkaaGreatDoor
namespace Ln
def noB (l : List UInt8) : Bool := l.all fun c => !(decide (c = 10))
theorem cut_app (a r cur : List UInt8) (h : noB a = true) : cut cur (a ++ 10 :: r) = (cur ++ a) :: cut [] r := by
 induction a generalizing cur with
 | nil =>
  show cut cur (10 :: r) = _
  rw [cut, if_pos rfl, List.append_nil]
 | cons c a ih =>
  unfold noB at h
  simp only [List.all_cons, Bool.and_eq_true, Bool.not_eq_true', decide_eq_false_iff_not] at h
  rw [List.cons_append, cut, if_neg h.1, ih (cur ++ [c]) h.2, List.append_assoc]
  rfl
end Ln
namespace Lp
def ln (s : List UInt8) : Option X × Int :=
 if Ln.chk s ≠ 0 then (none, Ln.chk s) else if (Fd.of s).2 ≠ 0 then (none, (Fd.of s).2) else
 match (Fd.of s).1 with
 | [] => (none, 0)
 | [_] => (none, 5)
 | [a, b] => if (Qy.rs a).2 ≠ 0 then (none, (Qy.rs a).2) else if b = [43] then (some ((Qy.rs a).1, 1), 0) else if b = [45] then (some ((Qy.rs a).1, -1), 0) else (none, 3)
 | _ => (none, 6)
def lns : List (List UInt8) → Nat → List X → List X × Int × Int
 | [], _, out => (out, 0, 0)
 | s :: r, k, out => if (ln s).2 ≠ 0 then ([], ((k : Nat) : Int) + 1, (ln s).2) else lns r (k + 1) (out ++ (ln s).1.toList)
def rd (s : List UInt8) : List X × Int × Int :=
 if 1048576 < s.length then ([], 0, 9) else if (lns (Ln.cut [] s) 0 []).2.2 ≠ 0 then ([], (lns (Ln.cut [] s) 0 []).2) else if right (lns (Ln.cut [] s) 0 []).1 then ((lns (Ln.cut [] s) 0 []).1, 0, 0) else ([], 0, 4)
def stp (t : Int) : List UInt8 := St.tx (Cal.dY (t / 86400)) (Cal.dM (t / 86400)) (Cal.dD (t / 86400)) (t % 86400 / 3600) (t % 86400 / 60 % 60) (t % 86400 % 60)
def sg (n : Int) : List UInt8 := if n = 1 then [43] else if n = -1 then [45] else []
def line (x : X) : List UInt8 := stp x.1 ++ 32 :: sg x.2
def tx (l : List X) : List UInt8 × Int := if right l then (l.flatMap (fun x => line x ++ [10]), 0) else ([], 4)
theorem rs_tx {y m d h i s : Int} (hr : St.rB y m d h i s = true) : Qy.rs (Tx.txt y m d h i s) = (St.sec y m d h i s, 0) := by
 obtain ⟨hR, h0, h1, i0, i1, s0, s1⟩ := St.rB_true.1 hr
 have R := right_true.1 hR
 have hm := Cal.month_of R
 have hd := Cal.len_bd y m
 obtain ⟨y0, y1, d0, d1⟩ := of_decide_eq_true (by unfold rightB at hR; exact hR)
 obtain ⟨o, v0, v1, v2, v3, v4, v5⟩ := Rd.txt_read hr (by omega) (by omega) (show 0 ≤ m by omega) (show m < 100 by omega) (show 0 ≤ d by omega) (show d < 100 by omega)
 have hf : Rd.form (Tx.txt y m d h i s) = true := by
  unfold Rd.ok at o
  simp only [Bool.and_eq_true] at o
  exact o.1
 unfold Qy.rs
 rw [if_pos hf, if_pos o, v0, v1, v2, v3, v4, v5]
theorem stp_ok {t : Int} (h0 : -1096193779200 ≤ t) (h1 : t ≤ 971890963199) : Qy.rs (stp t) = (t, 0) ∧ Qy.Pt 64 (stp t) ∧ ∀ c ∈ stp t, c ≠ 10 := by
 have hh : Cal.hasD (t / 86400) = true := Cal.hasD_true.2 (by omega)
 have hb := Cal.hasD_true.1 hh
 have hr : St.rB (Cal.dY (t / 86400)) (Cal.dM (t / 86400)) (Cal.dD (t / 86400)) (t % 86400 / 3600) (t % 86400 / 60 % 60) (t % 86400 % 60) = true :=
  St.rB_true.2 ⟨right_true.2 (Cal.date_right _ hb.1 hb.2), by omega, by omega, by omega, by omega, by omega, by omega⟩
 have hs : St.sec (Cal.dY (t / 86400)) (Cal.dM (t / 86400)) (Cal.dD (t / 86400)) (t % 86400 / 3600) (t % 86400 / 60 % 60) (t % 86400 % 60) = t := by
  unfold St.sec
  rw [Cal.date_num]
  omega
 have e : stp t = Tx.txt (Cal.dY (t / 86400)) (Cal.dM (t / 86400)) (Cal.dD (t / 86400)) (t % 86400 / 3600) (t % 86400 / 60 % 60) (t % 86400 % 60) := by unfold stp St.tx; rw [hr]; rfl
 rw [e]
 refine ⟨by rw [rs_tx hr, hs], (Qy.sc_tx hr).2, fun c hc h10 => ?_⟩
 subst h10
 rcases Qy.tx_ch _ _ _ _ _ _ _ hc with h | h | h | h <;> revert h <;> decide
theorem sg_ok {n : Int} (h : n = 1 ∨ n = -1) : Qy.Pt 64 (sg n) ∧ (∀ c ∈ sg n, c ≠ 10) ∧ (sg n).length = 1 := by
 rcases h with rfl | rfl
 ·
  exact ⟨⟨by decide, by decide, by decide⟩, by decide, rfl⟩
 ·
  exact ⟨⟨by decide, by decide, by decide⟩, by decide, rfl⟩
theorem ln_line {x : X} (h : ok1 x) : ln (line x) = (some x, 0) ∧ Ln.noB (line x) = true := by
 obtain ⟨t, n⟩ := x
 obtain ⟨h0, h1, h2⟩ := h
 obtain ⟨a1, a2, a3⟩ := stp_ok h0 h1
 obtain ⟨b1, b2, b3⟩ := sg_ok h2
 have e : line (t, n) = Qy.sj [stp t, sg n] := by
  show stp t ++ 32 :: sg n = stp t ++ (32 :: (sg n ++ []))
  rw [List.append_nil]
 have hpt : ∀ x ∈ [stp t, sg n], Qy.Pt 64 x := by
  intro x hx
  simp only [List.mem_cons, List.mem_nil_iff, or_false] at hx
  rcases hx with rfl | rfl
  ·
   exact a2
  ·
   exact b1
 have hc : Ln.chk (line (t, n)) = 0 := by
  unfold Ln.chk line
  have hl := a2.2.1
  rw [if_neg, if_pos]
  ·
   rw [List.all_append, a2.2.2, List.all_cons, b1.2.2]; rfl
  ·
   rw [List.length_append, List.length_cons, b3]; omega
 have hf : Fd.of (line (t, n)) = ([stp t, sg n], 0) := by rw [e]; exact Qy.of_sj _ (fun x hx => (hpt x hx).1) (by simp)
 refine ⟨?_, ?_⟩
 ·
  unfold ln
  rw [if_neg (by simp [hc]), hf]
  show (if _ then _ else if (Qy.rs (stp t)).2 ≠ 0 then _ else if sg n = [43] then _ else if sg n = [45] then _ else _) = _
  rw [if_neg (by simp), a1, if_neg (by simp)]
  rcases h2 with rfl | rfl
  ·
   rfl
  ·
   rfl
 ·
  unfold Ln.noB
  rw [List.all_eq_true]
  intro c hc
  unfold line at hc
  rcases List.mem_append.1 hc with h | h
  ·
   simpa using a3 c h
  ·
   rcases List.mem_cons.1 h with rfl | h
   ·
    decide
   ·
    simpa using b2 c h
theorem lns_lines : ∀ (l : List X) (k : Nat) (out : List X), (∀ x ∈ l, ok1 x) → lns (l.map line) k out = (out ++ l, 0, 0)
 | [], k, out, _ => by show (out, (0 : Int), (0 : Int)) = _; rw [List.append_nil]
 | x :: l, k, out, h => by
  have e := (ln_line (h x (List.mem_cons_self ..))).1
  show (if (ln (line x)).2 ≠ 0 then _ else lns (l.map line) (k + 1) (out ++ (ln (line x)).1.toList)) = _
  rw [e, if_neg (by simp), lns_lines l _ _ (fun y hy => h y (List.mem_cons_of_mem _ hy))]
  simp
theorem cut_lines : ∀ (l : List X), (∀ x ∈ l, ok1 x) → Ln.cut [] (l.flatMap (fun x => line x ++ [10])) = l.map line
 | [], _ => rfl
 | x :: l, h => by
  have e := (ln_line (h x (List.mem_cons_self ..))).2
  rw [List.flatMap_cons, List.append_assoc]
  show Ln.cut [] (line x ++ 10 :: (l.flatMap (fun x => line x ++ [10]))) = _
  rw [Ln.cut_app _ _ _ e, cut_lines l (fun y hy => h y (List.mem_cons_of_mem _ hy))]
  rfl
theorem tx_len : ∀ (l : List X), (∀ x ∈ l, ok1 x) → (l.flatMap (fun x => line x ++ [10])).length ≤ 67 * l.length
 | [], _ => Nat.le_refl _
 | x :: l, h => by
  have hx := h x (List.mem_cons_self ..)
  have a := (stp_ok hx.1 hx.2.1).2.1.2.1
  have b := (sg_ok hx.2.2).2.2
  have c := tx_len l (fun y hy => h y (List.mem_cons_of_mem _ hy))
  rw [List.flatMap_cons, List.length_append, List.length_cons]
  unfold line at c ⊢
  simp only [List.length_append, List.length_cons, List.length_nil, b] at c ⊢
  omega
theorem back {l : List X} (h : right l = true) : rd (tx l).1 = (l, 0, 0) := by
 have hr := h
 unfold right at hr
 simp only [Bool.and_eq_true, decide_eq_true_eq, List.all_eq_true] at hr
 obtain ⟨⟨h1, h2⟩, -⟩ := hr
 have hl := tx_len l h2
 unfold tx
 rw [if_pos h]
 show rd (l.flatMap (fun x => line x ++ [10])) = _
 unfold rd
 rw [if_neg (by omega), cut_lines l h2, lns_lines l 0 [] h2, if_neg (by simp), List.nil_append]
 show (if right l = true then _ else _) = _
 rw [if_pos h]
end Lp
end Go.Proofs.YtifgiclnofdnkaaGreatDoor
set_option linter.unusedVariables false
set_option linter.unusedSimpArgs false
namespace Go.Proofs.YtifgiclnofdnkaaGreatDoor
open Go.RowKit Go.Sort
namespace Lp
def D0 : DataW Unit := .map []
def D1 : DataW Unit := D0.put (.string [43]) (.lit (.int .i64 1))
def D2 : DataW Unit := D1.put (.string [45]) (.lit (.int .i64 (-1)))
theorem d0_map : Maps.IsMap D0 := ⟨[], rfl⟩
theorem d1_tidy : Maps.Tidy D1 := Maps.Tidy.put (⟨[], rfl, List.Pairwise.nil⟩ : Maps.Tidy D0) (show WideAt.IsKeyLit (Lit.string [43]) from trivial) _
theorem d2_at (x : List UInt8) (z : DataW Unit) : D2.atKey (.string x) z = if x = [45] then .lit (.int .i64 (-1)) else if x = [43] then .lit (.int .i64 1) else z := by
 by_cases h : x = [45]
 ·
  subst h; rw [if_pos rfl]; exact Maps.atKey_put_same d1_tidy.isMap (show WideAt.IsKeyLit (Lit.string [45]) from trivial) _ _
 ·
  rw [if_neg h]
  show (D1.put _ _).atKey _ _ = _
  rw [Maps.atKey_put_other (fun e => h (Lit.string.inj e))]
  by_cases h2 : x = [43]
  ·
   subst h2; rw [if_pos rfl]; exact Maps.atKey_put_same d0_map (show WideAt.IsKeyLit (Lit.string [43]) from trivial) _ _
  ·
   rw [if_neg h2]
   show (D0.put _ _).atKey _ _ = _
   rw [Maps.atKey_put_other (fun e => h2 (Lit.string.inj e))]
   rfl
theorem d2_has (x : List UInt8) : Maps.has D2 (.string x) = (decide (x = [45]) || decide (x = [43])) := by
 by_cases h : x = [45]
 ·
  subst h; rw [decide_eq_true rfl, Bool.true_or]; exact Maps.has_put_same d1_tidy.isMap (show WideAt.IsKeyLit (Lit.string [45]) from trivial) _
 ·
  rw [decide_eq_false h, Bool.false_or]
  show Maps.has (D1.put _ _) _ = _
  rw [Maps.has_put_other (fun e => h (Lit.string.inj e))]
  by_cases h2 : x = [43]
  ·
   subst h2; rw [decide_eq_true rfl]; exact Maps.has_put_same d0_map (show WideAt.IsKeyLit (Lit.string [43]) from trivial) _
  ·
   rw [decide_eq_false h2]
   show Maps.has (D0.put _ _) _ = _
   rw [Maps.has_put_other (fun e => h2 (Lit.string.inj e))]
   rfl
theorem d2_one {x : List UInt8} {c : Int} (h : ∀ z, D2.atKey (.string x) z = .lit (.int .i64 c)) : (x = [43] ∧ c = 1) ∨ (x = [45] ∧ c = -1) := by
 have h1 := h (.lit (.int .i64 (c + 1)))
 rw [d2_at] at h1
 by_cases a : x = [45]
 ·
  rw [if_pos a] at h1
  have e := DataW.lit.inj h1
  injection e with e1 e2
  exact .inr ⟨a, e2.symm⟩
 ·
  rw [if_neg a] at h1
  by_cases b : x = [43]
  ·
   rw [if_pos b] at h1
   have e := DataW.lit.inj h1
   injection e with e1 e2
   exact .inl ⟨b, e2.symm⟩
  ·
   rw [if_neg b] at h1
   have e := DataW.lit.inj h1
   injection e with e1 e2
   omega
end Lp
abbrev MpI (W : World) (b n : Nat) (D : DataW Unit) : Prop := W.ownsMap Tryz.prog 9 (plainElem Tryz.prog 3) b n D
theorem mpi_on {W W' : World} {b n : Nat} {D : DataW Unit} (h : MpI W b n D) (k : Below W.heap.size W W') : MpI W' b n D := h.kept (row := none) ⟨k.os, k.tape, k.output, k.size, fun i hi _ => k.block i hi⟩ (by simp)
theorem mpi_look {W : World} {b n : Nat} (h : MpI W b n Lp.D2) (s : ByteArray) (hs : s.size ≤ maxLen) :
  (Instr.lookup 89 (.map (some b)) (.string s) true).run Tryz.prog W = .ok (.tuple #[.int .i64 (if s.data.toList = [45] then -1 else if s.data.toList = [43] then 1 else 0), .bool (decide (s.data.toList = [45]) || decide (s.data.toList = [43]))]) W := by
 obtain ⟨v, ps, hr, hv⟩ := World.ownsMap.look_ok h (Maps.string_keyed Tryz.underlying9) Tryz.underlying89 (Tryz.zeroValue3 W) (zd := .lit (.int .i64 0)) (zp := []) (plainElem_int Tryz.underlying3 (by decide)) (WideMaps.keyOf_string_mk (P := Tryz.prog) Tryz.underlying9 hs)
 obtain ⟨c, rfl, hc, -⟩ := plainElem_int_inv Tryz.underlying3 hv
 rw [hr, Lp.d2_has]
 have hz : Lp.D2.atKey (Lit.string s.data.toList) (.lit (.int .i64 0)) = .lit (.int .i64 c) := congrArg Prod.fst hc
 rw [Lp.d2_at] at hz
 have e : (if s.data.toList = [45] then (-1 : Int) else if s.data.toList = [43] then 1 else 0) = c := by
  by_cases a : s.data.toList = [45]
  ·
   rw [if_pos a] at hz ⊢
   have e := DataW.lit.inj hz
   injection e with e1 e2
  ·
   rw [if_neg a] at hz ⊢
   by_cases b : s.data.toList = [43]
   ·
    rw [if_pos b] at hz ⊢
    have e := DataW.lit.inj hz
    injection e with e1 e2
   ·
    rw [if_neg b] at hz ⊢
    have e := DataW.lit.inj hz
    injection e with e1 e2
 rw [e]
set_option maxHeartbeats 2000000 in
theorem signs_any (w : World) : Calls Tryz.prog 51 #[] w fun e w' => e = .returned (.map (some w.heap.size)) ∧ MpI w' w.heap.size 2 Lp.D2 ∧ Below w.heap.size w w' := by
 have M0 : MpI (w.alloc (.map #[] 0)) w.heap.size 0 Lp.D0 := World.ownsMap_made w _ _ _
 have B0 : Below w.heap.size w (w.alloc (.map #[] 0)) := (Below.refl _ _).alloc (Nat.le_refl _) _
 have MKM : ∀ W, (Instr.makeMap 89 none).run Tryz.prog W = .ok (.map (some W.heap.size)) (W.alloc (.map #[] 0)) := fun W => run_makeMap _ W
 obtain ⟨w1, hr1, M1, g1⟩ := World.ownsMap.update M0 (Maps.string_keyed Tryz.underlying9) Tryz.underlying89 (by unfold maxLen; omega) (key := .string ⟨#[43]⟩) (val := .int .i64 1)
  (WideMaps.keyOf_string_mk (P := Tryz.prog) Tryz.underlying9 (by decide)) (plainElem_int Tryz.underlying3 (by decide))
 have B1 : Below w.heap.size w w1 := B0.trans ⟨g1.os, g1.tape, g1.output, g1.size, fun i hi => g1.block i (by simp; omega) (fun e => by injection e with e; omega)⟩
 obtain ⟨w2, hr2, M2, g2⟩ := World.ownsMap.update M1 (Maps.string_keyed Tryz.underlying9) Tryz.underlying89 (by unfold maxLen; omega) (key := .string ⟨#[45]⟩) (val := .int .i64 (-1))
  (WideMaps.keyOf_string_mk (P := Tryz.prog) Tryz.underlying9 (by decide)) (plainElem_int Tryz.underlying3 (by decide))
 have B2 := Lib.hid (B1.trans (⟨g2.os, g2.tape, g2.output, g2.size, fun i hi => g2.block i (by have := B1.size; omega) (fun e => by injection e with e; omega)⟩ : Below w.heap.size w1 w2))
 have M2 := Lib.hid (show MpI w2 w.heap.size 2 Lp.D2 from M2)
 clear M0 B0 M1 g1 B1 g2
 go_enter Tryz.func51, Tryz.ntmps51
 go_wp2
 go_ret
 exact ⟨rfl, M2.out, B2.out⟩
theorem strkey_inv {key : Value} {kl : Lit} (h : keyOf Tryz.prog 9 key = some kl) : ∃ s : ByteArray, key = .string s := by
 cases key <;> simp [keyOf, Tryz.underlying9, mapKey] at h
 exact ⟨_, rfl⟩
set_option maxHeartbeats 2000000 in
set_option maxRecDepth 100000 in
theorem lsign_any (s : Int) (w : World) : Calls Tryz.prog 26 #[.int .i64 s] w fun e w' => e = .returned (.string ⟨(Lp.sg s).toArray⟩) ∧ Below w.heap.size w w' := by
 obtain ⟨ans, hans⟩ : ∃ a : ByteArray, a = ⟨(Lp.sg s).toArray⟩ := ⟨_, rfl⟩
 rw [← hans]
 have HA := Lib.hid hans
 clear hans
 go_enter Tryz.func26, Tryz.ntmps26
 go_wp2_with fail
 refine (signs_any _).mono ?_; rintro e w1 ⟨rfl, M1, b1⟩
 have B1 := Lib.hid b1
 have hlt := M1.lt
 generalize hb : w.heap.size = b at M1 hlt ⊢
 have HB := Lib.hid hb
 clear b1
 go_wp2_with (first
  | (at_range; refine wpList_range_own _ rfl _ 89 rfl 9 3 (Maps.string_keyed Tryz.underlying9) Tryz.underlying89 _ b 2 _ rfl M1 ?_; intro w2 hrg0 hg0 hs0)
  | fail)
 have B2 := Lib.hid (show Below w.heap.size w w2 from B1.out.trans ⟨hg0.os, hg0.tape, hg0.output, hg0.size, fun i hi => hg0.block i (by have := HB.out; omega) (by simp)⟩)
 go_frame
 generalize hr : w1.heap.size = r at hrg0 hlt hs0 ⊢
 clear M1 hg0 hs0
 have HR := Lib.hid hr
 go_loopw [4] (fun _ wr => ∃ (left : Lit → Bool) (cnt : Nat), wr.ranges Tryz.prog 9 (plainElem Tryz.prog 3) b r 2 Lp.D2 left cnt ∧ Hid ((left (.string [43]) = false → s ≠ 1) ∧ (left (.string [45]) = false → s ≠ -1)) ∧ Hid (Below w.heap.size w wr)) (fun _ wr => wr.rangeLeft b r)
 case atStart => exact ⟨_, _, hrg0, Lib.hid ⟨fun h => by rw [Lp.d2_has] at h; simp at h, fun h => by rw [Lp.d2_has] at h; simp at h⟩, B2⟩
 case round =>
  obtain ⟨left, cnt, hrg, hN, hB⟩ := hrel
  go_wp2_with (first
   | (at_next; refine wpList_next_ranges _ rfl _ rfl 9 (Maps.string_keyed Tryz.underlying9) (plainElem Tryz.prog 3) Value.string (Value.int .i64) (fun key kl h => strkey_inv h) (fun v y h => by obtain ⟨c, rfl, _⟩ := plainElem_int_inv Tryz.underlying3 h; exact ⟨c, rfl⟩) b r 2 _ _ _ rfl hrg ?_ ?_)
   | fail)
  ·
   intro hc0 hl0
   have EX := Lib.hid (show (⟨#[]⟩ : ByteArray) = ans from by
    rw [HA.out]
    unfold Lp.sg
    rw [if_neg (hN.out.1 (hl0 _)), if_neg (hN.out.2 (hl0 _))])
   clear hc0 hl0 hrg hN
   go_wp2
   go_ret
   exact ⟨by rw [← EX.out]; rfl, hB.out⟩
  ·
   intro x c kl d ps w3 cnt1 hkey hlx hv hat hrg1 hlt1 hg1 hs1 hen
   have B3 := Lib.hid (show Below w.heap.size w w3 from hB.out.trans ⟨hg1.os, hg1.tape, hg1.output, hg1.size, fun i hi => hg1.block i (by have := hB.out.size; omega) (fun e => by injection e with e; have h1 := HR.out; have h2 := HB.out; omega)⟩)
   obtain ⟨c', hc', hy, -⟩ := plainElem_int_inv Tryz.underlying3 hv
   injection hc' with _ hc'
   subst hc'
   have hd : d = .lit (.int .i64 c) := congrArg Prod.fst hy
   subst hd
   clear hy
   have hkl : kl = .string x.data.toList := by
    simp only [keyOf, Tryz.underlying9, mapKey] at hkey
    split at hkey
    ·
     injection hkey with e; exact e.symm
    ·
     first | cases hkey | (injection hkey with e; exact e.symm)
   subst hkl
   have one := Lib.hid (Lp.d2_one hat)
   have NX := Lib.hid (show c ≠ s → ((left (.string [43]) && !(Lit.string [43]).sameKey (.string x.data.toList)) = false → s ≠ 1) ∧ ((left (.string [45]) && !(Lit.string [45]).sameKey (.string x.data.toList)) = false → s ≠ -1) from fun hc => by
    rcases one.out with ⟨e1, e2⟩ | ⟨e1, e2⟩
    ·
     rw [e1]
     refine ⟨fun _ => fun e => hc (by omega), fun h => hN.out.2 ?_⟩
     rw [show (Lit.string [45]).sameKey (.string [43]) = false by decide, Bool.not_false, Bool.and_true] at h
     exact h
    ·
     rw [e1]
     refine ⟨fun h => hN.out.1 ?_, fun _ => fun e => hc (by omega)⟩
     rw [show (Lit.string [43]).sameKey (.string [45]) = false by decide, Bool.not_false, Bool.and_true] at h
     exact h)
   clear hkey hlx hv hat hg1 hs1
   by_cases hcs : c = s
   ·
    have EX := Lib.hid (show x = ans from by
     have hx : x.data.toList = Lp.sg s := by
      rcases one.out with ⟨e1, e2⟩ | ⟨e1, e2⟩
      ·
       rw [e1, ← hcs, e2]; rfl
      ·
       rw [e1, ← hcs, e2]; rfl
     rw [HA.out, ← hx])
    clear NX one hrg hrg1
    go_wp2
    go_ret
    exact ⟨by rw [← EX.out]; rfl, by first | exact B3.out | exact HB.out ▸ B3.out⟩
   ·
    have NX2 := Lib.hid (NX.out hcs)
    clear NX one
    go_wp2
    go_roundw
    case rel => exact ⟨_, cnt1, hrg1, NX2, B3⟩
    case measure => rw [hrg1.left_eq, hrg.left_eq]; exact hlt1
end Go.Proofs.YtifgiclnofdnkaaGreatDoor

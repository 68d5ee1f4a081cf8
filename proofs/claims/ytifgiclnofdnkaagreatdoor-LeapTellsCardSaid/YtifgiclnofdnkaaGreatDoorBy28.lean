/- Joined: QyA, FdG, FdH. -/
import Derived.Test.YtifgiclnofdnkaaGreatDoorBy01
import Derived.Test.YtifgiclnofdnkaaGreatDoorBy21
import Derived.Test.YtifgiclnofdnkaaGreatDoorBy27
import Derived.Test.YtifgiclnofdnkaaGreatDoorBy24
import Derived.Test.YtifgiclnofdnkaaGreatDoorBy14
import Derived.Lib.IndexMore
import Derived.Lib.IndexBytes
import Derived.Shelf.Strings.Search1
set_option linter.unusedVariables false
set_option linter.unusedSimpArgs false
namespace Go.Proofs.YtifgiclnofdnkaaGreatDoor
open Go.RowKit Go.Sort
theorem muststamp_yes (a b c d f g : Int) (w : World) : Calls Tryz.prog 63 #[.agg #[.int .i64 a, .int .i64 b, .int .i64 c, .int .i64 d, .int .i64 f, .int .i64 g], .int .i64 0] w fun e w' => e = .returned (.agg #[.int .i64 a, .int .i64 b, .int .i64 c, .int .i64 d, .int .i64 f, .int .i64 g]) ∧ Below w.heap.size w w' := by
  go_enter Tryz.func63, Tryz.ntmps63
  go_wp2_with fail
  refine (for_yes _).mono ?_; rintro e w1 ⟨rfl, rfl⟩
  go_wp2_with fail
  refine bodyPost_ret (v := .agg #[.int .i64 a, .int .i64 b, .int .i64 c, .int .i64 d, .int .i64 f, .int .i64 g]) (by simp [results, Tryz.results63, go_sem]) rfl ⟨rfl, gr0⟩
theorem muststamp_no (a b c d f g why : Int) (w : World) (h : why ≠ 0) : Calls Tryz.prog 63 #[.agg #[.int .i64 a, .int .i64 b, .int .i64 c, .int .i64 d, .int .i64 f, .int .i64 g], .int .i64 why] w fun e w' => e = .panicked (gvP why) ∧ Below w.heap.size w w' := by
  go_enter Tryz.func63, Tryz.ntmps63
  go_wp2_with fail
  refine (for_no why _ h).mono ?_; rintro e w1 ⟨rfl, rfl⟩
  refine (show bodyPost _ _ _ (Exit.panic (gvP why)) _ _ from ?_)
  simp only [bodyPost]
  refine ⟨trivial, trivial, ?_⟩
  exact gr0
namespace Fd
theorem fi_tw (Q : UInt8 → Bool) : ∀ (l : List UInt8) (k : Int), (l.any Q = true → fi Q l k = k + ((l.takeWhile (fun c => !Q c)).length : Nat)) ∧ (l.any Q = false → fi Q l k = -1)
 | [], k => ⟨fun h => (by cases h), fun _ => rfl⟩
 | c :: t, k => by
  have ih := fi_tw Q t (k + 1)
  unfold fi
  rw [List.any_cons]
  cases hq : Q c
  ·
   rw [if_neg (by decide), Bool.false_or, List.takeWhile_cons, if_pos (by rw [hq]; rfl)]
   refine ⟨fun h => ?_, ih.2⟩
   rw [ih.1 h, List.length_cons]; omega
  ·
   rw [if_pos rfl, List.takeWhile_cons, if_neg (by rw [hq]; decide)]
   refine ⟨fun _ => by simp, fun h => by cases h⟩
theorem tw_take (p : UInt8 → Bool) (l : List UInt8) : l.take (l.takeWhile p).length = l.takeWhile p := by
 conv => lhs; rw [← List.takeWhile_append_dropWhile (p := p) (l := l)]
 rw [List.takeWhile_append_dropWhile]
 induction l with
 | nil => rfl
 | cons c t ih =>
  rw [List.takeWhile_cons]
  cases h : p c
  ·
   rfl
  ·
   simp only [if_true, List.length_cons, List.take_succ_cons, ih]
theorem tw_drop (p : UInt8 → Bool) (l : List UInt8) : l.drop (l.takeWhile p).length = l.dropWhile p := by
 induction l with
 | nil => rfl
 | cons c t ih =>
  rw [List.takeWhile_cons, List.dropWhile_cons]
  cases h : p c
  ·
   rfl
  ·
   simp only [if_true, List.length_cons, List.drop_succ_cons, ih]
theorem tw_none (p : UInt8 → Bool) (l : List UInt8) (h : l.any (fun c => !p c) = false) : l.dropWhile p = [] := by
 induction l with
 | nil => rfl
 | cons c t ih =>
  rw [List.any_cons, Bool.or_eq_false_iff] at h
  rw [List.dropWhile_cons, if_pos (by simpa using h.1), ih h.2]
def pw (l : List UInt8) : List UInt8 := l.takeWhile (fun c => !mkB c)
def qw (l : List UInt8) : List UInt8 := l.dropWhile (fun c => !mkB c)
theorem pw_qw (l : List UInt8) : pw l ++ qw l = l := List.takeWhile_append_dropWhile
theorem pw_no : ∀ l : List UInt8, ∀ c ∈ pw l, mkB c = false
 | [], c, h => by cases h
 | x :: t, c, h => by
  unfold pw at h
  rw [List.takeWhile_cons] at h
  cases hx : mkB x
  ·
   rw [if_pos (by rw [hx]; rfl)] at h
   rcases List.mem_cons.1 h with rfl | h
   ·
    exact hx
   ·
    exact pw_no t c h
  ·
   rw [if_neg (by rw [hx]; decide)] at h; cases h
theorem qw_head : ∀ (l : List UInt8) (c : UInt8) (r : List UInt8), qw l = c :: r → mkB c = true
 | [], c, r, h => by cases h
 | x :: t, c, r, h => by
  unfold qw at h
  rw [List.dropWhile_cons] at h
  cases hx : mkB x
  ·
   rw [if_pos (by rw [hx]; rfl)] at h
   exact qw_head t c r h
  ·
   rw [if_neg (by rw [hx]; decide)] at h
   injection h with h1 _
   rw [← h1]; exact hx
theorem fl_pw (f l : List UInt8) : fl f false l = fl (f ++ pw l) false (qw l) := by
 conv => lhs; rw [← pw_qw l]
 exact fl_plain (qw l) (pw l) f (pw_no l)
theorem mark_at (s : ByteArray) : (0 ≤ Lib.idxFunc isK true s ∧ ∃ k : Nat, Lib.idxFunc isK true s = k ∧ k ≤ s.size ∧ s.data.toList.take k = pw s.data.toList ∧ s.data.toList.drop k = qw s.data.toList) ∨ (Lib.idxFunc isK true s = -1 ∧ pw s.data.toList = s.data.toList ∧ qw s.data.toList = []) := by
 rw [idx_mark]
 have h := fi_tw (fun c => isK c.toNat) s.data.toList 0
 cases ha : s.data.toList.any (fun c => isK c.toNat)
 ·
  right
  refine ⟨h.2 ha, ?_, ?_⟩
  ·
   have e := pw_qw s.data.toList
   have e2 : qw s.data.toList = [] := tw_none (fun c => !mkB c) _ (by simpa [mkB] using ha)
   rw [e2, List.append_nil] at e; exact e
  ·
   exact tw_none (fun c => !mkB c) _ (by simpa [mkB] using ha)
 ·
  left
  have h1 := h.1 ha
  have hle : (s.data.toList.takeWhile (fun c => !isK c.toNat)).length ≤ s.size := by
   rw [← fd_len]; exact (List.takeWhile_prefix _).length_le
  refine ⟨by omega, _, (by rw [h1]; omega), hle, tw_take _ _, tw_drop _ _⟩
theorem trim_dw (s : ByteArray) : (Lib.trimLeftF isW s).data.toList = dw s.data.toList := by
 unfold Lib.trimLeftF
 rw [idx_blank]
 have h := fi_tw (fun c => !isW c.toNat) s.data.toList 0
 have e : (fun c : UInt8 => !(!isW c.toNat)) = fun c => isW c.toNat := by funext c; simp
 rw [e] at h
 cases ha : s.data.toList.any (fun c => !isW c.toNat)
 ·
  rw [if_pos (h.2 ha)]
  exact (tw_none (fun c => isW c.toNat) _ ha).symm
 ·
  have h1 := h.1 ha
  rw [if_neg (by rw [h1]; omega), fd_ext, h1, List.take_of_length_le (by rw [fd_len]; exact Nat.le_refl _)]
  rw [show ((0 : Int) + ((s.data.toList.takeWhile (fun c => isW c.toNat)).length : Nat)).toNat = (s.data.toList.takeWhile (fun c => isW c.toNat)).length by omega]
  exact tw_drop _ _
theorem ib_34 : ∀ l : List UInt8, (Lib.indexByte l 34 = -1 ∧ ∀ c ∈ l, c ≠ 34) ∨ ∃ k : Nat, Lib.indexByte l 34 = k ∧ k < l.length ∧ (∀ c ∈ l.take k, c ≠ 34) ∧ l.drop k = 34 :: l.drop (k + 1)
 | [] => .inl ⟨by rw [← Lib.index_one]; rfl, fun c h => by cases h⟩
 | x :: t => by
  have e : Lib.indexByte (x :: t) 34 = if (34 == x) = true then 0 else if Lib.indexByte t 34 == -1 then -1 else Lib.indexByte t 34 + 1 := by
   rw [← Lib.index_one, ← Lib.index_one]
   conv => lhs; unfold Lib.index
   rw [show ([34] : List UInt8).isPrefixOf (x :: t) = (34 == x) by rw [List.isPrefixOf, List.isPrefixOf, Bool.and_true]]
  rw [e]
  by_cases hx : x = 34
  ·
   subst hx
   right
   exact ⟨0, rfl, by simp, fun c h => by simp at h, rfl⟩
  ·
   have h1 : ((34 : UInt8) == x) = false := by rw [beq_eq_false_iff_ne]; exact fun h => hx h.symm
   rw [if_neg (by rw [h1]; decide)]
   rcases ib_34 t with ⟨hm, hn⟩ | ⟨k, hk, hlt, hb, hd⟩
   ·
    left
    rw [hm]
    refine ⟨rfl, fun c h => ?_⟩
    rcases List.mem_cons.1 h with rfl | h
    ·
     exact hx
    ·
     exact hn c h
   ·
    right
    have h2 : ((k : Int) == -1) = false := by rw [beq_eq_false_iff_ne]; omega
    rw [hk, h2, if_neg (by decide)]
    refine ⟨k + 1, by omega, by simp; omega, fun c h => ?_, ?_⟩
    ·
     rw [List.take_succ_cons] at h
     rcases List.mem_cons.1 h with rfl | h
     ·
      exact hx
     ·
      exact hb c h
    ·
     rw [List.drop_succ_cons, List.drop_succ_cons]; exact hd
end Fd
theorem grown_of {w w' : World} (h : Below w.heap.size w w') (r : Option Nat) : w.grownBy w' r := ⟨h.os, h.tape, h.output, h.size, fun i hi _ => h.block i hi⟩
theorem grown_refl (w : World) (r : Option Nat) : w.grownBy w r := ⟨rfl, rfl, rfl, Nat.le_refl _, fun _ _ _ => rfl⟩
theorem grown_trans {w w1 w2 : World} {r : Option Nat} (h : w.grownBy w1 r) (k : w1.grownBy w2 r) : w.grownBy w2 r :=
 ⟨k.os.trans h.os, k.tape.trans h.tape, k.output.trans h.output, Nat.le_trans h.size k.size, fun i hi hr => (k.block i (Nat.lt_of_lt_of_le hi h.size) hr).trans (h.block i hi hr)⟩
theorem grown_set (w : World) (c : Nat) (v : Value) : w.grownBy (w.setCell ⟨c, 0, none⟩ v) (some c) :=
 ⟨rfl, rfl, rfl, by simp [World.setCell], fun k hk hr => by
  have : c ≠ k := fun e => hr (by rw [e])
  simp [World.setCell, Array.getElem?_modify, this]⟩
theorem grown_at {w w' : World} {c : Nat} (h : w.grownBy w' (some c)) (hc : c ≤ w.heap.size) : Below c w w' := ⟨h.os, h.tape, h.output, h.size, fun i hi => h.block i (by omega) (fun e => by injection e with e; omega)⟩
theorem bat_by {T e : TypeId} {B b c : Nat} {p : Value} {bs : List Value} {W W' : World} (h : Lib.BuilderAtF T e B b p bs W) (k : W.grownBy W' (some c)) (hc : c < B) (hBb : B ≤ b) : Lib.BuilderAtF T e B b p bs W' := by
 have hlt := h.lt
 obtain ⟨hB, v, hb, hown, hne⟩ := h
 refine ⟨hB, v, (k.block b hlt (fun e => by injection e with e; omega)).trans hb, ⟨hown.1, ?_⟩, hne⟩
 rcases hown.2 with h2 | ⟨g, cap, cur, fz, hv, hbg, hg, rest⟩
 ·
  exact .inl h2
 ·
  have hglt : g < W.heap.size := (Array.getElem?_eq_some_iff.1 hg).1
  exact .inr ⟨g, cap, cur, fz, hv, hbg, (k.block g hglt (fun e => by injection e with e; omega)).trans hg, rest⟩
theorem IsB.by_ {b c : Nat} {l : List UInt8} {W W' : World} (h : IsB b l W) (k : W.grownBy W' (some c)) (hc : c < b) : IsB b l W' :=
 h.elim (fun x => .inl (bat_by x k hc (Nat.le_refl _))) (fun x => .inr (bat_by x k hc (Nat.le_refl _)))
set_option maxRecDepth 100000 in
theorem index34 (s : ByteArray) (w : World) :
  Calls Tryz.prog 131 #[.string s, .string ⟨#[34]⟩] w fun e w' => e = .returned (.int .i64 (Lib.indexByte s.data.toList 34)) ∧ w' = w := by
 have C := Lib.hid (fun W => Any.stringslite_IndexByte Tryz.lays217 s 34 W)
 have C : Hid (∀ W, Calls Tryz.prog 137 #[.string s, .int .u8 34] W fun e w' => e = .returned (.int .i64 (Lib.indexByte s.data.toList 34)) ∧ w' = W) := C
 by_cases h : s = ⟨#[34]⟩
 ·
  subst h
  clear C
  go_enter Tryz.func131, Tryz.ntmps131
  go_wp2_with fail
  go_ret
  exact ⟨rfl, rfl⟩
 ·
  have h1 : ¬ (⟨#[34]⟩ : ByteArray).toList = s.toList := fun e => h (by rw [ByteArray.toList_eq, ByteArray.toList_eq] at e; exact (ByteArray.ext (Array.toList_inj.1 e)).symm)
  rw [show (⟨#[34]⟩ : ByteArray).toList = [34] by decide +kernel] at h1
  have h2 : (([34] : List UInt8) == s.toList) = false := by rw [beq_eq_false_iff_ne]; exact h1
  clear h
  go_enter Tryz.func131, Tryz.ntmps131
  go_wp2_with fail
  refine (C.out _).mono ?_; rintro e w1 ⟨rfl, rfl⟩
  go_wp2_with fail
  go_ret
  exact ⟨rfl, rfl⟩
theorem cut_steps (s : ByteArray) (k : Nat) (h : k ≤ s.size) : (∀ W, Sem.run Tryz.prog (Instr.slice 9 (.string s) none (some (.int .i64 (k : Int))) none) W = .ok (.string (s.extract 0 k)) W) ∧ (∀ W, Sem.run Tryz.prog (Instr.slice 9 (.string s) (some (.int .i64 (k : Int))) none none) W = .ok (.string (s.extract k s.size)) W) := by
 refine ⟨fun W => ?_, fun W => ?_⟩
 ·
  simp [go_sem, Tryz.underlying9]
  try omega
 ·
  simp [go_sem, Tryz.underlying9]; omega
theorem ext_eq (s : ByteArray) (l : List UInt8) (k : Nat) (h : s.data.toList.take k = l) : s.extract 0 k = ⟨l.toArray⟩ := by
 apply ByteArray.ext; apply Array.toList_inj.1
 rw [fd_ext, h] <;> simp
theorem ext_eq2 (s : ByteArray) (l : List UInt8) (k : Nat) (h : s.data.toList.drop k = l) : s.extract k s.size = ⟨l.toArray⟩ := by
 apply ByteArray.ext; apply Array.toList_inj.1
 rw [fd_ext, List.take_of_length_le (by rw [fd_len]; exact Nat.le_refl _), h] <;> simp
set_option maxRecDepth 100000 in
theorem slcut_no (s : ByteArray) (w : World) (h : Lib.indexByte s.data.toList 34 = -1) :
  Calls Tryz.prog 153 #[.string s, .string ⟨#[34]⟩] w fun e w' => e = .returned (.tuple #[.string s, .string ⟨#[]⟩, .bool false]) ∧ w' = w := by
 have C := Lib.hid (fun W => index34 s W)
 rw [h] at C
 clear h
 go_enter Tryz.func153, Tryz.ntmps153
 go_wp2_with fail
 refine (C.out _).mono ?_; rintro e w1 ⟨rfl, rfl⟩
 go_wp2_with fail
 go_ret3
 exact ⟨rfl, rfl⟩
set_option maxRecDepth 100000 in
theorem slcut_yes (s : ByteArray) (w : World) (k : Nat) (h : Lib.indexByte s.data.toList 34 = k) (hk : k < s.size) (hs : s.size ≤ 1000000000) :
  Calls Tryz.prog 153 #[.string s, .string ⟨#[34]⟩] w fun e w' => e = .returned (.tuple #[.string ⟨(s.data.toList.take k).toArray⟩, .string ⟨(s.data.toList.drop (k + 1)).toArray⟩, .bool true]) ∧ ∃ n, w' = w.drewN n := by
 have C := Lib.hid (fun W => index34 s W)
 rw [h] at C
 have S1 := (cut_steps s k (by omega)).1
 have S2 := (cut_steps s (k + 1) (by omega)).2
 rw [ext_eq s _ k rfl] at S1
 rw [ext_eq2 s _ (k + 1) rfl] at S2
 generalize s.data.toList.take k = X1 at S1 ⊢
 generalize s.data.toList.drop (k + 1) = X2 at S2 ⊢
 have S2 : ∀ W, Sem.run Tryz.prog (Instr.slice 9 (.string s) (some (.int .i64 ((k : Int) + 1))) none none) W = .ok (.string ⟨X2.toArray⟩) W := S2
 have g0 : (0 : Int) ≤ (k : Int) := by omega
 have hkb : (k : Int) ≤ 1000000000 := by omega
 clear h
 go_enter Tryz.func153, Tryz.ntmps153
 go_wp2_with fail
 refine (C.out _).mono ?_; rintro e w1 ⟨rfl, rfl⟩
 go_wp2_with fail
 go_quiet (fail)
 go_wp2_with fail
 go_ret3
 exact ⟨rfl, _, rfl⟩
theorem cut_no (s : ByteArray) (w : World) (h : Lib.indexByte s.data.toList 34 = -1) :
  Calls Tryz.prog 144 #[.string s, .string ⟨#[34]⟩] w fun e w' => e = .returned (.tuple #[.string s, .string ⟨#[]⟩, .bool false]) ∧ ∃ n, w' = w.drewN n := by
 have C := Lib.hid (fun W => slcut_no s W h)
 clear h
 go_enter Tryz.func144, Tryz.ntmps144
 go_wp2_with fail
 refine (C.out _).mono ?_; rintro e w1 ⟨rfl, rfl⟩
 go_wp2_with fail
 go_ret3
 exact ⟨rfl, 0, rfl⟩
theorem cut_yes (s : ByteArray) (w : World) (k : Nat) (h : Lib.indexByte s.data.toList 34 = k) (hk : k < s.size) (hs : s.size ≤ 1000000000) :
  Calls Tryz.prog 144 #[.string s, .string ⟨#[34]⟩] w fun e w' => e = .returned (.tuple #[.string ⟨(s.data.toList.take k).toArray⟩, .string ⟨(s.data.toList.drop (k + 1)).toArray⟩, .bool true]) ∧ ∃ n, w' = w.drewN n := by
 have C := Lib.hid (fun W => slcut_yes s W k h hk hs)
 clear h
 generalize s.data.toList.take k = X1 at C ⊢
 generalize s.data.toList.drop (k + 1) = X2 at C ⊢
 go_enter Tryz.func144, Tryz.ntmps144
 go_wp2_with fail
 refine (C.out _).mono ?_; rintro e w1 ⟨rfl, n, rfl⟩
 go_wp2_with fail
 go_ret3
 exact ⟨rfl, n, rfl⟩
namespace Fd
def bgn : List UInt8 → Bool
 | [] => false
 | c :: _ => !(decide (c = 35))
end Fd
theorem trimBlank (s : ByteArray) (w : World) :
  Calls Tryz.prog 133 #[.string s, .func (.func 103) #[] #[]] w fun e w' => e = .returned (.string ⟨(Fd.dw s.data.toList).toArray⟩) ∧ Below w.heap.size w w' := by
 have e : Lib.trimLeftF Fd.isW s = ⟨(Fd.dw s.data.toList).toArray⟩ := by
  apply ByteArray.ext; apply Array.toList_inj.1; rw [Fd.trim_dw] <;> simp
 rw [← e]
 exact (Any.strings_TrimLeftFunc Tryz.lays272 103 #[] (enters_of Tryz.func103 (by kernel_rfl) rfl) Fd.isW s w (isBlank_at w)).mono fun _ _ ⟨a, h⟩ => ⟨a, h⟩
theorem indexMark (s : ByteArray) (w : World) :
  Calls Tryz.prog 102 #[.string s, .func (.func 77) #[] #[]] w fun e w' => e = .returned (.int .i64 (Lib.idxFunc Fd.isK true s)) ∧ Below w.heap.size w w' :=
 (Any.strings_IndexFunc Tryz.laysGw15 77 #[] (enters_of Tryz.func77 (by kernel_rfl) rfl) Fd.isK s w (isMark_at w)).mono fun _ _ ⟨a, h⟩ => ⟨a, h⟩
theorem bk1_set {W : World} {b : Nat} {v : Value} (h : Bk1 W b v) (u : Value) : Bk1 (W.setCell ⟨b, 0, none⟩ u) b u :=
 ⟨by have := h.hb; simpa [World.setCell] using this, fun j => by have := h.fz j; simpa [go_sem] using this, by have := h.k0; simp [go_sem, this]⟩
set_option maxHeartbeats 1000000 in
set_option maxRecDepth 100000 in
theorem fdbegins_any (b : Nat) (s : ByteArray) (w : World) (H : Bk1 w b (.string s)) :
  Calls Tryz.prog 115 #[.pointer (some ⟨b, 0, none⟩)] w fun e w' => e = .returned (.bool (Fd.bgn (Fd.dw s.data.toList))) ∧ Bk1 w' b (.string ⟨(Fd.dw s.data.toList).toArray⟩) ∧ w.grownBy w' (some b) := by
 have C := Lib.hid (fun W => trimBlank s W)
 have HH := Lib.hid H
 have c_b := H.hb; have c_f := H.fz; have c_0 := H.k0
 clear H
 generalize Fd.dw s.data.toList = l at C ⊢
 cases l with
 | nil =>
  go_enter Tryz.func115, Tryz.ntmps115
  go_wp2_with fail
  refine (C.out _).mono ?_; rintro e w1 ⟨rfl, b1⟩
  have K1 := HH.out.keep b1
  have G1 := Lib.hid (grown_of b1 (some b))
  have KK := Lib.hid K1
  have d_b := K1.hb; have d_f := K1.fz; have d_0 := K1.k0
  clear c_b c_f c_0 b1 K1
  go_wp2_with fail
  go_ret
  exact ⟨rfl, bk1_set KK.out _, grown_trans G1.out (grown_set _ _ _)⟩
 | cons c r =>
  obtain ⟨T, hT⟩ : ∃ T : ByteArray, T = ⟨(c :: r).toArray⟩ := ⟨_, rfl⟩
  rw [← hT] at C ⊢
  have hz : 0 < T.size := by rw [hT]; show 0 < (c :: r).toArray.size; simp
  have IX := fun W => fd_ix T 0 hz W
  have hc : T[0] = c := by subst hT; rfl
  rw [hc] at IX
  obtain ⟨n1, n2⟩ := fd_ne hz
  have hb : ((c.toNat : Int) == 35) = decide (c = 35) := by
   rw [Bool.eq_iff_iff, beq_iff_eq, decide_eq_true_eq]
   constructor
   ·
    intro h; exact UInt8.toNat_inj.1 (by rw [show (35 : UInt8).toNat = 35 from rfl]; omega)
   ·
    rintro rfl; rfl
  have hb2 : ((c.toNat : Int) != 35) = !decide (c = 35) := by unfold bne; rw [hb]
  have hbg : Fd.bgn (c :: r) = !decide (c = 35) := rfl
  rw [hbg]
  have IX : ∀ W, Sem.run Tryz.prog (Instr.index 9 (.string T) (.int .i64 0)) W = .ok (.int .u8 c.toNat) W := IX
  generalize decide (c = 35) = q at hb hb2 ⊢
  generalize (c.toNat : Int) = C0 at IX hb hb2
  clear hT hc hbg
  cases q
  all_goals
   go_enter Tryz.func115, Tryz.ntmps115
   go_wp2_with fail
   refine (C.out _).mono ?_; rintro e w1 ⟨rfl, b1⟩
   have K1 := HH.out.keep b1
   have G1 := Lib.hid (grown_of b1 (some b))
   have KK := Lib.hid K1
   have d_b := K1.hb; have d_f := K1.fz; have d_0 := K1.k0
   clear c_b c_f c_0 b1 K1
   go_wp2_with fail
   go_ret
   exact ⟨rfl, bk1_set KK.out _, grown_trans G1.out (grown_set _ _ _)⟩
set_option maxHeartbeats 1000000 in
set_option maxRecDepth 100000 in
theorem plain_any (b : Nat) (s : ByteArray) (w : World) (H : Bk1 w b (.string s)) (hs : s.size ≤ 1000000000) :
  Calls Tryz.prog 134 #[.pointer (some ⟨b, 0, none⟩)] w fun e w' => e = .returned (.string ⟨(Fd.pw s.data.toList).toArray⟩) ∧ Bk1 w' b (.string ⟨(Fd.qw s.data.toList).toArray⟩) ∧ w.grownBy w' (some b) := by
 have C := Lib.hid (fun W => indexMark s W)
 have HH := Lib.hid H
 have c_b := H.hb; have c_f := H.fz; have c_0 := H.k0
 clear H
 rcases Fd.mark_at s with ⟨h0, k, hk, hks, h1, h2⟩ | ⟨h0, h1, h2⟩
 ·
  have S1 := (cut_steps s k hks).1
  have S2 := (cut_steps s k hks).2
  rw [ext_eq s _ k h1] at S1
  rw [ext_eq2 s _ k h2] at S2
  rw [hk] at C
  generalize Fd.pw s.data.toList = X1 at S1 ⊢
  generalize Fd.qw s.data.toList = X2 at S2 ⊢
  have g0 : ¬ (k : Int) < 0 := by omega
  have hkb : (k : Int) ≤ 1000000000 := by omega
  clear h0 hk h1 h2
  go_enter Tryz.func134, Tryz.ntmps134
  go_wp2_with fail
  refine (C.out _).mono ?_; rintro e w1 ⟨rfl, b1⟩
  have K1 := HH.out.keep b1
  have G1 := Lib.hid (grown_of b1 (some b))
  have KK := Lib.hid K1
  have d_b := K1.hb; have d_f := K1.fz; have d_0 := K1.k0
  clear c_b c_f c_0 b1 K1
  go_wp2_with fail
  go_ret
  exact ⟨rfl, bk1_set KK.out _, grown_trans G1.out (grown_set _ _ _)⟩
 ·
  have S1 := (cut_steps s s.size (Nat.le_refl _)).1
  have S2 := (cut_steps s s.size (Nat.le_refl _)).2
  rw [ext_eq s _ s.size (List.take_of_length_le (by rw [fd_len]; exact Nat.le_refl _))] at S1
  rw [ext_eq2 s _ s.size (List.drop_of_length_le (by rw [fd_len]; exact Nat.le_refl _))] at S2
  rw [h0] at C
  rw [h1, h2]
  generalize s.data.toList = X1 at S1 ⊢
  have hkb : (s.size : Int) ≤ 1000000000 := by omega
  clear h0 h1 h2
  go_enter Tryz.func134, Tryz.ntmps134
  go_wp2_with fail
  refine (C.out _).mono ?_; rintro e w1 ⟨rfl, b1⟩
  have K1 := HH.out.keep b1
  have G1 := Lib.hid (grown_of b1 (some b))
  have KK := Lib.hid K1
  have d_b := K1.hb; have d_f := K1.fz; have d_0 := K1.k0
  clear c_b c_f c_0 b1 K1
  go_wp2_with fail
  go_ret
  exact ⟨rfl, bk1_set KK.out _, grown_trans G1.out (grown_set _ _ _)⟩
theorem bk1_drew {W : World} {b : Nat} {v : Value} (h : Bk1 W b v) (n : Nat) : Bk1 (W.drewN n) b v := ⟨h.hb, h.fz, h.k0⟩
theorem grown_drew (w : World) (n : Nat) (r : Option Nat) : w.grownBy (w.drewN n) r := grown_of (below_draw _ _) r
set_option maxHeartbeats 1000000 in
set_option maxRecDepth 100000 in
theorem quoted_yes (b : Nat) (r x u : List UInt8) (w : World) (H : Bk1 w b (.string ⟨(34 :: r).toArray⟩)) (k : Nat) (hi : Lib.indexByte r 34 = k) (hk : k < r.length) (hx : r.take k = x) (hu : r.drop (k + 1) = u) (hs : r.length ≤ 100000000) :
  Calls Tryz.prog 135 #[.pointer (some ⟨b, 0, none⟩)] w fun e w' => e = .returned (.string ⟨x.toArray⟩) ∧ Bk1 w' b (.string ⟨u.toArray⟩) ∧ w.grownBy w' (some b) := by
 obtain ⟨T, hT⟩ : ∃ T : ByteArray, T = ⟨(34 :: r).toArray⟩ := ⟨_, rfl⟩
 obtain ⟨R, hR⟩ : ∃ R : ByteArray, R = ⟨r.toArray⟩ := ⟨_, rfl⟩
 have hTl : T.data.toList = 34 :: r := by subst hT; simp
 have hRl : R.data.toList = r := by subst hR; simp
 have hTz : T.size = r.length + 1 := by rw [← fd_len, hTl]; rfl
 have hRz : R.size = r.length := by rw [← fd_len, hRl]
 rw [← hT] at H
 have S2 : ∀ W, Sem.run Tryz.prog (Instr.slice 9 (.string T) (some (.int .i64 1)) none none) W = .ok (.string R) W := by
  have := (cut_steps T 1 (by omega)).2
  rw [ext_eq2 T r 1 (by rw [hTl]; rfl), ← hR] at this
  exact this
 have C := Lib.hid (fun W => cut_yes R W k (by rw [hRl]; exact hi) (by omega) (by omega))
 rw [hRl, hx, hu] at C
 have N := Lib.hid (fun W => need_yes 8 W)
 have HH := Lib.hid H
 have c_b := H.hb; have c_f := H.fz; have c_0 := H.k0
 clear H hT hR hTl hRl hi hx hu hk
 go_enter Tryz.func135, Tryz.ntmps135
 go_wp2_with fail
 refine (C.out _).mono ?_; rintro e w1 ⟨rfl, n, rfl⟩
 go_wp2_with fail
 refine (N.out _).mono ?_; rintro e w2 ⟨rfl, rfl⟩
 go_wp2_with fail
 go_ret
 exact ⟨rfl, bk1_set (bk1_drew HH.out n) _, grown_trans (grown_drew _ n _) (grown_set _ _ _)⟩
set_option maxHeartbeats 1000000 in
set_option maxRecDepth 100000 in
theorem quoted_no (b : Nat) (r : List UInt8) (w : World) (H : Bk1 w b (.string ⟨(34 :: r).toArray⟩)) (hi : Lib.indexByte r 34 = -1) (hs : r.length ≤ 100000000) :
  Calls Tryz.prog 135 #[.pointer (some ⟨b, 0, none⟩)] w fun e w' => e = .panicked (gvP 8) ∧ w.grownBy w' (some b) := by
 obtain ⟨T, hT⟩ : ∃ T : ByteArray, T = ⟨(34 :: r).toArray⟩ := ⟨_, rfl⟩
 obtain ⟨R, hR⟩ : ∃ R : ByteArray, R = ⟨r.toArray⟩ := ⟨_, rfl⟩
 have hTl : T.data.toList = 34 :: r := by subst hT; simp
 have hRl : R.data.toList = r := by subst hR; simp
 have hTz : T.size = r.length + 1 := by rw [← fd_len, hTl]; rfl
 rw [← hT] at H
 have S2 : ∀ W, Sem.run Tryz.prog (Instr.slice 9 (.string T) (some (.int .i64 1)) none none) W = .ok (.string R) W := by
  have := (cut_steps T 1 (by omega)).2
  rw [ext_eq2 T r 1 (by rw [hTl]; rfl), ← hR] at this
  exact this
 have C := Lib.hid (fun W => cut_no R W (by rw [hRl]; exact hi))
 have N := Lib.hid (fun W => need_no 8 W)
 have c_b := H.hb; have c_f := H.fz; have c_0 := H.k0
 clear H hT hR hTl hRl hi
 go_enter Tryz.func135, Tryz.ntmps135
 go_wp2_with fail
 refine (C.out _).mono ?_; rintro e w1 ⟨rfl, n, rfl⟩
 go_wp2_with fail
 refine (N.out _).mono ?_; rintro e w2 ⟨rfl, rfl⟩
 refine (show bodyPost _ _ _ (Exit.panic (gvP 8)) _ _ from ?_)
 simp [bodyPost]
 exact grown_drew _ n _
end Go.Proofs.YtifgiclnofdnkaaGreatDoor

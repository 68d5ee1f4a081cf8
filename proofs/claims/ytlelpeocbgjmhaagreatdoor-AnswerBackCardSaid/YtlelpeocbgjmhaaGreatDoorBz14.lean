/- Joined: AnD, FdG. -/
import Derived.Test.YtlelpeocbgjmhaaGreatDoorBz13
import Derived.Test.YtlelpeocbgjmhaaGreatDoorBz01
import Derived.Test.YtlelpeocbgjmhaaGreatDoorBz05
import Derived.Test.YtlelpeocbgjmhaaGreatDoorBz06
import Derived.Lib.IndexMore
import Derived.Lib.IndexBytes
/- Answers: Local, of the program. -/
set_option linter.unusedVariables false
set_option linter.unusedSimpArgs false
namespace Go.Proofs.YtlelpeocbgjmhaaGreatDoor
open Go.RowKit Go.Sort
set_option maxRecDepth 100000 in
theorem al_callFn (qs : Array Value) (W : World) : Sem.run Tryz.prog (callFunc 23 qs) W = .ok (.enter 23 qs) W := rfl
set_option maxHeartbeats 4000000 in
set_option maxRecDepth 100000 in
theorem alocal_any (k a b c d : Int) (x : ByteArray) (a' b' c' d' : Int) (x' : ByteArray) (w : World) (ha : An.bd a) (hb : An.bd b) (hc : An.bd c) (hd : An.bd d) (hx : x.size ≤ 1000000) (ha' : An.bd a') (hb' : An.bd b') (hc' : An.bd c') (hd' : An.bd d') (hx' : x'.size ≤ 1000000) (T : Lib.TabIs Tryz.prog w "internal/strconv.uint64pow10" .u64 Lib.pow10Tab) :
    Calls Tryz.prog 8 #[.agg #[.int .i64 k, .int .i64 a, .int .i64 b, .int .i64 c, .int .i64 d, .string x, .int .i64 a', .int .i64 b', .int .i64 c', .int .i64 d', .string x']] w fun e w' => e = .returned (.tuple #[.string ⟨(An.loc k (a, b, c, d, x) (a', b', c', d', x')).1.toArray⟩, .int .i64 (An.loc k (a, b, c, d, x) (a', b', c', d', x')).2]) ∧ Below w.heap.size w w' := by
  have BB : Hid (Bk11 (w.alloc (.cells #[.int .i64 k, .int .i64 a, .int .i64 b, .int .i64 c, .int .i64 d, .string x, .int .i64 a', .int .i64 b', .int .i64 c', .int .i64 d', .string x'] 29)) w.heap.size (.int .i64 k) (.int .i64 a) (.int .i64 b) (.int .i64 c) (.int .i64 d) (.string x) (.int .i64 a') (.int .i64 b') (.int .i64 c') (.int .i64 d') (.string x')) := ⟨by simp, by intro j; simp [go_sem], by simp [go_sem], by simp [go_sem], by simp [go_sem], by simp [go_sem], by simp [go_sem], by simp [go_sem], by simp [go_sem], by simp [go_sem], by simp [go_sem], by simp [go_sem], by simp [go_sem]⟩
  have b0 : Below w.heap.size w (w.alloc (.cells #[.int .i64 k, .int .i64 a, .int .i64 b, .int .i64 c, .int .i64 d, .string x, .int .i64 a', .int .i64 b', .int .i64 c', .int .i64 d', .string x'] 29)) := (Below.refl _ _).alloc (Nat.le_refl _) _
  have HT := Lib.hid (var_keep b0 T)
  have C := Lib.hid (fun W (hB : Below (w.alloc (.cells #[.int .i64 k, .int .i64 a, .int .i64 b, .int .i64 c, .int .i64 d, .string x, .int .i64 a', .int .i64 b', .int .i64 c', .int .i64 d', .string x'] 29)).heap.size (w.alloc (.cells #[.int .i64 k, .int .i64 a, .int .i64 b, .int .i64 c, .int .i64 d, .string x, .int .i64 a', .int .i64 b', .int .i64 c', .int .i64 d', .string x'] 29)) W) => alocal1_any w.heap.size k a b c d x a' b' c' d' x' W (BB.out.keep hB) ha hb hc hd hx ha' hb' hc' hd' hx' (var_keep hB HT.out))
  have hR : (An.loc k (a, b, c, d, x) (a', b', c', d', x')).2 ≠ 0 → (An.loc k (a, b, c, d, x) (a', b', c', d', x')).1 = [] := by
    intro h
    unfold An.loc at h ⊢
    repeat' split
    all_goals first | rfl | (exfalso; simp_all; done) | simp_all
  clear BB b0 HT T ha hb hc hd hx ha' hb' hc' hd' hx'
  generalize An.loc k (a, b, c, d, x) (a', b', c', d', x') = R at C hR ⊢
  obtain ⟨P, why⟩ := R
  dsimp only at C hR ⊢
  by_cases h0 : why = 0
  · subst h0
    have TT := Lib.hid (scaught_yes 23 #[.pointer (some ⟨w.heap.size, 0, none⟩)] (al_callFn _) ⟨P.toArray⟩ _ (Lib.hid fun W' hB => (C.out W' hB).mono (by
      rintro e w' ⟨h1, ⟨-, h2⟩ | ⟨h2, -⟩⟩
      · exact ⟨h2, h1⟩
      · exact absurd rfl h2)))
    clear C hR
    go_enter Tryz.func8, Tryz.ntmps8
    go_wp2_with fail
    refine TT.out.mono ?_; rintro e w1 ⟨rfl, b1⟩
    have B1 := Lib.hid (below_step ((Below.refl _ _).alloc (Nat.le_refl _) _) b1)
    clear b1
    go_wp2_with fail
    go_ret2
    exact ⟨rfl, B1.out⟩
  · have hP : P = [] := hR h0
    subst hP
    have TT := Lib.hid (scaught_no 23 #[.pointer (some ⟨w.heap.size, 0, none⟩)] (al_callFn _) 0 why _ (Lib.hid fun W' hB => (C.out W' hB).mono (by
      rintro e w' ⟨h1, ⟨h2, -⟩ | ⟨h2, h3⟩⟩
      · exact absurd h2 h0
      · exact ⟨h3, h1⟩)))
    clear C hR
    go_enter Tryz.func8, Tryz.ntmps8
    go_wp2_with fail
    refine TT.out.mono ?_; rintro e w1 ⟨rfl, b1⟩
    have B1 := Lib.hid (below_step ((Below.refl _ _).alloc (Nat.le_refl _) _) b1)
    clear b1
    go_wp2_with fail
    go_ret2
    exact ⟨rfl, B1.out⟩
end Go.Proofs.YtlelpeocbgjmhaaGreatDoor

/- Fields, in plain lists: what stands ahead of a mark, behind blanks, ahead of a quotation mark; a block of which alone something turns. -/
set_option linter.unusedVariables false
set_option linter.unusedSimpArgs false
namespace Go.Proofs.YtlelpeocbgjmhaaGreatDoor
open Go.RowKit Go.Sort

namespace Fd
theorem fi_tw (Q : UInt8 → Bool) : ∀ (l : List UInt8) (k : Int), (l.any Q = true → fi Q l k = k + ((l.takeWhile (fun c => !Q c)).length : Nat)) ∧ (l.any Q = false → fi Q l k = -1)
  | [], k => ⟨fun h => (by cases h), fun _ => rfl⟩
  | c :: t, k => by
    have ih := fi_tw Q t (k + 1)
    unfold fi
    rw [List.any_cons]
    cases hq : Q c
    · rw [if_neg (by decide), Bool.false_or, List.takeWhile_cons, if_pos (by rw [hq]; rfl)]
      refine ⟨fun h => ?_, ih.2⟩
      rw [ih.1 h, List.length_cons]; omega
    · rw [if_pos rfl, List.takeWhile_cons, if_neg (by rw [hq]; decide)]
      refine ⟨fun _ => by simp, fun h => by cases h⟩
theorem tw_take (p : UInt8 → Bool) (l : List UInt8) : l.take (l.takeWhile p).length = l.takeWhile p := by
  conv => lhs; rw [← List.takeWhile_append_dropWhile (p := p) (l := l)]
  rw [List.takeWhile_append_dropWhile]
  induction l with
  | nil => rfl
  | cons c t ih =>
    rw [List.takeWhile_cons]
    cases h : p c
    · rfl
    · simp only [if_true, List.length_cons, List.take_succ_cons, ih]
theorem tw_drop (p : UInt8 → Bool) (l : List UInt8) : l.drop (l.takeWhile p).length = l.dropWhile p := by
  induction l with
  | nil => rfl
  | cons c t ih =>
    rw [List.takeWhile_cons, List.dropWhile_cons]
    cases h : p c
    · rfl
    · simp only [if_true, List.length_cons, List.drop_succ_cons, ih]
theorem tw_none (p : UInt8 → Bool) (l : List UInt8) (h : l.any (fun c => !p c) = false) : l.dropWhile p = [] := by
  induction l with
  | nil => rfl
  | cons c t ih =>
    rw [List.any_cons, Bool.or_eq_false_iff] at h
    rw [List.dropWhile_cons, if_pos (by simpa using h.1), ih h.2]
/-- What stands ahead of the first mark, and from it on. -/
def pw (l : List UInt8) : List UInt8 := l.takeWhile (fun c => !mkB c)
def qw (l : List UInt8) : List UInt8 := l.dropWhile (fun c => !mkB c)
theorem pw_qw (l : List UInt8) : pw l ++ qw l = l := List.takeWhile_append_dropWhile
theorem pw_no : ∀ l : List UInt8, ∀ c ∈ pw l, mkB c = false
  | [], c, h => by cases h
  | x :: t, c, h => by
    unfold pw at h
    rw [List.takeWhile_cons] at h
    cases hx : mkB x
    · rw [if_pos (by rw [hx]; rfl)] at h
      rcases List.mem_cons.1 h with rfl | h
      · exact hx
      · exact pw_no t c h
    · rw [if_neg (by rw [hx]; decide)] at h; cases h
theorem qw_head : ∀ (l : List UInt8) (c : UInt8) (r : List UInt8), qw l = c :: r → mkB c = true
  | [], c, r, h => by cases h
  | x :: t, c, r, h => by
    unfold qw at h
    rw [List.dropWhile_cons] at h
    cases hx : mkB x
    · rw [if_pos (by rw [hx]; rfl)] at h
      exact qw_head t c r h
    · rw [if_neg (by rw [hx]; decide)] at h
      injection h with h1 _
      rw [← h1]; exact hx
theorem fl_pw (f l : List UInt8) : fl f false l = fl (f ++ pw l) false (qw l) := by
  conv => lhs; rw [← pw_qw l]
  exact fl_plain (qw l) (pw l) f (pw_no l)
/-- Where the first mark stands: as Go's IndexFunc tells it. -/
theorem mark_at (s : ByteArray) : (0 ≤ Lib.idxFunc isK true s ∧ ∃ k : Nat, Lib.idxFunc isK true s = k ∧ k ≤ s.size ∧ s.data.toList.take k = pw s.data.toList ∧ s.data.toList.drop k = qw s.data.toList) ∨ (Lib.idxFunc isK true s = -1 ∧ pw s.data.toList = s.data.toList ∧ qw s.data.toList = []) := by
  rw [idx_mark]
  have h := fi_tw (fun c => isK c.toNat) s.data.toList 0
  cases ha : s.data.toList.any (fun c => isK c.toNat)
  · right
    refine ⟨h.2 ha, ?_, ?_⟩
    · have e := pw_qw s.data.toList
      have e2 : qw s.data.toList = [] := tw_none (fun c => !mkB c) _ (by simpa [mkB] using ha)
      rw [e2, List.append_nil] at e; exact e
    · exact tw_none (fun c => !mkB c) _ (by simpa [mkB] using ha)
  · left
    have h1 := h.1 ha
    have hle : (s.data.toList.takeWhile (fun c => !isK c.toNat)).length ≤ s.size := by
      rw [← fd_len]; exact (List.takeWhile_prefix _).length_le
    refine ⟨by omega, _, (by rw [h1]; omega), hle, tw_take _ _, tw_drop _ _⟩
theorem trim_dw (s : ByteArray) : (Lib.trimLeftF isW s).data.toList = dw s.data.toList := by
  unfold Lib.trimLeftF
  rw [idx_blank]
  have h := fi_tw (fun c => !isW c.toNat) s.data.toList 0
  have e : (fun c : UInt8 => !(!isW c.toNat)) = fun c => isW c.toNat := by funext c; simp
  rw [e] at h
  cases ha : s.data.toList.any (fun c => !isW c.toNat)
  · rw [if_pos (h.2 ha)]
    exact (tw_none (fun c => isW c.toNat) _ ha).symm
  · have h1 := h.1 ha
    rw [if_neg (by rw [h1]; omega), fd_ext, h1, List.take_of_length_le (by rw [fd_len]; exact Nat.le_refl _)]
    rw [show ((0 : Int) + ((s.data.toList.takeWhile (fun c => isW c.toNat)).length : Nat)).toNat = (s.data.toList.takeWhile (fun c => isW c.toNat)).length by omega]
    exact tw_drop _ _
/-- Cut at the first quotation mark. -/
theorem ib_34 : ∀ l : List UInt8, (Lib.indexByte l 34 = -1 ∧ ∀ c ∈ l, c ≠ 34) ∨ ∃ k : Nat, Lib.indexByte l 34 = k ∧ k < l.length ∧ (∀ c ∈ l.take k, c ≠ 34) ∧ l.drop k = 34 :: l.drop (k + 1)
  | [] => .inl ⟨by rw [← Lib.index_one]; rfl, fun c h => by cases h⟩
  | x :: t => by
    have e : Lib.indexByte (x :: t) 34 = if (34 == x) = true then 0 else if Lib.indexByte t 34 == -1 then -1 else Lib.indexByte t 34 + 1 := by
      rw [← Lib.index_one, ← Lib.index_one]
      conv => lhs; unfold Lib.index
      rw [show ([34] : List UInt8).isPrefixOf (x :: t) = (34 == x) by rw [List.isPrefixOf, List.isPrefixOf, Bool.and_true]]
    rw [e]
    by_cases hx : x = 34
    · subst hx
      right
      exact ⟨0, rfl, by simp, fun c h => by simp at h, rfl⟩
    · have h1 : ((34 : UInt8) == x) = false := by rw [beq_eq_false_iff_ne]; exact fun h => hx h.symm
      rw [if_neg (by rw [h1]; decide)]
      rcases ib_34 t with ⟨hm, hn⟩ | ⟨k, hk, hlt, hb, hd⟩
      · left
        rw [hm]
        refine ⟨rfl, fun c h => ?_⟩
        rcases List.mem_cons.1 h with rfl | h
        · exact hx
        · exact hn c h
      · right
        have h2 : ((k : Int) == -1) = false := by rw [beq_eq_false_iff_ne]; omega
        rw [hk, h2, if_neg (by decide)]
        refine ⟨k + 1, by omega, by simp; omega, fun c h => ?_, ?_⟩
        · rw [List.take_succ_cons] at h
          rcases List.mem_cons.1 h with rfl | h
          · exact hx
          · exact hb c h
        · rw [List.drop_succ_cons, List.drop_succ_cons]; exact hd
end Fd
theorem grown_of {w w' : World} (h : Below w.heap.size w w') (r : Option Nat) : w.grownBy w' r := ⟨h.os, h.tape, h.output, h.size, fun i hi _ => h.block i hi⟩
theorem grown_refl (w : World) (r : Option Nat) : w.grownBy w r := ⟨rfl, rfl, rfl, Nat.le_refl _, fun _ _ _ => rfl⟩
theorem grown_trans {w w1 w2 : World} {r : Option Nat} (h : w.grownBy w1 r) (k : w1.grownBy w2 r) : w.grownBy w2 r :=
  ⟨k.os.trans h.os, k.tape.trans h.tape, k.output.trans h.output, Nat.le_trans h.size k.size, fun i hi hr => (k.block i (Nat.lt_of_lt_of_le hi h.size) hr).trans (h.block i hi hr)⟩
theorem grown_set (w : World) (c : Nat) (v : Value) : w.grownBy (w.setCell ⟨c, 0, none⟩ v) (some c) :=
  ⟨rfl, rfl, rfl, by simp [World.setCell], fun k hk hr => by
    have : c ≠ k := fun e => hr (by rw [e])
    simp [World.setCell, Array.getElem?_modify, this]⟩
theorem grown_at {w w' : World} {c : Nat} (h : w.grownBy w' (some c)) (hc : c ≤ w.heap.size) : Below c w w' := ⟨h.os, h.tape, h.output, h.size, fun i hi => h.block i (by omega) (fun e => by injection e with e; omega)⟩
theorem bat_by {T e : TypeId} {B b c : Nat} {p : Value} {bs : List Value} {W W' : World} (h : Lib.BuilderAtF T e B b p bs W) (k : W.grownBy W' (some c)) (hc : c < B) (hBb : B ≤ b) : Lib.BuilderAtF T e B b p bs W' := by
  have hlt := h.lt
  obtain ⟨hB, v, hb, hown, hne⟩ := h
  refine ⟨hB, v, (k.block b hlt (fun e => by injection e with e; omega)).trans hb, ⟨hown.1, ?_⟩, hne⟩
  rcases hown.2 with h2 | ⟨g, cap, cur, fz, hv, hbg, hg, rest⟩
  · exact .inl h2
  · have hglt : g < W.heap.size := (Array.getElem?_eq_some_iff.1 hg).1
    exact .inr ⟨g, cap, cur, fz, hv, hbg, (k.block g hglt (fun e => by injection e with e; omega)).trans hg, rest⟩
theorem IsB.by_ {b c : Nat} {l : List UInt8} {W W' : World} (h : IsB b l W) (k : W.grownBy W' (some c)) (hc : c < b) : IsB b l W' :=
  h.elim (fun x => .inl (bat_by x k hc (Nat.le_refl _))) (fun x => .inr (bat_by x k hc (Nat.le_refl _)))
end Go.Proofs.YtlelpeocbgjmhaaGreatDoor

/- Links: targets and Follow of the program: a map of strings. -/
import Derived.Test.YtndophkojnfcaaaLkH
import Derived.Maps.OwnSet
import Derived.Maps.StringElems
import Derived.StringKeys
import Derived.Carry
set_option linter.unusedVariables false
set_option linter.unusedSimpArgs false
namespace Go.Proofs.Ytndophkojnfcaaa
open Go.RowKit Go.Sort

namespace Lk
def key (s : List UInt8) : Lit := .string s
/-- The map says where names lead. -/
def KS (l : List (ByteArray × ByteArray)) (D : DataW Unit) : Prop :=
  Maps.Tidy D ∧ (∀ s, Maps.has D (key s) = (fst l s).isSome) ∧ (∀ s, D.atKey (key s) (.lit (.string [])) = .lit (.string ((fst l s).getD ⟨#[]⟩).data.toList)) ∧ ∃ K : List (List UInt8), K.length = Maps.size D ∧ ∀ s, (fst l s).isSome = true → s ∈ K
theorem ks_nil : KS [] (.map []) := ⟨⟨[], rfl, List.Pairwise.nil⟩, fun _ => rfl, fun _ => rfl, [], rfl, fun s h => by cases h⟩
theorem ks_old {l : List (ByteArray × ByteArray)} {D : DataW Unit} {p : ByteArray × ByteArray} (h : KS l D) (hs : (fst l p.2.data.toList).isSome = true) : KS (l ++ [p]) D := by
  have e : ∀ s, fst (l ++ [p]) s = fst l s := fun s => by
    rw [fst_app]
    cases hf : fst l s with
    | some y => rfl
    | none =>
      show (if p.2.data.toList = s then some p.1 else none) = none
      rw [if_neg]
      intro he
      rw [he, hf] at hs; cases hs
  obtain ⟨a, b, c, K, d, f⟩ := h
  exact ⟨a, fun s => by rw [e, b], fun s => by rw [e, c], K, d, fun s hh => f s (by rw [← e]; exact hh)⟩
theorem ks_new {l : List (ByteArray × ByteArray)} {D : DataW Unit} {p : ByteArray × ByteArray} (h : KS l D) (hs : fst l p.2.data.toList = none) : KS (l ++ [p]) (D.put (key p.2.data.toList) (.lit (.string p.1.data.toList))) := by
  obtain ⟨a, b, c, K, d, f⟩ := h
  have hk : WideAt.IsKeyLit (key p.2.data.toList) := trivial
  have hne : ∀ s, p.2.data.toList ≠ s → key s ≠ key p.2.data.toList := fun s hn e => hn (by injection e with e; exact e.symm)
  have e1 : fst (l ++ [p]) p.2.data.toList = some p.1 := by
    rw [fst_app, hs]
    exact if_pos rfl
  have e2 : ∀ s, p.2.data.toList ≠ s → fst (l ++ [p]) s = fst l s := fun s hn => by
    rw [fst_app]
    cases hf : fst l s with
    | some y => rfl
    | none => exact if_neg hn
  refine ⟨a.put hk _, fun s => ?_, fun s => ?_, p.2.data.toList :: K, ?_, fun s hh => ?_⟩
  · by_cases hn : p.2.data.toList = s
    · subst hn
      rw [Maps.has_put_same a.isMap hk, e1]; rfl
    · rw [Maps.has_put_other (hne s hn), b, e2 s hn]
  · by_cases hn : p.2.data.toList = s
    · subst hn
      rw [Maps.atKey_put_same a.isMap hk, e1]; rfl
    · rw [Maps.atKey_put_other (hne s hn), c, e2 s hn]
  · rw [Maps.size_put a, b, hs, List.length_cons, d]; rfl
  · by_cases hn : p.2.data.toList = s
    · rw [hn]; exact List.mem_cons_self ..
    · rw [e2 s hn] at hh
      exact List.mem_cons_of_mem _ (f s hh)
end Lk
abbrev MpS (W : World) (b n : Nat) (D : DataW Unit) : Prop := W.ownsMap Try.prog 9 (plainElem Try.prog 9) b n D
theorem mps_on {W W' : World} {b n : Nat} {D : DataW Unit} (h : MpS W b n D) (k : Below W.heap.size W W') : MpS W' b n D := h.kept (row := none) ⟨k.os, k.tape, k.output, k.size, fun i hi _ => k.block i hi⟩ (by simp)
theorem mps_look {W : World} {b n : Nat} {D : DataW Unit} {l : List (ByteArray × ByteArray)} (h : MpS W b n D) (K : Lk.KS l D) (s : ByteArray) (hs : s.size ≤ maxLen) :
    (Instr.lookup 90 (.map (some b)) (.string s) true).run Try.prog W = .ok (.tuple #[.string ((Lk.fst l s.data.toList).getD ⟨#[]⟩), .bool (Lk.fst l s.data.toList).isSome]) W := by
  obtain ⟨v, ps, hr, hv⟩ := World.ownsMap.look_ok h (Maps.string_keyed Try.underlying9) Try.underlying90 (Try.zeroValue9 W) (zd := .lit (.string [])) (zp := []) (plainElem_string Try.underlying9 (by unfold maxLen; decide)) (WideMaps.keyOf_string_mk Try.underlying9 hs)
  obtain ⟨s', rfl, hz, -⟩ := plainElem_string_inv Try.underlying9 hv
  rw [hr]
  have h1 := K.2.1 s.data.toList
  have h2 := K.2.2.1 s.data.toList
  unfold Lk.key at h1 h2
  rw [h1]
  have hz1 : D.atKey (Lit.string s.data.toList) (.lit (.string [])) = .lit (.string s'.data.toList) := congrArg Prod.fst hz
  rw [h2] at hz1
  have hz := Lit.string.inj (DataW.lit.inj hz1)
  rw [str_eq_of.1 hz]
set_option maxHeartbeats 4000000 in
set_option maxRecDepth 100000 in
theorem targets_any (v : Value) (l : List (ByteArray × ByteArray)) (w : World) (S : LkS w v l) (hl : l.length ≤ 1000000) (hz : ∀ p ∈ l, p.1.size ≤ maxLen ∧ p.2.size ≤ maxLen) :
    Calls Try.prog 70 #[v] w fun e w' => ∃ (n : Nat) (D : DataW Unit), e = .returned (.map (some w.heap.size)) ∧ n ≤ l.length ∧ MpS w' w.heap.size n D ∧ Lk.KS l D ∧ Below w.heap.size w w' := by
  have T := S
  obtain ⟨A, c, rfl, -⟩ := T
  obtain ⟨N, hN⟩ : ∃ N, N = l.length := ⟨_, rfl⟩
  have HN := Lib.hid hN
  have HS : Hid (LkS w (.slice A N c) l) := by rw [hN]; exact S
  rw [← hN]
  have hNb : N ≤ 1000000 := by omega
  have HZ := Lib.hid hz
  clear hN S hl hz
  have M0 : MpS (w.alloc (.map #[] 0)) w.heap.size 0 (.map []) := World.ownsMap_made w _ _ _
  have M0 := Lib.hid M0
  have N0 := Lib.hid (show Below w.heap.size w (w.alloc (.map #[] 0)) from (Below.refl _ _).alloc (Nat.le_refl _) _)
  have K0 := Lib.hid Lk.ks_nil
  have MKM : ∀ W, (Instr.makeMap 90 none).run Try.prog W = .ok (.map (some W.heap.size)) (W.alloc (.map #[] 0)) := fun W => run_makeMap _ W
  go_enter Try.func70, Try.ntmps70
  go_wp2_with fail
  go_loopw [11] (fun i wr => ∃ (k n : Nat) (D : DataW Unit), k ≤ N ∧ n ≤ k ∧ i = .int .i64 k ∧ Hid (MpS wr w.heap.size n D) ∧ Hid (Lk.KS (l.take k) D) ∧ Hid (Below w.heap.size w wr)) (fun i _ => N - (intOf i).toNat)
  case atStart => exact ⟨0, 0, .map [], Nat.zero_le _, Nat.le_refl _, rfl, M0, K0, N0⟩
  case round =>
    obtain ⟨k, n, D, hk, hnk, rfl, hM, hK, hbw⟩ := hrel
    by_cases hlt : k < N
    · have hkl : k < l.length := by have := HN.out; omega
      obtain ⟨a, rfl, hab, g0, g1⟩ := (HS.out.on hbw.out).get k hkl
      have hz := HZ.out l[k] (List.getElem_mem hkl)
      have htk := Lib.hid (List.take_succ_eq_append_getElem hkl)
      have hn : (a.add (k * 2)).block ≠ wr.heap.size := by rw [blk_add]; exact Nat.ne_of_lt hab
      generalize l[k] = p at g0 g1 hz htk
      obtain ⟨x, y⟩ := p
      have hx : x.size ≤ maxLen := hz.1
      have hy : y.size ≤ maxLen := hz.2
      clear hz
      have BB : ∀ W, Below wr.heap.size wr W → (Instr.lookup 90 (.map (some w.heap.size)) (.string y) true).run Try.prog W = .ok (.tuple #[.string ((Lk.fst (l.take k) y.data.toList).getD ⟨#[]⟩), .bool (Lk.fst (l.take k) y.data.toList).isSome]) W := fun W hB => mps_look (mps_on hM.out hB) hK.out y hy
      have hsz := hbw.out.size
      cases hf : Lk.fst (l.take k) y.data.toList with
      | some t =>
        rw [hf] at BB
        have KK := Lib.hid (show Lk.KS (l.take (k + 1)) D by rw [htk.out]; exact Lk.ks_old hK.out (by show (Lk.fst (l.take k) y.data.toList).isSome = true; rw [hf]; rfl))
        have LKF : Sem.run Try.prog (Instr.lookup 90 (.map (some w.heap.size)) (.string y) true) (wr.alloc (.cells #[.string x, .string y] 47)) = .ok (.tuple #[.string t, .bool true]) (wr.alloc (.cells #[.string x, .string y] 47)) := BB _ ((Below.refl _ _).alloc (Nat.le_refl _) _)
        have b1 : Below wr.heap.size wr (wr.alloc (.cells #[.string x, .string y] 47)) := (Below.refl _ _).alloc (Nat.le_refl _) _
        have M1 := Lib.hid (mps_on hM.out b1)
        have B1 := Lib.hid (below_step hbw.out b1)
        clear BB hf b1 hx hy htk hK
        go_wp2_with fail
        go_roundw
        case rel => exact ⟨k + 1, n, D, by omega, by omega, by go_num, M1, KK, B1⟩
        case measure => simp [intOf]; omega
      | none =>
        rw [hf] at BB
        have KK := Lib.hid (show Lk.KS (l.take (k + 1)) (D.put (Lk.key y.data.toList) (.lit (.string x.data.toList))) by rw [htk.out]; exact Lk.ks_new hK.out hf)
        have LKF : Sem.run Try.prog (Instr.lookup 90 (.map (some w.heap.size)) (.string y) true) (wr.alloc (.cells #[.string x, .string y] 47)) = .ok (.tuple #[.string ⟨#[]⟩, .bool false]) (wr.alloc (.cells #[.string x, .string y] 47)) := BB _ ((Below.refl _ _).alloc (Nat.le_refl _) _)
        have b1 : Below wr.heap.size wr (wr.alloc (.cells #[.string x, .string y] 47)) := (Below.refl _ _).alloc (Nat.le_refl _) _
        have M1 := mps_on hM.out b1
        have B1 := Lib.hid (below_step hbw.out b1)
        have KY := WideMaps.keyOf_string_mk (P := Try.prog) Try.underlying9 hy
        have EX := plainElem_string (H := Unit) (P := Try.prog) Try.underlying9 hx
        clear BB hf b1 htk hK hM
        go_wp2_with (at_mapUpdate; refine wpList_mapUpdate_own _ rfl _ _ _ 90 rfl 9 9 (Maps.string_keyed Try.underlying9) Try.underlying90 _ w.heap.size n D rfl M1 (by unfold maxLen; omega) _ _ (.string y.data.toList) rfl rfl KY (.lit (.string x.data.toList)) [] EX ?_)
        intro w2 M2 g2
        have B2 := Lib.hid (B1.out.trans (show Below w.heap.size _ w2 from ⟨g2.os, g2.tape, g2.output, g2.size, fun i hi => g2.block i (by simp; omega) (fun e => by injection e with e; omega)⟩))
        have M2 := Lib.hid M2
        clear g2 M1 B1 LKF KY EX hx hy
        go_wp2_with fail
        go_roundw
        case rel => exact ⟨k + 1, n + 1, _, by omega, by omega, by go_num, M2, KK, B2⟩
        case measure => simp [intOf]; omega
    · have hK2 := Lib.hid (show Lk.KS l D by have := hK.out; rw [List.take_of_length_le (by have := HN.out; omega)] at this; exact this)
      go_wp2_with fail
      go_ret
      exact ⟨n, D, rfl, by omega, hM.out, hK2.out, hbw.out⟩
set_option maxHeartbeats 4000000 in
set_option maxRecDepth 100000 in
theorem lfollow_any (v : Value) (l : List (ByteArray × ByteArray)) (s : ByteArray) (w : World) (S : LkS w v l) (hl : l.length ≤ 1000000) (hz : ∀ p ∈ l, p.1.size ≤ maxLen ∧ p.2.size ≤ maxLen) (hs : s.size ≤ maxLen) :
    Calls Try.prog 38 #[v, .string s] w fun e w' => e = .returned (.tuple #[.string (Lk.ans (Lk.flw (Lk.fst l) (l.length + 1) s)).1, .int .i64 (Lk.ans (Lk.flw (Lk.fst l) (l.length + 1) s)).2]) ∧ Below w.heap.size w w' := by
  have TT := Lib.hid (targets_any v l w S hl hz)
  have HF : ∀ (s : List UInt8) y, Lk.fst l s = some y → y.size ≤ maxLen := by
    intro t y h
    clear TT S hl
    induction l with
    | nil => cases h
    | cons p r ih =>
      have h : (if p.2.data.toList = t then some p.1 else Lk.fst r t) = some y := h
      by_cases he : p.2.data.toList = t
      · rw [if_pos he] at h
        injection h with h
        rw [← h]; exact (hz p (List.mem_cons_self ..)).1
      · rw [if_neg he] at h
        exact ih (fun q hq => hz q (List.mem_cons_of_mem _ hq)) h
  obtain ⟨tot, htot⟩ : ∃ tot, tot = Lk.flw (Lk.fst l) (l.length + 1) s := ⟨_, rfl⟩
  rw [← htot]
  have HT := Lib.hid htot
  have HFF := Lib.hid HF
  have hll := hl
  obtain ⟨A, c, rfl, -⟩ := S
  clear htot HF hl hz
  obtain ⟨ans, hans⟩ : ∃ ans : Value, ans = .tuple #[.string (Lk.ans tot).1, .int .i64 (Lk.ans tot).2] := ⟨_, rfl⟩
  rw [← hans]
  have HA := Lib.hid hans; clear hans
  go_enter Try.func38, Try.ntmps38
  go_wp2_with fail
  refine TT.out.mono ?_; rintro e w1 ⟨n, D, rfl, hn, hM, hK, b1⟩
  obtain ⟨M, hM0⟩ : ∃ M : Nat, M = Maps.size D := ⟨_, rfl⟩
  have hMn : M ≤ n := by rw [hM0]; exact hM.size_le
  have HT2 : Hid (Lk.flw (Lk.fst l) (M + 1) s = tot) := by
    obtain ⟨K, hk1, hk2⟩ := hK.2.2.2
    rw [HT.out, hM0, ← hk1]
    exact Lib.hid (Lk.flw_enough _ K hk2 l.length (by rw [hk1, ← hM0]; omega) s)
  have LEN : Hid (∀ ty, (Builtin.len_ #[90] ty #[.map (some w.heap.size)]).run Try.prog w1 = .ok (.int .i64 (M : Int)) w1) := Lib.hid (fun ty => by rw [hM0]; exact hM.len Try.underlying90 ty)
  have LK : Hid (∀ t : ByteArray, t.size ≤ maxLen → (Instr.lookup 90 (.map (some w.heap.size)) (.string t) true).run Try.prog w1 = .ok (.tuple #[.string ((Lk.fst l t.data.toList).getD ⟨#[]⟩), .bool (Lk.fst l t.data.toList).isSome]) w1) := Lib.hid (fun t ht => mps_look hM hK t ht)
  have HM := Lib.hid hM
  have hM0 := Lib.hid hM0
  have B1 := Lib.hid b1
  have hMb : M ≤ 1000000 := by omega
  have HSs := Lib.hid hs
  clear hM hK TT HT b1 hs
  go_wp2_with (refine wpList_len_own _ rfl _ 90 rfl 9 9 Try.underlying90 _ w.heap.size n D rfl HM.out ?_)
  rw [← hM0.out]
  go_wp2_with fail
  go_loopw [1, 14] (fun nm i wr => ∃ (k : Nat) (t : ByteArray), k ≤ M + 1 ∧ i = .int .i64 k ∧ nm = .string t ∧ Hid (t.size ≤ maxLen) ∧ Hid (Lk.flw (Lk.fst l) (M + 1 - k) t = tot) ∧ wr = w1) (fun _ i _ => M + 1 - (intOf i).toNat)
  case atStart => exact ⟨0, s, Nat.zero_le _, rfl, rfl, HSs, HT2, rfl⟩
  case round =>
    obtain ⟨k, t, hk, rfl, rfl, hts, hinv, hw⟩ := hrel
    obtain rfl : w1 = wr := hw.symm
    by_cases hlt : k < M + 1
    · have hd := hinv.out
      rw [show M + 1 - k = (M - k) + 1 by omega] at hd
      unfold Lk.flw at hd
      have LKt := LK.out t hts.out
      cases hf : Lk.fst l t.data.toList with
      | none =>
        rw [hf] at hd LKt
        have HI := Lib.hid (show some t = tot from hd)
        have LKt : Sem.run Try.prog (Instr.lookup 90 (.map (some w.heap.size)) (.string t) true) w1 = .ok (.tuple #[.string ⟨#[]⟩, .bool false]) w1 := LKt
        clear hd hf hinv
        go_wp2_with fail
        go_ret2
        exact ⟨by rw [HA.out, ← HI.out]; rfl, B1.out⟩
      | some y =>
        have hys := Lib.hid (HFF.out _ _ hf)
        rw [hf] at hd LKt
        have HI := Lib.hid (show Lk.flw (Lk.fst l) (M + 1 - (k + 1)) y = tot by rw [show M + 1 - (k + 1) = M - k by omega]; exact hd)
        have LKt : Sem.run Try.prog (Instr.lookup 90 (.map (some w.heap.size)) (.string t) true) w1 = .ok (.tuple #[.string y, .bool true]) w1 := LKt
        clear hd hf hinv
        go_wp2_with fail
        go_roundw
        case rel => exact ⟨k + 1, y, by omega, by go_num, rfl, hys, HI, by first | rfl | trivial⟩
        case measure => simp [intOf]; omega
    · have HI := Lib.hid (show none = tot by rw [← hinv.out, show M + 1 - k = 0 by omega]; rfl)
      go_wp2_with fail
      go_ret2
      exact ⟨by rw [HA.out, ← HI.out]; rfl, B1.out⟩
end Go.Proofs.Ytndophkojnfcaaa


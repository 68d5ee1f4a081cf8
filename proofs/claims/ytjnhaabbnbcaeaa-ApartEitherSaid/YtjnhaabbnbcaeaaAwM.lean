/- A map of rows: each name's row lies in a block of its own. -/
import Derived.Test.YtjnhaabbnbcaeaaAwP
import Derived.Test.YtjnhaabbnbcaeaaAwN
import Derived.Maps.OwnSet
import Derived.Maps.StringElems
import Derived.StringKeys
import Derived.Carry
set_option linter.unusedVariables false
set_option linter.unusedSimpArgs false
namespace Go.Proofs.Ytjnhaabbnbcaeaa
open Go.RowKit Go.Sort

namespace Aw
def cc (l : List C) : List Value := l.flatMap encC
theorem cc_app (l k : List C) : cc (l ++ k) = cc l ++ cc k := by unfold cc; rw [List.flatMap_append]
theorem cc_cons (p : C) (l : List C) : cc (p :: l) = .int .i64 p.1 :: .int .i64 p.2.1 :: .int .i64 p.2.2.1 :: .int .i64 p.2.2.2.1 :: .int .i64 p.2.2.2.2 :: cc l := rfl
theorem cc_len (l : List C) : (cc l).length = l.length * 5 := by
  induction l with
  | nil => rfl
  | cons p l ih => rw [cc_cons]; simp only [List.length_cons]; omega
theorem cc_one (l : List C) : ∀ u ∈ cc l, u.oneCell' = true := by
  intro u hu
  unfold cc at hu
  obtain ⟨p, _, hp⟩ := List.mem_flatMap.1 hu
  simp [encC] at hp
  rcases hp with rfl | rfl | rfl | rfl | rfl <;> rfl
theorem cc_at (l : List C) (k c : Nat) (h : k < l.length) (hc : c < 5) : (cc l)[k * 5 + c]? = (encC l[k])[c]? := by
  induction l generalizing k with
  | nil => exact absurd h (by simp)
  | cons p l ih =>
    cases k with
    | zero =>
      rw [cc_cons]
      match c, hc with
      | 0, _ => rfl
      | 1, _ => rfl
      | 2, _ => rfl
      | 3, _ => rfl
      | 4, _ => rfl
    | succ k =>
      have := ih k (by simpa using h)
      rw [cc_cons, show (k + 1) * 5 + c = (k * 5 + c) + 1 + 1 + 1 + 1 + 1 by omega]
      simpa using this
/-- How a row's place reads. -/
def hdR (v : Value) : Option (DataW Unit × List MemPlace) :=
  match v with
  | .slice none 0 0 => some (.agg [], [])
  | .slice (some ⟨g, 0, none⟩) n c => some (.agg [.lit (.int .i64 g), .lit (.int .i64 n), .lit (.int .i64 c)], [])
  | _ => none
theorem hdR_inj {v v' : Value} {z : DataW Unit × List MemPlace} (h : hdR v = some z) (h' : hdR v' = some z) : v = v' := by
  unfold hdR at h h'
  split at h
  · split at h'
    · rfl
    · rw [← h'] at h; simp at h
    · cases h'
  · split at h'
    · rw [← h'] at h; simp at h
    · rw [← h'] at h
      simp at h
      obtain ⟨h1, h2, h3⟩ := h
      have h1 := Int.ofNat.inj h1; have h2 := Int.ofNat.inj h2; have h3 := Int.ofNat.inj h3
      subst h1; subst h2; subst h3; rfl
    · cases h'
  · cases h
theorem hdR_own {w : World} {base size n : Nat} {e : TypeId} {v : Value} {xs : List Value} (h : w.ownsRow base e size v n xs) : ∃ d, hdR v = some (d, []) := by
  rcases h.2 with ⟨rfl, _⟩ | ⟨g, cap, cur, rfl, _⟩
  · exact ⟨_, rfl⟩
  · exact ⟨_, rfl⟩
def key (s : ByteArray) : Lit := .string s.data.toList
theorem key_ne {s s' : ByteArray} (h : s ≠ s') : key s ≠ key s' := fun e => h (by
  have e1 : s.data.toList = s'.data.toList := by injection e
  exact ByteArray.ext (Array.toList_inj.1 e1))
/-- The map says where each name's row lies. -/
def KR (f : ByteArray → Value) (D : DataW Unit) : Prop := Maps.Tidy D ∧ ∀ s, hdR (f s) = some (D.atKey (key s) (.agg []), [])
theorem kr_nil : KR (fun _ => .slice none 0 0) (.map []) := ⟨⟨[], rfl, List.Pairwise.nil⟩, fun _ => rfl⟩
def upd (f : ByteArray → Value) (k : ByteArray) (v : Value) (s : ByteArray) : Value := if s = k then v else f s
theorem upd_same (f : ByteArray → Value) (k : ByteArray) (v : Value) : upd f k v k = v := if_pos rfl
theorem upd_other (f : ByteArray → Value) (k : ByteArray) (v : Value) {s : ByteArray} (h : s ≠ k) : upd f k v s = f s := if_neg h
theorem kr_put {f : ByteArray → Value} {D : DataW Unit} (h : KR f D) (k : ByteArray) {v : Value} {d : DataW Unit} (hv : hdR v = some (d, [])) : KR (upd f k v) (D.put (key k) d) := by
  have hk : WideAt.IsKeyLit (key k) := trivial
  refine ⟨h.1.put hk _, fun s => ?_⟩
  by_cases e : s = k
  · subst e
    rw [upd_same, Maps.atKey_put_same h.1.isMap hk]; exact hv
  · rw [upd_other _ _ _ e, Maps.atKey_put_other (key_ne e)]; exact h.2 s
/-- The rows themselves. -/
structure Rows (W : World) (N : Nat) (f : ByteArray → Value) (pre : List R) : Prop where
  own : ∀ s, W.ownsRow N 44 5 (f s) (named s pre).length (cc (named s pre))
  ne : ∀ s s', s ≠ s' → ∀ g, (f s).ownBlock = some g → (f s').ownBlock ≠ some g
theorem Rows.nil (W : World) (N : Nat) : Rows W N (fun _ => .slice none 0 0) [] := ⟨fun s => World.ownsRow_nil _ _ _ _, fun s s' _ g h => by cases h⟩
theorem Rows.on {W W' : World} {N : Nat} {f : ByteArray → Value} {pre : List R} (h : Rows W N f pre) (k : Below W.heap.size W W') : Rows W' N f pre := ⟨fun s => own_on (h.own s) k, h.ne⟩
theorem Rows.push {W W' : World} {N : Nat} {f : ByteArray → Value} {pre : List R} (h : Rows W N f pre) (r : R) {v : Value} (own : W'.ownsRow N 44 5 v ((named r.1 pre).length + 1) (cc (named r.1 pre) ++ cc [rc r]))
    (g : W.grownBy W' (f r.1).ownBlock) (fr : Fresh W (f r.1) v) : Rows W' N (upd f r.1 v) (pre ++ [r]) := by
  refine ⟨fun s => ?_, fun s s' hs k hk => ?_⟩
  · by_cases e : s = r.1
    · subst e
      rw [upd_same, named_app, if_pos rfl, cc_app, List.length_append]
      exact own
    · rw [upd_other _ _ _ e, named_app, if_neg (fun e' => e e'.symm), List.append_nil]
      refine (h.own s).kept g ?_
      cases hb : (f s).ownBlock with
      | none => exact .inl rfl
      | some b => exact .inr (fun e' => h.ne s r.1 e b hb e'.symm)
  · by_cases e : s = r.1
    · subst e
      rw [upd_same] at hk
      rw [upd_other _ _ _ (fun e' => hs e'.symm)]
      intro hb
      rcases fr with fr | ⟨b, hb2, hlt⟩
      · rw [hk] at fr
        exact h.ne _ _ hs k fr.symm hb
      · rw [hk] at hb2
        injection hb2 with hb2
        have := ((h.own s').lt k hb).2
        omega
    · rw [upd_other _ _ _ e] at hk
      by_cases e' : s' = r.1
      · subst e'
        rw [upd_same]
        intro hb
        rcases fr with fr | ⟨b, hb2, hlt⟩
        · rw [hb] at fr
          exact h.ne _ _ hs k hk fr.symm
        · rw [hb] at hb2
          injection hb2 with hb2
          have := ((h.own s).lt k hk).2
          omega
      · rw [upd_other _ _ _ e']; exact h.ne s s' hs k hk
end Aw
abbrev MpR (W : World) (b n : Nat) (D : DataW Unit) : Prop := W.ownsMap Try.prog 9 Aw.hdR b n D
theorem mpr_on {W W' : World} {b n : Nat} {D : DataW Unit} (h : MpR W b n D) (k : Below W.heap.size W W') : MpR W' b n D := h.kept (row := none) ⟨k.os, k.tape, k.output, k.size, fun i hi _ => k.block i hi⟩ (by simp)
theorem mpr_look {W : World} {b n : Nat} {D : DataW Unit} {f : ByteArray → Value} (h : MpR W b n D) (K : Aw.KR f D) (s : ByteArray) (hs : s.size ≤ maxLen) :
    (Instr.lookup 59 (.map (some b)) (.string s) false).run Try.prog W = .ok (f s) W := by
  obtain ⟨v, ps, hr, hv⟩ := World.ownsMap.lookup h (Maps.string_keyed Try.underlying9) Try.underlying59 (Try.zeroValue60 W) (zd := .agg []) (zp := []) rfl (WideMaps.keyOf_string_mk Try.underlying9 hs)
  have h2 := K.2 s
  have e : v = f s := by
    have h3 : ps = [] := by
      unfold Aw.hdR at hv
      split at hv
      · injection hv with hv; injection hv with _ e; exact e.symm
      · injection hv with hv; injection hv with _ e; exact e.symm
      · cases hv
    subst h3
    exact Aw.hdR_inj hv h2
  rw [hr, e]
end Go.Proofs.Ytjnhaabbnbcaeaa

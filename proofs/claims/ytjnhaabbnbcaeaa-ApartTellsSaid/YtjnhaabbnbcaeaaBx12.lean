/- Joined: ApL, ApS, AwN, AwM. -/
import Derived.Test.YtjnhaabbnbcaeaaBx02
import Derived.Laws.AppendOwnNone
import Derived.Deep.RegionLaw
import Derived.SizedLaws
import Derived.Test.YtjnhaabbnbcaeaaBx07
import Derived.Maps.OwnSet
import Derived.Maps.StringElems
import Derived.StringKeys
import Derived.Carry
/- 'append' of a list that is known by its values, perhaps nil, to an own row. -/
set_option linter.unusedVariables false
set_option linter.unusedSimpArgs false
namespace Go.Proofs.Ytjnhaabbnbcaeaa
open Go.RowKit Go.Sort

theorem run_append_none_c {P : Program} {w : World} (base : Nat) (t ty e : TypeId) (i : TypeInfo) (size : Nat) (ht : P.underlying t = some (.slice e)) (hi : P.info? e = some i)
    (v : Value) (n c : Nat) (xs : List Value) (hown : w.ownsRow base e size v n xs) :
    (Builtin.append_ #[t, t] ty #[v, .slice none 0 c]).run P w = .ok v w := by
  rcases hown.2 with ⟨rfl, rfl⟩ | ⟨g, cap, cur, rfl, _, _, hnc, _⟩
  · simp [Builtin.append_, run_underlying ht, sizeOf, typeInfo, hi, Builtin.lenOf, Builtin.firstCells]
  · simp [Builtin.append_, run_underlying ht, sizeOf, typeInfo, hi, Builtin.lenOf, Builtin.firstCells, hnc, storeCells]
/-- The list may be nil. -/
theorem wpList_append_lst {P : Program} {w : World} {ops : Array Oper} {rest : List Oper} {o : Oper} {a : Act} {Q : Exit → Act → World → Prop} (hgd : o.guard = none) (s x : Operand) (t : TypeId)
    (ho : o.op = .call { callee := .builtin .append, args := #[s, x], argTypes := #[t, t] })
    (base : Nat) (e : TypeId) (i : TypeInfo) (z : Value) (size bytes : Nat) (ht : P.underlying t = some (.slice e)) (hi : P.info? e = some i) (hz : i.zero = some z)
    (hsize : i.size = size) (hby : i.bytes = bytes) (hzs : z.cells.size = size) (hsz : 0 < size)
    (v : Value) (n : Nat) (xs : List Value) (hs : a.eval s = v) (hown : w.ownsRow base e size v n xs)
    (B m : Nat) (vx : Value) (news : List Value) (hx : a.eval x = vx) (hL : Lst w B vx m news) (hl : news.length = m * size) (h1 : ∀ u ∈ news, u.oneCell' = true)
    (h63 : n + m ≤ maxLen) (hbytes : (n + m) * bytes ≤ 140737488355328) (hbase : base ≤ w.heap.size)
    (h : ∀ v' w', w'.ownsRow base e size v' (n + m) (xs ++ news) → w.grownBy w' v.ownBlock → wpList P ops Q rest (a.put o.dst v') w') : wpList P ops Q (o :: rest) a w := by
  obtain ⟨A, c, rfl, hA⟩ := hL
  rcases Nat.eq_zero_or_pos m with h0 | h0
  · subst h0
    have hn : news = [] := List.eq_nil_of_length_eq_zero (by rw [hl, Nat.zero_mul])
    subst hn
    cases A with
    | none =>
      refine wpList_plain hgd fun K hK => ?_
      have hrun := run_append_none_c (P := P) (w := w) base t o.type e i size ht hi v n c xs hown
      unfold Oper.wp
      simp [execOp, ho, resolve, invoke, builtin, hs, hx, hrun, Result.andThen]
      exact hK _ _ (h v w (by simpa using hown) ⟨rfl, rfl, rfl, Nat.le_refl _, fun _ _ _ => rfl⟩)
    | some ad => exact wpList_append_own _ hgd s x t ho base e i z size bytes ht hi hz hsize hby hzs hsz v n xs hs hown ad 0 c [] hx hl (fun j u hu => by simp at hu) h1 h63 hbytes hbase fun v' w' h2 h3 _ => h v' w' h2 h3
  · obtain ⟨ad, rfl, _, hc⟩ := hA h0
    exact wpList_append_own _ hgd s x t ho base e i z size bytes ht hi hz hsize hby hzs hsz v n xs hs hown ad m c news hx hl hc h1 h63 hbytes hbase fun v' w' h2 h3 _ => h v' w' h2 h3
theorem spc_len (l : List (Int × Int)) : (spc l).length = l.length * 2 := by
  induction l with
  | nil => rfl
  | cons p l ih => unfold spc at *; rw [List.flatMap_cons, List.length_append, ih, List.length_cons]; simp; omega
theorem spc_one (l : List (Int × Int)) : ∀ u ∈ spc l, u.oneCell' = true := by
  intro u hu
  unfold spc at hu
  obtain ⟨p, _, hp⟩ := List.mem_flatMap.1 hu
  simp at hp
  rcases hp with rfl | rfl <;> rfl
end Go.Proofs.Ytjnhaabbnbcaeaa

/- 'append' to an own row, as a step of a region that draws: of a list that is known by its values, perhaps nil. -/
set_option linter.unusedVariables false
set_option linter.unusedSimpArgs false
namespace Go.Proofs.Ytjnhaabbnbcaeaa
open Go.RowKit Go.Sort

theorem step_append_lst {P : Program} {ops : Array Oper} {o : Oper} {a : Act} {w : World} {K : Act → World → Prop} {Q : Exit → Act → World → Prop} {E : Prop} (hg : o.guard = none) (s x : Operand) (t : TypeId)
    (ho : o.op = .call { callee := .builtin .append, args := #[s, x], argTypes := #[t, t] })
    (base : Nat) (e : TypeId) (i : TypeInfo) (z : Value) (size bytes : Nat) (ht : P.underlying t = some (.slice e)) (hi : P.info? e = some i) (hz : i.zero = some z)
    (hsize : i.size = size) (hby : i.bytes = bytes) (hzs : z.cells.size = size) (hsz : 0 < size)
    (v : Value) (n : Nat) (xs : List Value) (hs : a.eval s = v) (hown : w.ownsRow base e size v n xs)
    (B m : Nat) (vx : Value) (news : List Value) (hx : a.eval x = vx) (hL : Lst w B vx m news) (hl : news.length = m * size) (h1 : ∀ u ∈ news, u.oneCell' = true)
    (h63 : n + m ≤ maxLen) (hbytes : (n + m) * bytes ≤ 140737488355328) (hbase : base ≤ w.heap.size)
    (h : ∀ v' w', w'.ownsRow base e size v' (n + m) (xs ++ news) → w.grownBy w' v.ownBlock → K (a.put o.dst v') w') : if Region.wanted o (yielded ops a.tmps) = true then Oper.wp P o a w K Q else E := by
  rw [if_pos (by simp [Region.wanted, hg])]
  obtain ⟨A, c, rfl, hA⟩ := hL
  rcases Nat.eq_zero_or_pos m with h0 | h0
  · subst h0
    have hn : news = [] := List.eq_nil_of_length_eq_zero (by rw [hl, Nat.zero_mul])
    subst hn
    cases A with
    | none =>
      have hrun := run_append_none_c (P := P) (w := w) base t o.type e i size ht hi v n c xs hown
      unfold Oper.wp
      simp [execOp, ho, resolve, invoke, builtin, hs, hx, hrun, Result.andThen]
      exact h v w (by simpa using hown) ⟨rfl, rfl, rfl, Nat.le_refl _, fun _ _ _ => rfl⟩
    | some ad => exact wp_append_own w s x t ho base e i z size bytes ht hi hz hsize hby hzs hsz v n xs hs hown ad 0 c [] hx hl (fun j u hu => by simp at hu) h1 h63 hbytes hbase fun v' w' h2 h3 _ => h v' w' h2 h3
  · obtain ⟨ad, rfl, _, hc⟩ := hA h0
    exact wp_append_own w s x t ho base e i z size bytes ht hi hz hsize hby hzs hsz v n xs hs hown ad m c news hx hl hc h1 h63 hbytes hbase fun v' w' h2 h3 _ => h v' w' h2 h3
theorem below_gro {w W W' : World} {row : Option Nat} (h : Below w.heap.size w W) (g : W.grownBy W' row) (hr : ∀ k, row = some k → w.heap.size ≤ k) : Below w.heap.size w W' := h.trans (below_grown g h.size hr)
end Go.Proofs.Ytjnhaabbnbcaeaa

/- 'append' to an own row: where the row lies behind it: where it lay, or in a new block. -/
set_option linter.unusedVariables false
set_option linter.unusedSimpArgs false
namespace Go.Proofs.Ytjnhaabbnbcaeaa
open Go.RowKit Go.Sort

/-- Where it lay, or in a new block. -/
def Fresh (w : World) (v v' : Value) : Prop := v'.ownBlock = v.ownBlock ∨ ∃ g, v'.ownBlock = some g ∧ w.heap.size ≤ g
theorem run_append_fresh {P : Program} (w : World) (base : Nat) (t ty e : TypeId) (i : TypeInfo) (z : Value) (size bytes : Nat) (ht : P.underlying t = some (.slice e)) (hi : P.info? e = some i) (hz : i.zero = some z)
    (hsize : i.size = size) (hby : i.bytes = bytes) (hzs : z.cells.size = size) (hsz : 0 < size)
    (v : Value) (n : Nat) (xs : List Value) (hown : w.ownsRow base e size v n xs)
    (a : Addr) (m c : Nat) (news : List Value) (hl : news.length = m * size) (hnews : ∀ j u, news[j]? = some u → w.cell? (a.add j) = some u) (h1 : ∀ u ∈ news, u.oneCell' = true)
    (h63 : n + m ≤ maxLen) (hbytes : (n + m) * bytes ≤ 140737488355328) (hbase : base ≤ w.heap.size) :
    ∃ v' w', (Builtin.append_ #[t, t] ty #[v, .slice (some a) m c]).run P w = .ok v' w' ∧ w'.ownsRow base e size v' (n + m) (xs ++ news) ∧ w.grownBy w' v.ownBlock ∧ Fresh w v v' := by
  obtain ⟨v', w', hr, h2, h3, -⟩ := run_append_own (P := P) w base t ty e i z size bytes ht hi hz hsize hby hzs hsz v n xs hown a m c news hl hnews h1 h63 hbytes hbase
  refine ⟨v', w', hr, h2, h3, ?_⟩
  rcases hown.2 with ⟨rfl, rfl⟩ | ⟨g, cap, cur, rfl, hbg, hg, hnc, hcm, hcs, htake⟩
  · have hx : xs = [] := List.eq_nil_of_length_eq_zero (by simpa using hown.1)
    subst hx
    obtain ⟨v2, w2, hr2, k2, -, -⟩ := run_append_own (P := P) w w.heap.size t ty e i z size bytes ht hi hz hsize hby hzs hsz (.slice none 0 0) 0 [] (World.ownsRow_nil w w.heap.size e size) a m c news hl hnews h1 h63 hbytes (Nat.le_refl _)
    rw [hr] at hr2
    injection hr2 with e1 e2
    subst e1; subst e2
    cases hv : v'.ownBlock with
    | none => exact .inl hv
    | some g => exact .inr ⟨g, hv, (k2.lt g hv).1⟩
  · subst hsize
    subst hby
    by_cases hroom : n + m ≤ cap
    · have hfit : n * i.size + news.length ≤ cur.size := by rw [hl, hcs, ← Nat.add_mul]; exact Nat.mul_le_mul_right _ hroom
      have hr2 := run_append_room (P := P) w t ty e i ht hi g n cap cur hg a m c news hl hnews h1 hroom hfit
      rw [hr] at hr2
      injection hr2 with e1 e2
      subst e1
      exact .inl rfl
    · have hsmall : n + m ≤ 9223372036854775807 := by simp only [maxLen] at h63; omega
      have holds : ∀ j u, xs[j]? = some u → w.cell? ((⟨g, 0, none⟩ : Addr).add j) = some u := hown.cells (g := g) rfl
      have hr2 := run_append_grow (P := P) w t ty e i z ht hi hz ⟨g, 0, none⟩ n cap xs hown.1 holds a m c news hl hnews (by omega) (by omega) (growslice_fits (by omega) hbytes)
      rw [hr] at hr2
      injection hr2 with e1 e2
      subst e1
      exact .inr ⟨_, rfl, Nat.le_refl _⟩
/-- As a step of a region that draws. -/
theorem step_append_fresh {P : Program} {ops : Array Oper} {o : Oper} {a : Act} {w : World} {K : Act → World → Prop} {Q : Exit → Act → World → Prop} {E : Prop} (hg : o.guard = none) (s x : Operand) (t : TypeId)
    (ho : o.op = .call { callee := .builtin .append, args := #[s, x], argTypes := #[t, t] })
    (base : Nat) (e : TypeId) (i : TypeInfo) (z : Value) (size bytes : Nat) (ht : P.underlying t = some (.slice e)) (hi : P.info? e = some i) (hz : i.zero = some z)
    (hsize : i.size = size) (hby : i.bytes = bytes) (hzs : z.cells.size = size) (hsz : 0 < size)
    (v : Value) (n : Nat) (xs : List Value) (hs : a.eval s = v) (hown : w.ownsRow base e size v n xs)
    (ad : Addr) (m c : Nat) (news : List Value) (hx : a.eval x = .slice (some ad) m c) (hl : news.length = m * size) (hnews : ∀ j u, news[j]? = some u → w.cell? (ad.add j) = some u) (h1 : ∀ u ∈ news, u.oneCell' = true)
    (h63 : n + m ≤ maxLen) (hbytes : (n + m) * bytes ≤ 140737488355328) (hbase : base ≤ w.heap.size)
    (h : ∀ v' w', w'.ownsRow base e size v' (n + m) (xs ++ news) → w.grownBy w' v.ownBlock → Fresh w v v' → K (a.put o.dst v') w') : if Region.wanted o (yielded ops a.tmps) = true then Oper.wp P o a w K Q else E := by
  rw [if_pos (by simp [Region.wanted, hg])]
  obtain ⟨v', w', hr, h2, h3, h4⟩ := run_append_fresh (P := P) w base t o.type e i z size bytes ht hi hz hsize hby hzs hsz v n xs hown ad m c news hl hnews h1 h63 hbytes hbase
  unfold Oper.wp execOp
  simp only [ho, resolve, invoke, builtin, Sem.run_bind, Sem.run_pure, Result.andThen_ok, List.map_toArray, List.map_cons, List.map_nil, hs, hx, hr]
  exact h v' w' h2 h3 h4
theorem wpList_append_fresh {P : Program} {w : World} {ops : Array Oper} {rest : List Oper} {o : Oper} {a : Act} {Q : Exit → Act → World → Prop} (hgd : o.guard = none) (s x : Operand) (t : TypeId)
    (ho : o.op = .call { callee := .builtin .append, args := #[s, x], argTypes := #[t, t] })
    (base : Nat) (e : TypeId) (i : TypeInfo) (z : Value) (size bytes : Nat) (ht : P.underlying t = some (.slice e)) (hi : P.info? e = some i) (hz : i.zero = some z)
    (hsize : i.size = size) (hby : i.bytes = bytes) (hzs : z.cells.size = size) (hsz : 0 < size)
    (v : Value) (n : Nat) (xs : List Value) (hs : a.eval s = v) (hown : w.ownsRow base e size v n xs)
    (ad : Addr) (m c : Nat) (news : List Value) (hx : a.eval x = .slice (some ad) m c) (hl : news.length = m * size) (hnews : ∀ j u, news[j]? = some u → w.cell? (ad.add j) = some u) (h1 : ∀ u ∈ news, u.oneCell' = true)
    (h63 : n + m ≤ maxLen) (hbytes : (n + m) * bytes ≤ 140737488355328) (hbase : base ≤ w.heap.size)
    (h : ∀ v' w', w'.ownsRow base e size v' (n + m) (xs ++ news) → w.grownBy w' v.ownBlock → Fresh w v v' → wpList P ops Q rest (a.put o.dst v') w') : wpList P ops Q (o :: rest) a w := by
  refine wpList_plain hgd fun K hK => ?_
  obtain ⟨v', w', hr, h2, h3, h4⟩ := run_append_fresh (P := P) w base t o.type e i z size bytes ht hi hz hsize hby hzs hsz v n xs hown ad m c news hl hnews h1 h63 hbytes hbase
  unfold Oper.wp execOp
  simp only [ho, resolve, invoke, builtin, Sem.run_bind, Sem.run_pure, Result.andThen_ok, List.map_toArray, List.map_cons, List.map_nil, hs, hx, hr]
  exact hK _ _ (h v' w' h2 h3 h4)
end Go.Proofs.Ytjnhaabbnbcaeaa

/- A map of rows: each name's row lies in a block of its own. -/
set_option linter.unusedVariables false
set_option linter.unusedSimpArgs false
namespace Go.Proofs.Ytjnhaabbnbcaeaa
open Go.RowKit Go.Sort

namespace Aw
def cc (l : List C) : List Value := l.flatMap encC
theorem cc_app (l k : List C) : cc (l ++ k) = cc l ++ cc k := by unfold cc; rw [List.flatMap_append]
theorem cc_cons (p : C) (l : List C) : cc (p :: l) = .int .i64 p.1 :: .int .i64 p.2.1 :: .int .i64 p.2.2.1 :: .int .i64 p.2.2.2.1 :: .int .i64 p.2.2.2.2 :: cc l := rfl
theorem cc_len (l : List C) : (cc l).length = l.length * 5 := by
  induction l with
  | nil => rfl
  | cons p l ih => rw [cc_cons]; simp only [List.length_cons]; omega
theorem cc_one (l : List C) : ∀ u ∈ cc l, u.oneCell' = true := by
  intro u hu
  unfold cc at hu
  obtain ⟨p, _, hp⟩ := List.mem_flatMap.1 hu
  simp [encC] at hp
  rcases hp with rfl | rfl | rfl | rfl | rfl <;> rfl
theorem cc_at (l : List C) (k c : Nat) (h : k < l.length) (hc : c < 5) : (cc l)[k * 5 + c]? = (encC l[k])[c]? := by
  induction l generalizing k with
  | nil => exact absurd h (by simp)
  | cons p l ih =>
    cases k with
    | zero =>
      rw [cc_cons]
      match c, hc with
      | 0, _ => rfl
      | 1, _ => rfl
      | 2, _ => rfl
      | 3, _ => rfl
      | 4, _ => rfl
    | succ k =>
      have := ih k (by simpa using h)
      rw [cc_cons, show (k + 1) * 5 + c = (k * 5 + c) + 1 + 1 + 1 + 1 + 1 by omega]
      simpa using this
/-- How a row's place reads. -/
def hdR (v : Value) : Option (DataW Unit × List MemPlace) :=
  match v with
  | .slice none 0 0 => some (.agg [], [])
  | .slice (some ⟨g, 0, none⟩) n c => some (.agg [.lit (.int .i64 g), .lit (.int .i64 n), .lit (.int .i64 c)], [])
  | _ => none
theorem hdR_inj {v v' : Value} {z : DataW Unit × List MemPlace} (h : hdR v = some z) (h' : hdR v' = some z) : v = v' := by
  unfold hdR at h h'
  split at h
  · split at h'
    · rfl
    · rw [← h'] at h; simp at h
    · cases h'
  · split at h'
    · rw [← h'] at h; simp at h
    · rw [← h'] at h
      simp at h
      obtain ⟨h1, h2, h3⟩ := h
      have h1 := Int.ofNat.inj h1; have h2 := Int.ofNat.inj h2; have h3 := Int.ofNat.inj h3
      subst h1; subst h2; subst h3; rfl
    · cases h'
  · cases h
theorem hdR_own {w : World} {base size n : Nat} {e : TypeId} {v : Value} {xs : List Value} (h : w.ownsRow base e size v n xs) : ∃ d, hdR v = some (d, []) := by
  rcases h.2 with ⟨rfl, _⟩ | ⟨g, cap, cur, rfl, _⟩
  · exact ⟨_, rfl⟩
  · exact ⟨_, rfl⟩
def key (s : ByteArray) : Lit := .string s.data.toList
theorem key_ne {s s' : ByteArray} (h : s ≠ s') : key s ≠ key s' := fun e => h (by
  have e1 : s.data.toList = s'.data.toList := by injection e
  exact ByteArray.ext (Array.toList_inj.1 e1))
/-- The map says where each name's row lies. -/
def KR (f : ByteArray → Value) (D : DataW Unit) : Prop := Maps.Tidy D ∧ ∀ s, hdR (f s) = some (D.atKey (key s) (.agg []), [])
theorem kr_nil : KR (fun _ => .slice none 0 0) (.map []) := ⟨⟨[], rfl, List.Pairwise.nil⟩, fun _ => rfl⟩
def upd (f : ByteArray → Value) (k : ByteArray) (v : Value) (s : ByteArray) : Value := if s = k then v else f s
theorem upd_same (f : ByteArray → Value) (k : ByteArray) (v : Value) : upd f k v k = v := if_pos rfl
theorem upd_other (f : ByteArray → Value) (k : ByteArray) (v : Value) {s : ByteArray} (h : s ≠ k) : upd f k v s = f s := if_neg h
theorem kr_put {f : ByteArray → Value} {D : DataW Unit} (h : KR f D) (k : ByteArray) {v : Value} {d : DataW Unit} (hv : hdR v = some (d, [])) : KR (upd f k v) (D.put (key k) d) := by
  have hk : WideAt.IsKeyLit (key k) := trivial
  refine ⟨h.1.put hk _, fun s => ?_⟩
  by_cases e : s = k
  · subst e
    rw [upd_same, Maps.atKey_put_same h.1.isMap hk]; exact hv
  · rw [upd_other _ _ _ e, Maps.atKey_put_other (key_ne e)]; exact h.2 s
/-- The rows themselves. -/
structure Rows (W : World) (N : Nat) (f : ByteArray → Value) (pre : List R) : Prop where
  own : ∀ s, W.ownsRow N 44 5 (f s) (named s pre).length (cc (named s pre))
  ne : ∀ s s', s ≠ s' → ∀ g, (f s).ownBlock = some g → (f s').ownBlock ≠ some g
theorem Rows.nil (W : World) (N : Nat) : Rows W N (fun _ => .slice none 0 0) [] := ⟨fun s => World.ownsRow_nil _ _ _ _, fun s s' _ g h => by cases h⟩
theorem Rows.on {W W' : World} {N : Nat} {f : ByteArray → Value} {pre : List R} (h : Rows W N f pre) (k : Below W.heap.size W W') : Rows W' N f pre := ⟨fun s => own_on (h.own s) k, h.ne⟩
theorem Rows.push {W W' : World} {N : Nat} {f : ByteArray → Value} {pre : List R} (h : Rows W N f pre) (r : R) {v : Value} (own : W'.ownsRow N 44 5 v ((named r.1 pre).length + 1) (cc (named r.1 pre) ++ cc [rc r]))
    (g : W.grownBy W' (f r.1).ownBlock) (fr : Fresh W (f r.1) v) : Rows W' N (upd f r.1 v) (pre ++ [r]) := by
  refine ⟨fun s => ?_, fun s s' hs k hk => ?_⟩
  · by_cases e : s = r.1
    · subst e
      rw [upd_same, named_app, if_pos rfl, cc_app, List.length_append]
      exact own
    · rw [upd_other _ _ _ e, named_app, if_neg (fun e' => e e'.symm), List.append_nil]
      refine (h.own s).kept g ?_
      cases hb : (f s).ownBlock with
      | none => exact .inl rfl
      | some b => exact .inr (fun e' => h.ne s r.1 e b hb e'.symm)
  · by_cases e : s = r.1
    · subst e
      rw [upd_same] at hk
      rw [upd_other _ _ _ (fun e' => hs e'.symm)]
      intro hb
      rcases fr with fr | ⟨b, hb2, hlt⟩
      · rw [hk] at fr
        exact h.ne _ _ hs k fr.symm hb
      · rw [hk] at hb2
        injection hb2 with hb2
        have := ((h.own s').lt k hb).2
        omega
    · rw [upd_other _ _ _ e] at hk
      by_cases e' : s' = r.1
      · subst e'
        rw [upd_same]
        intro hb
        rcases fr with fr | ⟨b, hb2, hlt⟩
        · rw [hb] at fr
          exact h.ne _ _ hs k hk fr.symm
        · rw [hb] at hb2
          injection hb2 with hb2
          have := ((h.own s).lt k hk).2
          omega
      · rw [upd_other _ _ _ e']; exact h.ne s s' hs k hk
end Aw
abbrev MpR (W : World) (b n : Nat) (D : DataW Unit) : Prop := W.ownsMap Try.prog 9 Aw.hdR b n D
theorem mpr_on {W W' : World} {b n : Nat} {D : DataW Unit} (h : MpR W b n D) (k : Below W.heap.size W W') : MpR W' b n D := h.kept (row := none) ⟨k.os, k.tape, k.output, k.size, fun i hi _ => k.block i hi⟩ (by simp)
theorem mpr_look {W : World} {b n : Nat} {D : DataW Unit} {f : ByteArray → Value} (h : MpR W b n D) (K : Aw.KR f D) (s : ByteArray) (hs : s.size ≤ maxLen) :
    (Instr.lookup 59 (.map (some b)) (.string s) false).run Try.prog W = .ok (f s) W := by
  obtain ⟨v, ps, hr, hv⟩ := World.ownsMap.lookup h (Maps.string_keyed Try.underlying9) Try.underlying59 (Try.zeroValue60 W) (zd := .agg []) (zp := []) rfl (WideMaps.keyOf_string_mk Try.underlying9 hs)
  have h2 := K.2 s
  have e : v = f s := by
    have h3 : ps = [] := by
      unfold Aw.hdR at hv
      split at hv
      · injection hv with hv; injection hv with _ e; exact e.symm
      · injection hv with hv; injection hv with _ e; exact e.symm
      · cases hv
    subst h3
    exact Aw.hdR_inj hv h2
  rw [hr, e]
end Go.Proofs.Ytjnhaabbnbcaeaa

/- Joined: QyL. -/
import Derived.Test.YtbcbggdbojonmaaGreatDoorBq20
import Derived.Test.YtbcbggdbojonmaaGreatDoorBq23
import Derived.Test.YtbcbggdbojonmaaGreatDoorLaidJ
import Derived.Shelf.Strings.OnBuilder
set_option linter.unusedVariables false
set_option linter.unusedSimpArgs false
namespace Go.Proofs.YtbcbggdbojonmaaGreatDoor
open Go.RowKit Go.Sort
namespace Qy
def stx (q : Q) (s : Int) : List UInt8 := if s = 0 then q.2.1 else if s = 1 ∨ s = 5 then Lib.itoa q.2.2.1 else if s = 2 ∨ s = 6 then Lib.itoa q.2.2.2.1 else if s = 3 then word units q.2.2.2.2.1 else word pols q.2.2.2.2.2
theorem parts_sl (k : Nat) (z : List UInt8) (t n u p : Int) (h8 : k < 8) : parts ((k : Int), z, t, n, u, p) = word heads k :: (sl k).map (stx ((k : Int), z, t, n, u, p)) := by
 obtain rfl | rfl | rfl | rfl | rfl | rfl | rfl | rfl : k = 0 ∨ k = 1 ∨ k = 2 ∨ k = 3 ∨ k = 4 ∨ k = 5 ∨ k = 6 ∨ k = 7 := by omega
 all_goals rfl
theorem parts_out (q : Q) (h : q.1 < 0 ∨ 8 ≤ q.1) : sj (parts q) = [] := by
 obtain ⟨k, z, t, n, u, p⟩ := q
 have h : k < 0 ∨ 8 ≤ k := h
 have l : heads.length = 7 := rfl
 have e : parts (k, z, t, n, u, p) = [word heads k] := by
  unfold parts
  dsimp only
  rw [if_neg (by omega), if_neg (by omega), if_neg (by omega), if_neg (by omega)]
 have e2 : word heads k = [] := if_neg (by rw [l]; omega)
 rw [e, e2]
 rfl
theorem sr_join : ∀ (r : List (List UInt8)), sr r = Lib.joinTail [32] r
 | [] => rfl
 | x :: r => by
  show 32 :: (x ++ sr r) = ((x :: r).map ([32] ++ ·)).flatten
  rw [List.map_cons, List.flatten_cons, sr_join r]
  rfl
theorem sj_join (l : List (List UInt8)) : sj l = Lib.join l [32] := by
 match l with
 | [] => rfl
 | x :: r => rw [Lib.join_cons, ← sr_join]; rfl
theorem word_len (n : Int) : (word heads n).length ≤ 10 ∧ (word units n).length ≤ 10 ∧ (word pols n).length ≤ 10 := by
 refine ⟨?_, ?_, ?_⟩
 ·
  unfold word
  split
  ·
   rename_i h
   have l : heads.length = 7 := rfl
   rw [l] at h
   obtain rfl | rfl | rfl | rfl | rfl | rfl | rfl : n = 1 ∨ n = 2 ∨ n = 3 ∨ n = 4 ∨ n = 5 ∨ n = 6 ∨ n = 7 := by omega
   all_goals decide
  ·
   simp
 ·
  unfold word
  split
  ·
   rename_i h
   have l : units.length = 4 := rfl
   rw [l] at h
   obtain rfl | rfl | rfl | rfl : n = 1 ∨ n = 2 ∨ n = 3 ∨ n = 4 := by omega
   all_goals decide
  ·
   simp
 ·
  unfold word
  split
  ·
   rename_i h
   have l : pols.length = 3 := rfl
   rw [l] at h
   obtain rfl | rfl | rfl : n = 1 ∨ n = 2 ∨ n = 3 := by omega
   all_goals decide
  ·
   simp
theorem stx_len (q : Q) (ht : An.bd q.2.2.1) (hn : An.bd q.2.2.2.1) (s : Int) : (stx q s).length ≤ q.2.1.length + 64 := by
 have a := Nat.le_trans (Lib.itoa_length_le q.2.2.1 ht.1 ht.2) (show _ ≤ 64 by decide)
 have b := Nat.le_trans (Lib.itoa_length_le q.2.2.2.1 hn.1 hn.2) (show _ ≤ 64 by decide)
 have c := (word_len q.2.2.2.2.1).2.1
 have d := (word_len q.2.2.2.2.2).2.2
 unfold stx
 repeat' split
 all_goals omega
theorem sr_len (m : Nat) : ∀ (l : List (List UInt8)), (∀ x ∈ l, x.length ≤ m) → (sr l).length ≤ (m + 1) * l.length
 | [], _ => Nat.le_refl _
 | x :: l, h => by
  have a := sr_len m l (fun y hy => h y (List.mem_cons_of_mem _ hy))
  have hx := h x (List.mem_cons_self ..)
  show (32 :: (x ++ sr l)).length ≤ _
  simp only [List.length_cons, List.length_append, Nat.mul_succ]; omega
theorem sl_len (k : Nat) (h8 : k < 8) : (sl k).length ≤ 5 := by
 obtain rfl | rfl | rfl | rfl | rfl | rfl | rfl | rfl : k = 0 ∨ k = 1 ∨ k = 2 ∨ k = 3 ∨ k = 4 ∨ k = 5 ∨ k = 6 ∨ k = 7 := by omega
 all_goals decide
theorem sj_len (k : Nat) (z : List UInt8) (t n u p : Int) (h8 : k < 8) (ht : An.bd t) (hn : An.bd n) : (sj (parts ((k : Int), z, t, n, u, p))).length ≤ 6 * z.length + 1000 := by
 rw [parts_sl k z t n u p h8]
 show (word heads k ++ sr _).length ≤ _
 have a := sr_len (z.length + 64) ((sl k).map (stx ((k : Int), z, t, n, u, p))) (fun x hx => by
  obtain ⟨s, -, rfl⟩ := List.mem_map.1 hx
  exact stx_len ((k : Int), z, t, n, u, p) ht hn s)
 have b := (word_len (k : Int)).1
 have c := sl_len k h8
 rw [List.length_map] at a
 rw [List.length_append]
 have d : (z.length + 64 + 1) * (sl k).length ≤ (z.length + 64 + 1) * 5 := Nat.mul_le_mul_left _ c
 omega
end Qy
theorem extra156 : Builder.Extra Tryz.prog Tryz.lays156_ren := { sizeBuilder := by kernel_rfl, liesBuilder := by kernel_rfl, t5 := Tryz.underlying5, a5 := Tryz.isAgg5, z5 := Tryz.sizeOf5, v5 := Tryz.zeroValue5, infoByte := by kernel_rfl, cellsByte := by kernel_rfl, sizeByte := by kernel_rfl, neB5 := by decide }
theorem qjoin_any (v : Value) (l : List ByteArray) (w : World) (base : Nat) (hown : w.ownsRow base 9 1 v l.length (l.map Value.string)) (hp : 0 < l.length) (hl : l.length ≤ 100) (hz : (Qy.sj (l.map (·.data.toList))).length ≤ 10000000) :
  Calls Tryz.prog 61 #[v, .string ⟨#[32]⟩] w fun e w' => e = .returned (.string ⟨(Qy.sj (l.map (·.data.toList))).toArray⟩) ∧ Below w.heap.size w w' := by
 rcases hown.2 with ⟨-, h0⟩ | ⟨g, cap, cur, rfl, hb, hg, hc, hm, hs, ht⟩
 ·
  omega
 ·
  have hlt := (hown.lt g rfl).2
  have hcl := hown.cells (g := g) rfl
  rw [Qy.sj_join] at hz ⊢
  refine Any.strings_Join Tryz.lays156 extra156 g 0 cap l ⟨#[32]⟩ w (fun j x hx => ?_) hlt (by omega) hc (by show (Lib.join _ [32]).length ≤ _; omega)
  have := hcl j (.string x) (by rw [List.getElem?_map, hx]; rfl)
  rw [show (⟨g, 0, none⟩ : Addr).add j = ⟨g, 0 + j, none⟩ by cases j with | zero => rfl | succ j => exact Addr.add_succ' ..] at this
  exact this
theorem qstext_any (s : Int) (h0 : 0 ≤ s) (h6 : s ≤ 6) (k t n u p : Int) (z : List UInt8) (w : World) (ht : An.bd t) (hn : An.bd n) (T : Lib.TabIs Tryz.prog w "internal/strconv.uint64pow10" .u64 Lib.pow10Tab) :
  Calls Tryz.prog 60 #[.int .i64 s, Qy.V (k, z, t, n, u, p)] w fun e w' => e = .returned (.string ⟨(Qy.stx (k, z, t, n, u, p) s).toArray⟩) ∧ Below w.heap.size w w' := by
 obtain rfl | rfl | rfl | rfl | rfl | rfl | rfl : s = 0 ∨ s = 1 ∨ s = 2 ∨ s = 3 ∨ s = 4 ∨ s = 5 ∨ s = 6 := by omega
 ·
  exact qstext_z k t n u p ⟨z.toArray⟩ w
 ·
  exact qstext_t1 k t n u p ⟨z.toArray⟩ w ht T
 ·
  exact qstext_n2 k t n u p ⟨z.toArray⟩ w hn T
 ·
  exact qstext_u k t n u p ⟨z.toArray⟩ w
 ·
  exact qstext_p k t n u p ⟨z.toArray⟩ w
 ·
  exact qstext_t5 k t n u p ⟨z.toArray⟩ w ht T
 ·
  exact qstext_n6 k t n u p ⟨z.toArray⟩ w hn T
end Go.Proofs.YtbcbggdbojonmaaGreatDoor

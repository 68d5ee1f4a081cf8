/- Joined: RuD, GvM. -/
import Derived.Test.YtpggfhmnhbnefaaGreatDoorBe10
import Derived.Test.YtpggfhmnhbnefaaGreatDoorBe15
import Derived.Test.YtpggfhmnhbnefaaGreatDoorBe14
import Derived.Test.YtpggfhmnhbnefaaGreatDoorBe16
import Derived.Test.YtpggfhmnhbnefaaGreatDoorBe08
import Derived.Test.YtpggfhmnhbnefaaGreatDoorBe01
set_option linter.unusedVariables false
set_option linter.unusedSimpArgs false
namespace Go.Proofs.YtpggfhmnhbnefaaGreatDoor
open Go.RowKit Go.Sort
namespace Ru
structure Lv (w : World) (tp : TypeId) (p : Value) (y : Int) : Prop where
 tab : Lib.TabIs Tryz.prog w "internal/strconv.uint64pow10" .u64 Lib.pow10Tab
 rng : w.var? Tryz.prog "strconv.ErrRange" = some #[.iface tp p]
 mon : Wd.Tabs w
 ltr : Cl.Tab w
 mx : w.cell? ⟨3, 0, none⟩ = some (.int .i64 y)
theorem Lv.days {w : World} {tp : TypeId} {p : Value} {y : Int} (h : Lv w tp p y) : Wd.DTabs w := ⟨h.mon.d0, h.mon.d1, h.mon.d2, h.mon.d3, h.mon.d4, h.mon.d5, h.mon.d6⟩
theorem Lv.on {w w' : World} {tp : TypeId} {p : Value} {y : Int} (h : Lv w tp p y) (k : Below w.heap.size w w') : Lv w' tp p y :=
 ⟨var_keep k h.tab, var_keep k h.rng, h.mon.on k, h.ltr.on k, fd_keep h.mx k⟩
def fst : List Int → Int
 | [] => 0
 | q :: r => if q = 0 then fst r else q
theorem fst_yes {q : Int} {r : List Int} (h : q = 0) : fst (q :: r) = fst r := if_pos h
theorem fst_no {q : Int} {r : List Int} (h : q ≠ 0) : fst (q :: r) = q := if_neg h
structure R where
 s : ByteArray
 fy : Int
 ty : Int
 m : Int
 k : Int
 wk : Int
 d : Int
 sec : Int
 base : Int
 save : Int
 t : ByteArray
def R0 : R := ⟨⟨#[]⟩, 0, 0, 0, 0, 0, 0, 0, 0, 0, ⟨#[]⟩⟩
def R.v (r : R) : Value := .agg #[.string r.s, .int .i64 r.fy, .int .i64 r.ty, .int .i64 r.m, .int .i64 r.k, .int .i64 r.wk, .int .i64 r.d, .int .i64 r.sec, .int .i64 r.base, .int .i64 r.save, .string r.t]
def mo (f : ByteArray) : Int := Wd.up (Wd.mat f.data.toList Wd.months)
def ws (f0 f1 f2 f3 f4 f5 f6 f7 f8 : ByteArray) : List Int :=
 [Lk.nm f0.data.toList, (Yr.fr f1.data.toList).2, (Yr.to f2.data.toList (Yr.fr f1.data.toList).1).2, if f3 = ⟨#[45]⟩ then 0 else 3, (Wd.mat f4.data.toList Wd.months).2,
  (dy f5.data.toList (mo f4)).2.2.2, (Cl.rd f6).2.2, (sv f7).2, (Fo.lt f8.data.toList).2]
def rl (f0 f1 f2 f4 f5 f6 f7 f8 : ByteArray) : R :=
 ⟨f0, (Yr.fr f1.data.toList).1, (Yr.to f2.data.toList (Yr.fr f1.data.toList).1).1, mo f4, (dy f5.data.toList (mo f4)).1, (dy f5.data.toList (mo f4)).2.1, (dy f5.data.toList (mo f4)).2.2.1,
  (Cl.rd f6).1, (Cl.rd f6).2.1, (sv f7).1, ⟨(Fo.lt f8.data.toList).1.toArray⟩⟩
def rd : List ByteArray → R × Int
 | [f0, f1, f2, f3, f4, f5, f6, f7, f8] => if fst (ws f0 f1 f2 f3 f4 f5 f6 f7 f8) = 0 then (rl f0 f1 f2 f4 f5 f6 f7 f8, 0) else (R0, fst (ws f0 f1 f2 f3 f4 f5 f6 f7 f8))
 | l => (R0, if l.length < 9 then 5 else 6)
theorem rd_other {l : List ByteArray} (h : l.length < 9 ∨ 9 < l.length) : rd l = (R0, if l.length < 9 then 5 else 6) := by
 match l, h with
 | [f0, f1, f2, f3, f4, f5, f6, f7, f8], h => simp at h
 | [], _ => rfl
 | [_], _ => rfl
 | [_, _], _ => rfl
 | [_, _, _], _ => rfl
 | [_, _, _, _], _ => rfl
 | [_, _, _, _, _], _ => rfl
 | [_, _, _, _, _, _], _ => rfl
 | [_, _, _, _, _, _, _], _ => rfl
 | [_, _, _, _, _, _, _, _], _ => rfl
 | _ :: _ :: _ :: _ :: _ :: _ :: _ :: _ :: _ :: _ :: _, _ => rfl
theorem nine (l : List ByteArray) (h : l.length = 9) : ∃ f0 f1 f2 f3 f4 f5 f6 f7 f8, l = [f0, f1, f2, f3, f4, f5, f6, f7, f8] := by
 match l, h with
 | [f0, f1, f2, f3, f4, f5, f6, f7, f8], _ => exact ⟨_, _, _, _, _, _, _, _, _, rfl⟩
end Ru
theorem musto_yes (x0 x1 x2 : Int) (w : World) : Calls Tryz.prog 83 #[.agg #[.int .i64 x0, .int .i64 x1, .int .i64 x2], .int .i64 0] w fun e w' => e = .returned (.agg #[.int .i64 x0, .int .i64 x1, .int .i64 x2]) ∧ Below w.heap.size w w' := by
 go_enter Tryz.func83, Tryz.ntmps83
 go_wp2_with fail
 refine (for_yes _).mono ?_; rintro e v1 ⟨rfl, rfl⟩
 go_wp2_with fail
 refine bodyPost_ret (v := .agg #[.int .i64 x0, .int .i64 x1, .int .i64 x2]) (by simp [results, Tryz.results83, go_sem]) rfl ⟨rfl, ?_⟩
 exact gr0
theorem musto_no (x0 x1 x2 why : Int) (w : World) (h : why ≠ 0) : Calls Tryz.prog 83 #[.agg #[.int .i64 x0, .int .i64 x1, .int .i64 x2], .int .i64 why] w fun e w' => e = .panicked (gvP why) ∧ Below w.heap.size w w' := by
 have FN := Lib.hid (fun W => for_no why W h)
 clear h
 go_enter Tryz.func83, Tryz.ntmps83
 go_wp2_with fail
 refine (FN.out _).mono ?_; rintro e w1 ⟨rfl, rfl⟩
 refine (show bodyPost _ _ _ (Exit.panic (gvP why)) _ _ from ?_)
 simp only [bodyPost]
 exact ⟨trivial, by first | rfl | trivial, ((Below.refl _ _).alloc (Nat.le_refl _) _).alloc (by simp) _⟩
theorem musta_yes (x0 x1 : Int) (w : World) : Calls Tryz.prog 85 #[.agg #[.int .i64 x0, .int .i64 x1], .int .i64 0] w fun e w' => e = .returned (.agg #[.int .i64 x0, .int .i64 x1]) ∧ Below w.heap.size w w' := by
 go_enter Tryz.func85, Tryz.ntmps85
 go_wp2_with fail
 refine (for_yes _).mono ?_; rintro e v1 ⟨rfl, rfl⟩
 go_wp2_with fail
 refine bodyPost_ret (v := .agg #[.int .i64 x0, .int .i64 x1]) (by simp [results, Tryz.results85, go_sem]) rfl ⟨rfl, ?_⟩
 exact gr0
theorem musta_no (x0 x1 why : Int) (w : World) (h : why ≠ 0) : Calls Tryz.prog 85 #[.agg #[.int .i64 x0, .int .i64 x1], .int .i64 why] w fun e w' => e = .panicked (gvP why) ∧ Below w.heap.size w w' := by
 have FN := Lib.hid (fun W => for_no why W h)
 clear h
 go_enter Tryz.func85, Tryz.ntmps85
 go_wp2_with fail
 refine (FN.out _).mono ?_; rintro e w1 ⟨rfl, rfl⟩
 refine (show bodyPost _ _ _ (Exit.panic (gvP why)) _ _ from ?_)
 simp only [bodyPost]
 exact ⟨trivial, by first | rfl | trivial, ((Below.refl _ _).alloc (Nat.le_refl _) _).alloc (by simp) _⟩
theorem musts_yes (s : ByteArray) (w : World) : Calls Tryz.prog 38 #[.string s, .int .i64 0] w fun e w' => e = .returned (.string s) ∧ w = w' := by
 go_enter Tryz.func38, Tryz.ntmps38
 go_wp2_with fail
 refine (for_yes _).mono ?_; rintro e w1 ⟨rfl, rfl⟩
 go_wp2_with fail
 go_ret
 exact ⟨rfl, rfl⟩
end Go.Proofs.YtpggfhmnhbnefaaGreatDoor

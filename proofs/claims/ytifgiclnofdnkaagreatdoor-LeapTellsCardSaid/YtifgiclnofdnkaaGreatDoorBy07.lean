/- Joined: LpF, FdC0, StL, FdS, FdE0, WdM, WdA, WdB, WdCb. -/
import Derived.Test.YtifgiclnofdnkaaGreatDoorBy06
import Derived.Test.YtifgiclnofdnkaaGreatDoorBy05
import Derived.Lib.MinMax
import Derived.Test.YtifgiclnofdnkaaGreatDoorBy01
import Derived.Test.YtifgiclnofdnkaaGreatDoorBy04
import Derived.Test.YtifgiclnofdnkaaGreatDoorProg
import Derived.Deep.QuietTactic
set_option linter.unusedVariables false
set_option linter.unusedSimpArgs false
namespace Go.Proofs.YtifgiclnofdnkaaGreatDoor
open Go.RowKit Go.Sort
set_option maxHeartbeats 4000000 in
theorem lesame_yes (v1 v2 : Value) (l : List Lp.X) (w : World) (h1 : SpV w v1 l) (h2 : SpV w v2 l) (hm : l.length ≤ 1000000) :
  Calls Tryz.prog 14 #[v1, v2] w fun e w' => e = .returned (.bool true) ∧ Below w.heap.size w w' := by
 have H1 := Lib.hid h1
 have H2 := Lib.hid h2
 obtain ⟨A1, c1, rfl, -⟩ := h1
 obtain ⟨A2, c2, rfl, -⟩ := h2
 generalize hn : l.length = n at *
 have HN := Lib.hid hn
 clear hn
 go_enter Tryz.func14, Tryz.ntmps14
 go_wp2
 go_loopw [13] (fun i wr => ∃ k : Nat, k ≤ n ∧ i = .int .i64 k ∧ ∃ m, wr = w.drewN m) (fun i _ => n - (intOf i).toNat)
 case atStart => exact ⟨0, Nat.zero_le _, rfl, 0, rfl⟩
 case round =>
  obtain ⟨k, hk, rfl, m, rfl⟩ := hrel
  by_cases hlt : k < n
  ·
   obtain ⟨a1, rfl, -, g1, g2⟩ := H1.out.get k (by rw [HN.out]; exact hlt)
   obtain ⟨a2, rfl, -, g3, g4⟩ := H2.out.get k (by rw [HN.out]; exact hlt)
   generalize (l[k]'(by rw [HN.out]; exact hlt)).1 = x at *
   generalize (l[k]'(by rw [HN.out]; exact hlt)).2 = y at *
   have i0 : (0 : Int) ≤ k := by omega
   have i1 : (k : Int) < n := by omega
   go_wp2
   go_quiet (fail)
   go_wp2
   go_roundw
   case rel => exact ⟨k + 1, by omega, by go_num, _, rfl⟩
   case measure => simp [intOf]; omega
  ·
   go_wp2
   go_ret
   exact ⟨rfl, below_draw _ _⟩
namespace Lp
theorem cnt_app : ∀ (a b : List X), cnt (a ++ b) = cnt a + cnt b
 | [], b => by show cnt b = 0 + cnt b; omega
 | x :: a, b => by
  have := cnt_app a b
  show x.2 + cnt (a ++ b) = x.2 + cnt a + cnt b
  omega
theorem at_take_succ (l : List X) (t : Int) (k : Nat) (hk : k < l.length) : at_ (l.take (k + 1)) t = at_ (l.take k) t + (if l[k].1 ≤ t then l[k].2 else 0) := by
 rw [List.take_succ_eq_append_getElem hk]
 unfold at_
 rw [List.filter_append, cnt_app]
 congr 1
 by_cases h : l[k].1 ≤ t
 ·
  rw [if_pos h, List.filter_cons, if_pos (by simpa using h)]
  show l[k].2 + 0 = _; omega
 ·
  rw [if_neg h, List.filter_cons, if_neg (by simpa using h)]; rfl
end Lp
set_option maxHeartbeats 2000000 in
theorem rlgone_any (v : Value) (l : List Lp.X) (w : World) (h : SpV w v l) (hr : Lp.right l = true) (t : Int) (t0 : -2000000000000 ≤ t) (t1 : t ≤ 2000000000000) :
  Calls Tryz.prog 19 #[v, .int .i64 t] w fun e w' => e = .returned (.int .i64 (Lp.gone l t)) ∧ Below w.heap.size w w' := by
 have H := Lib.hid h
 obtain ⟨A, c, rfl, -⟩ := h
 obtain ⟨hm, hok, -⟩ := Lp.right_of hr
 have HS : Hid (∀ x ∈ l, x.2 = 1 ∨ x.2 = -1) := Lib.hid (fun x hx => (hok x hx).2.2)
 obtain ⟨n, hn⟩ : ∃ n, l.length = n := ⟨_, rfl⟩
 rw [hn] at hm H ⊢
 have HN := Lib.hid hn
 obtain ⟨ans, hans⟩ : ∃ ans, ans = Lp.gone l t := ⟨_, rfl⟩
 rw [← hans]
 have HA := Lib.hid hans
 clear hn hans hok hr
 go_enter Tryz.func19, Tryz.ntmps19
 go_wp2
 go_loopw [5, 11] (fun sv i wr => ∃ (k : Nat) (s : Int), k ≤ n ∧ sv = .int .i64 s ∧ i = .int .i64 k ∧ Hid (s = t + Lp.at_ (l.take k) t) ∧ Hid (Below w.heap.size w wr)) (fun _ i _ => n - (intOf i).toNat)
 case atStart => exact ⟨0, t, Nat.zero_le _, rfl, rfl, Lib.hid (by show t = t + 0; omega), Lib.hid (Below.refl _ _)⟩
 case round =>
  rename World => w1
  obtain ⟨k, s, hk, rfl, rfl, hs1, hB⟩ := hrel
  by_cases hlt : k < n
  ·
   have hkl : k < l.length := by rw [HN.out]; exact hlt
   obtain ⟨a, rfl, hab, g1, g2⟩ := (H.out.on hB.out).get k hkl
   have hy := HS.out l[k] (List.getElem_mem hkl)
   have NX := Lib.hid (show s + (if l[k].1 ≤ t then l[k].2 else 0) = t + Lp.at_ (l.take (k + 1)) t from by rw [hs1.out, Lp.at_take_succ l t k hkl]; omega)
   have hb := Lp.at_bd (l.take k) t (fun x hx => HS.out x (List.mem_of_mem_take hx)) (by rw [List.length_take]; omega)
   have hs2 := hs1.out
   have s0 : -2000000001000 ≤ s := by omega
   have s1 : s ≤ 2000000001000 := by omega
   clear hb hs2
   generalize l[k].1 = x at *
   generalize l[k].2 = y at *
   have y0 : -1 ≤ y := by omega
   have y1 : y ≤ 1 := by omega
   clear hy
   have i1 : (k : Int) < n := by omega
   by_cases hx : x ≤ t
   ·
    have NX2 := Lib.hid (show s + y = t + Lp.at_ (l.take (k + 1)) t by rw [← NX.out, if_pos hx])
    clear NX
    go_wp2
    go_roundw; case rel => exact ⟨k + 1, s + y, by omega, rfl, by go_num, NX2, Lib.hid (by have hz := hB.out.size; repeat (first | exact hB.out | refine _root_.Go.below_drewN ?_ _ | refine Below.drew ?_ | refine Below.setCell ?_ (by first | omega | (simp; done) | (simp; omega)) _ | refine Below.alloc ?_ (by first | omega | (simp; done) | (simp; omega)) _))⟩
    case measure => simp [intOf]; omega
   ·
    have NX2 := Lib.hid (show s = t + Lp.at_ (l.take (k + 1)) t by rw [← NX.out, if_neg hx]; omega)
    clear NX
    go_wp2
    go_roundw; case rel => exact ⟨k + 1, s, by omega, rfl, by go_num, NX2, Lib.hid (by have hz := hB.out.size; repeat (first | exact hB.out | refine _root_.Go.below_drewN ?_ _ | refine Below.drew ?_ | refine Below.setCell ?_ (by first | omega | (simp; done) | (simp; omega)) _ | refine Below.alloc ?_ (by first | omega | (simp; done) | (simp; omega)) _))⟩
    case measure => simp [intOf]; omega
  ·
   have i2 : ¬ (k : Int) < n := by omega
   have EX := Lib.hid (show s = ans by rw [hs1.out, HA.out, List.take_of_length_le (by rw [HN.out]; omega)]; rfl)
   go_wp2
   go_ret
   exact ⟨by rw [← EX.out]; rfl, hB.out⟩
set_option maxHeartbeats 2000000 in
theorem rlGone_any (v : Value) (l : List Lp.X) (w : World) (h : SpV w v l) (hm : l.length ≤ 1000000) (t : Int) :
  Calls Tryz.prog 7 #[v, .int .i64 t] w fun e w' => e = .returned (.tuple #[.int .i64 (Lp.gn l t).1, .int .i64 (Lp.gn l t).2]) ∧ Below w.heap.size w w' := by
 have H := Lib.hid h
 obtain ⟨A, c, rfl, -⟩ := h
 obtain ⟨n, hn⟩ : ∃ n, l.length = n := ⟨_, rfl⟩
 rw [hn] at H ⊢
 clear hn
 have CR := Lib.hid (fun W (S : SpV W (.slice A n c) l) => rleright_any (.slice A n c) l W S hm)
 unfold Lp.gn
 by_cases hr : Lp.right l = true
 case neg =>
  rw [if_neg hr]
  have hr : Lp.right l = false := by simpa using hr
  rw [hr] at CR
  clear hm hr
  go_enter Tryz.func7, Tryz.ntmps7
  go_wp2_with fail
  refine (CR.out _ H.out).mono ?_; rintro e w1 ⟨rfl, b1⟩
  have B1 := Lib.hid b1
  go_wp2
  go_ret2
  exact ⟨rfl, B1.out⟩
 rw [if_pos hr]
 by_cases h1 : t < -1096193779200
 case pos =>
  rw [if_neg (by omega)]
  rw [hr] at CR
  clear hm hr
  go_enter Tryz.func7, Tryz.ntmps7
  go_wp2_with fail
  refine (CR.out _ H.out).mono ?_; rintro e w1 ⟨rfl, b1⟩
  have B1 := Lib.hid b1
  go_wp2
  go_ret2
  exact ⟨rfl, B1.out⟩
 by_cases h2 : 971890963199 < t
 case pos =>
  rw [if_neg (by omega)]
  rw [hr] at CR
  clear hm hr
  go_enter Tryz.func7, Tryz.ntmps7
  go_wp2_with fail
  refine (CR.out _ H.out).mono ?_; rintro e w1 ⟨rfl, b1⟩
  have B1 := Lib.hid b1
  go_wp2
  go_ret2
  exact ⟨rfl, B1.out⟩
 rw [if_pos (by omega)]
 have CG := Lib.hid (fun W (S : SpV W (.slice A n c) l) => rlgone_any (.slice A n c) l W S hr t (by omega) (by omega))
 rw [hr] at CR
 clear hm hr
 go_enter Tryz.func7, Tryz.ntmps7
 go_wp2_with fail
 refine (CR.out _ H.out).mono ?_; rintro e w1 ⟨rfl, b1⟩
 have B1 := Lib.hid b1
 go_wp2_with fail
 refine (CG.out _ (H.out.on B1.out)).mono ?_; rintro e w2 ⟨rfl, b2⟩
 have B2 := Lib.hid (below_step B1.out b2)
 go_wp2
 go_ret2
 exact ⟨rfl, B2.out⟩
set_option maxHeartbeats 4000000 in
theorem rlUtc_any (v : Value) (l : List Lp.X) (w : World) (h : SpV w v l) (hm : l.length ≤ 1000000) (t : Int) :
  Calls Tryz.prog 9 #[v, .int .i64 t] w fun e w' => e = .returned (.tuple #[.int .i64 (Lp.ut l t).1, .bool (Lp.ut l t).2.1, .int .i64 (Lp.ut l t).2.2]) ∧ Below w.heap.size w w' := by
 have H := Lib.hid h
 obtain ⟨A, c, rfl, -⟩ := h
 obtain ⟨n, hn⟩ : ∃ n, l.length = n := ⟨_, rfl⟩
 rw [hn] at H ⊢
 clear hn
 have CR := Lib.hid (fun W (S : SpV W (.slice A n c) l) => rleright_any (.slice A n c) l W S hm)
 unfold Lp.ut
 by_cases hr : Lp.right l = true
 case neg =>
  rw [if_neg hr]
  have hr : Lp.right l = false := by simpa using hr
  rw [hr] at CR
  clear hm hr
  go_enter Tryz.func9, Tryz.ntmps9
  go_wp2_with fail
  refine (CR.out _ H.out).mono ?_; rintro e w1 ⟨rfl, b1⟩
  have B1 := Lib.hid b1
  go_wp2
  go_ret3
  exact ⟨rfl, B1.out⟩
 rw [if_pos hr]
 have HR := Lib.hid hr
 rw [hr] at CR
 have GR : Hid (∀ W t, SpV W (.slice A n c) l → -2000000000000 ≤ t → t ≤ 2000000000000 → Calls Tryz.prog 19 #[.slice A n c, .int .i64 t] W fun e w' => e = .returned (.int .i64 (Lp.gone l t)) ∧ Below W.heap.size W w') := Lib.hid (fun W t S t0 t1 => rlgone_any (.slice A n c) l W S hr t t0 t1)
 have lo := Lp.gone_bd hr (-1096193779200)
 have hi := Lp.gone_bd hr 971890963199
 have lo0 : -1096193780200 ≤ Lp.gone l (-1096193779200) := by omega
 have lo1 : Lp.gone l (-1096193779200) ≤ -1096193778200 := by omega
 have hi0 : 971890962199 ≤ Lp.gone l 971890963199 := by omega
 have hi1 : Lp.gone l 971890963199 ≤ 971890964199 := by omega
 have hil : Lp.inR l t ↔ Lp.gone l (-1096193779200) ≤ t ∧ t ≤ Lp.gone l 971890963199 + 1 := Iff.rfl
 have HIL := Lib.hid hil
 clear hil hm lo hi
 by_cases f1 : t < Lp.gone l (-1096193779200)
 case pos =>
  rw [if_neg (by rw [HIL.out]; omega)]
  clear hr
  go_enter Tryz.func9, Tryz.ntmps9
  go_wp2_with fail
  refine (CR.out _ H.out).mono ?_; rintro e w1 ⟨rfl, b1⟩
  have B1 := Lib.hid b1
  go_wp2_with fail
  refine (GR.out _ _ (H.out.on B1.out) (by omega) (by omega)).mono ?_; rintro e w2 ⟨rfl, b2⟩
  have B2 := Lib.hid (below_step B1.out b2)
  go_wp2
  go_ret3
  exact ⟨rfl, B2.out⟩
 by_cases f2 : Lp.gone l 971890963199 + 1 < t
 case pos =>
  rw [if_neg (by rw [HIL.out]; omega)]
  clear hr
  go_enter Tryz.func9, Tryz.ntmps9
  go_wp2_with fail
  refine (CR.out _ H.out).mono ?_; rintro e w1 ⟨rfl, b1⟩
  have B1 := Lib.hid b1
  go_wp2_with fail
  refine (GR.out _ _ (H.out.on B1.out) (by omega) (by omega)).mono ?_; rintro e w2 ⟨rfl, b2⟩
  have B2 := Lib.hid (below_step B1.out b2)
  go_wp2_with fail
  refine (GR.out _ _ (H.out.on B2.out) (by omega) (by omega)).mono ?_; rintro e w3 ⟨rfl, b3⟩
  have B3 := Lib.hid (below_step B2.out b3)
  go_wp2
  go_ret3
  exact ⟨rfl, B3.out⟩
 have hin : Lp.inR l t := by rw [HIL.out]; omega
 rw [if_pos hin]
 obtain ⟨m, hmm⟩ : ∃ m, m = Lp.uT l t := ⟨_, rfl⟩
 rw [← hmm]
 have IU := Lib.hid (show Lp.IsU l t m by rw [hmm]; exact (Lp.uT_is HR.out).1)
 have m1 : m ≤ 971890963199 := IU.out.top
 have m0 : -1096193779200 ≤ m := by
  by_cases hlt : m < -1096193779200
  ·
   have := IU.out.next (-1096193779200) hlt (by omega); omega
  ·
   omega
 have m2 : m ≤ t + 1000 := by have := IU.out.le; have := Lp.gone_bd HR.out m; omega
 have t0 : -1096193780200 ≤ t := by omega
 have t1 : t ≤ 971890964200 := by omega
 obtain ⟨bb, hbb⟩ : ∃ b, b = decide (Lp.gone l m < t) := ⟨_, rfl⟩
 rw [← hbb]
 have HB := Lib.hid hbb
 obtain ⟨q, hq⟩ : ∃ q, q = min (t + 1001) 971890963199 := ⟨_, rfl⟩
 have HQ := Lib.hid hq
 have q1 : m ≤ q := by omega
 have q2 : q ≤ 971890963199 := by omega
 clear hmm hin hbb hr HIL hq
 go_enter Tryz.func9, Tryz.ntmps9
 go_wp2_with fail
 refine (CR.out _ H.out).mono ?_; rintro e w1 ⟨rfl, b1⟩
 have B1 := Lib.hid b1
 go_wp2_with fail
 refine (GR.out _ _ (H.out.on B1.out) (by omega) (by omega)).mono ?_; rintro e w2 ⟨rfl, b2⟩
 have B2 := Lib.hid (below_step B1.out b2)
 go_wp2_with fail
 refine (GR.out _ _ (H.out.on B2.out) (by omega) (by omega)).mono ?_; rintro e w3 ⟨rfl, b3⟩
 have B3 := Lib.hid (below_step B2.out b3)
 clear b1 b2 b3
 go_wp2_with fail
 rw [← HQ.out]
 go_loopw [7] (fun tv wr => ∃ tt : Int, tv = .int .i64 tt ∧ m ≤ tt ∧ tt ≤ q ∧ Hid (∀ t', tt < t' → t' ≤ q → t < Lp.gone l t') ∧ Hid (Below w.heap.size w wr)) (fun tv _ => (intOf tv - m).toNat)
 case atStart => exact ⟨q, rfl, q1, Int.le_refl _, Lib.hid (fun t' h1 h2 => absurd h2 (by omega)), B3⟩
 case round =>
  obtain ⟨tt, rfl, d1, d2, hN, hB⟩ := hrel
  by_cases hg : t < Lp.gone l tt
  ·
   have dm : m ≠ tt := fun e => by have := IU.out.le; rw [e] at this; omega
   have NX := Lib.hid (show ∀ t', tt - 1 < t' → t' ≤ q → t < Lp.gone l t' from fun t' h1 h2 => by
    by_cases e : t' = tt
    ·
     subst e; exact hg
    ·
     exact hN.out t' (by omega) h2)
   go_wp2_with fail
   refine (GR.out _ _ (H.out.on hB.out) (by omega) (by omega)).mono ?_; rintro e w4 ⟨rfl, b4⟩
   have B4 := Lib.hid (below_step hB.out b4)
   clear b4
   go_wp2
   go_roundw; case rel => exact ⟨tt - 1, rfl, by omega, by omega, NX, B4⟩
   case measure => simp [intOf]; omega
  ·
   have EM : tt = m := by
    obtain ⟨z1, z2, z3⟩ := Lp.right_of HR.out
    exact (Lp.down z3 (fun x hx => (z2 x hx).2.2) z1 (by omega) (by rw [← HQ.out]; exact d2) (by rw [← HQ.out]; exact hN.out)).one IU.out
   subst EM
   go_wp2_with fail
   refine (GR.out _ _ (H.out.on hB.out) (by omega) (by omega)).mono ?_; rintro e w4 ⟨rfl, b4⟩
   have B4 := Lib.hid (below_step hB.out b4)
   clear b4
   go_wp2_with fail
   refine (GR.out _ _ (H.out.on B4.out) (by omega) (by omega)).mono ?_; rintro e w5 ⟨rfl, b5⟩
   have B5 := Lib.hid (below_step B4.out b5)
   clear b5
   have f3 : decide (Lp.gone l tt < t) = bb := HB.out.symm
   go_wp2
   go_ret3
   exact ⟨by first | rfl | (rw [← f3]; rfl), B5.out⟩
end Go.Proofs.YtifgiclnofdnkaaGreatDoor
set_option linter.unusedVariables false
set_option linter.unusedSimpArgs false
namespace Go.Proofs.YtifgiclnofdnkaaGreatDoor
open Go.RowKit
theorem fd_len (a : ByteArray) : a.data.toList.length = a.size := Array.length_toList
theorem fd_drop (a : ByteArray) (k : Nat) (h : k < a.size) : a.data.toList.drop k = a[k] :: a.data.toList.drop (k + 1) := by
 rw [List.drop_eq_getElem_cons (by rw [fd_len]; exact h)]
 rfl
theorem fd_id (s : ByteArray) : (⟨s.data.toList.toArray⟩ : ByteArray) = s := by apply ByteArray.ext; apply Array.toList_inj.1; simp
theorem fd_ne {ds : ByteArray} (h : 0 < ds.size) : ds.toList.isEmpty = false ∧ ¬ ds.toList = [] := by
 have : ds.toList ≠ [] := by
  intro e
  have hl := fd_len ds
  rw [← ByteArray.toList_eq] at hl
  rw [e] at hl; simp at hl; omega
 exact ⟨by simpa using this, this⟩
theorem fd_ix (a : ByteArray) (k : Nat) (h : k < a.size) (w : World) : Sem.run Tryz.prog (Instr.index 9 (.string a) (.int .i64 (k : Int))) w = .ok (.int .u8 a[k].toNat) w := by
 rw [run_index_string w _ _ _ _ Tryz.underlying9, dif_pos ⟨by omega, by omega⟩]
 simp
end Go.Proofs.YtifgiclnofdnkaaGreatDoor
set_option linter.unusedVariables false
set_option linter.unusedSimpArgs false
namespace Go.Proofs.YtifgiclnofdnkaaGreatDoor
open Go.RowKit Go.Sort
def StS (w : World) (v : Value) (l : List ByteArray) : Prop := Lst w w.heap.size v l.length (l.map Value.string)
theorem StS.on {w w' : World} {v : Value} {l : List ByteArray} (h : StS w v l) (k : Below w.heap.size w w') : StS w' v l := Lst.on h k
theorem StS.get {w : World} {A : Option Addr} {n c : Nat} {l : List ByteArray} (h : StS w (.slice A n c) l) (k : Nat) (hk : k < l.length) : ∃ a, A = some a ∧ w.cell? (a.add k) = some (.string l[k]) := by
 obtain ⟨A', c', hv, ha⟩ := h
 cases hv
 obtain ⟨a, e, hb, hc⟩ := ha (by omega)
 refine ⟨a, e, hc k _ ?_⟩
 rw [List.getElem?_map, List.getElem?_eq_getElem hk]; rfl
theorem StS.len {w : World} {A : Option Addr} {n c : Nat} {l : List ByteArray} (h : StS w (.slice A n c) l) : n = l.length := by
 obtain ⟨A', c', hv, _⟩ := h
 cases hv; rfl
def AnsF (P : List (List UInt8) × Int) (w : World) (e : Ending) (w' : World) : Prop := ∃ (v : Value) (l : List ByteArray), StS w' v l ∧ l.map (·.data.toList) = P.1 ∧ e = .returned (.tuple #[v, .int .i64 P.2]) ∧ Below w.heap.size w w'
theorem fd_cut (s : ByteArray) (a b : Nat) (h1 : a ≤ b) (h2 : b ≤ s.size) (W : World) : Sem.run Tryz.prog (Instr.slice 9 (.string s) (some (.int .i64 (a : Int))) (some (.int .i64 (b : Int))) none) W = .ok (.string (s.extract a b)) W := by
 rw [run_slice_string W 9 s .i64 .i64 (a : Int) (b : Int) Tryz.underlying9 (by omega) (by omega) (by omega)]
 simp
theorem fd_ext (s : ByteArray) (a b : Nat) : (s.extract a b).data.toList = (s.data.toList.take b).drop a := by
 rw [ByteArray.data_extract, Array.toList_extract, List.drop_take]
theorem fd_one (s : ByteArray) (k : Nat) (h : k < s.size) : (s.extract k (k + 1)).data.toList = [s[k]] := by
 rw [fd_ext, List.take_succ_eq_append_getElem (by rw [fd_len]; exact h), List.drop_append_of_le_length (by rw [List.length_take, fd_len]; omega), List.drop_of_length_le (by rw [List.length_take]; omega)]
 rfl
theorem fd_app (a b : ByteArray) : (a ++ b).data.toList = a.data.toList ++ b.data.toList := by rw [ByteArray.data_append, Array.toList_append]
theorem fd_parts {i0 : Option TypeInfo} {z : Value} {n b : Nat} (h : i0.map (fun i => (i.zero, i.size, i.bytes)) = some (some z, n, b)) : ∃ i, i0 = some i ∧ i.zero = some z ∧ i.size = n ∧ i.bytes = b := by
 cases i0 with
 | none => cases h
 | some i => simp at h; exact ⟨i, rfl, h.1, h.2.1, h.2.2⟩
theorem fd_info : (Tryz.prog.info? 9).map (fun i => (i.zero, i.size, i.bytes)) = some (some (.string ⟨#[]⟩), 1, 16) := by kernel_rfl
theorem StS.nil (w : World) : StS w (.slice none 0 0) [] := Lst.nil w _
theorem fd_keep {P : Addr} {v : Value} {w W : World} (hm : w.cell? P = some v) (k : Below w.heap.size w W) : W.cell? P = some v :=
 (k.cell (World.block_lt_of_cell? _ _ hm)).trans hm
namespace Fd
def bl (l : List ByteArray) : List (List UInt8) := l.map (·.data.toList)
def tot (l : List ByteArray) : Nat := (l.map (·.size)).foldr (· + ·) 0
theorem tot_cons (x : ByteArray) (l : List ByteArray) : tot (x :: l) = x.size + tot l := rfl
theorem tot_drop (l : List ByteArray) (k : Nat) (h : k < l.length) : tot (l.drop k) = l[k].size + tot (l.drop (k + 1)) := by
 rw [List.drop_eq_getElem_cons h, tot_cons]
theorem jr_next (acc : List UInt8) (k : Nat) (x : List UInt8) (r : List (List UInt8)) (h : (tx x).2 = 0) : jr acc k (x :: r) = jr (acc ++ ((if k = 0 then [] else [32]) ++ (tx x).1)) (k + 1) r := by
 conv => lhs; unfold jr
 rw [if_pos h]
theorem jr_stop (acc : List UInt8) (k : Nat) (x : List UInt8) (r : List (List UInt8)) (h : (tx x).2 ≠ 0) : jr acc k (x :: r) = ([], (tx x).2) := by
 conv => lhs; unfold jr
 rw [if_neg h]
theorem bl_drop (l : List ByteArray) (k : Nat) (h : k < l.length) : (bl l).drop k = l[k].data.toList :: (bl l).drop (k + 1) := by
 unfold bl
 rw [List.drop_eq_getElem_cons (by simpa using h), List.getElem_map]
theorem arr_len (l : List UInt8) : (⟨l.toArray⟩ : ByteArray).size = l.length := List.size_toArray
theorem arr_app (a b : List UInt8) : (⟨(a ++ b).toArray⟩ : ByteArray) = ⟨a.toArray⟩ ++ ⟨b.toArray⟩ := by
 apply ByteArray.ext; apply Array.toList_inj.1; simp
end Fd
end Go.Proofs.YtifgiclnofdnkaaGreatDoor
set_option linter.unusedVariables false
set_option linter.unusedSimpArgs false
namespace Go.Proofs.YtifgiclnofdnkaaGreatDoor.Wd
open Go
def sm (b : UInt8) : Int := if 65 ≤ (b.toNat : Int) ∧ (b.toNat : Int) ≤ 90 then (b.toNat : Int) + 32 else b.toNat
def beg : List UInt8 → List UInt8 → Bool
 | _, [] => true
 | [], _ :: _ => false
 | w :: ws, s :: ss => decide (sm w = sm s) && beg ws ss
def same (a b : List UInt8) : Bool := decide (a.length = b.length) && beg a b
def exact : List (List UInt8) → Nat → List UInt8 → Option Nat
 | [], _, _ => none
 | w :: ws, i, s => if same w s then some i else exact ws (i + 1) s
def first : List (List UInt8) → Nat → List UInt8 → Option Nat
 | [], _, _ => none
 | w :: ws, i, s => if beg w s then some i else first ws (i + 1) s
end Go.Proofs.YtifgiclnofdnkaaGreatDoor.Wd
set_option linter.unusedVariables false
set_option linter.unusedSimpArgs false
namespace Go.Proofs.YtifgiclnofdnkaaGreatDoor
open Go.RowKit
end Go.Proofs.YtifgiclnofdnkaaGreatDoor
set_option linter.unusedVariables false
set_option linter.unusedSimpArgs false
namespace Go.Proofs.YtifgiclnofdnkaaGreatDoor
open Go.RowKit Go.Sort
namespace Wd
def run (s : List UInt8) (all : List ByteArray) : List ByteArray → Nat → Int → Bool → Int × Int
 | [], _, f, sv => if f < 0 ∨ sv = true then (0, 3) else (f, 0)
 | x :: r, i, f, sv => if same x.data.toList s = true then ((i : Int), 0) else if beg x.data.toList s = false then run s all r (i + 1) f sv else if f < 0 then run s all r (i + 1) (i : Int) sv
  else if same x.data.toList (all.getD f.toNat ByteArray.empty).data.toList = true then run s all r (i + 1) f sv else run s all r (i + 1) f true
def mat (s : List UInt8) (all : List ByteArray) : Int × Int := if s = [] then (0, 3) else run s all all 0 (-1) false
end Wd
namespace Wd
def days : List ByteArray := [⟨#[83, 117, 110, 100, 97, 121]⟩, ⟨#[77, 111, 110, 100, 97, 121]⟩, ⟨#[84, 117, 101, 115, 100, 97, 121]⟩, ⟨#[87, 101, 100, 110, 101, 115, 100, 97, 121]⟩, ⟨#[84, 104, 117, 114, 115, 100, 97, 121]⟩, ⟨#[70, 114, 105, 100, 97, 121]⟩, ⟨#[83, 97, 116, 117, 114, 100, 97, 121]⟩]
def up (p : Int × Int) : Int := if p.2 = 0 then p.1 + 1 else 0
end Wd
end Go.Proofs.YtifgiclnofdnkaaGreatDoor

/- Links: Read of the reference. -/
import Derived.Test.YtndophkojnfcaaaLkD
set_option linter.unusedVariables false
set_option linter.unusedSimpArgs false
namespace Go.Proofs.Ytndophkojnfcaaa
open Go.RowKit Go.Sort

namespace Lk
/-- Why the names among the fields, from the k-th on, may not be. -/
def w2 : List ByteArray → Int
  | [] => 0
  | x :: r => if nm x.data.toList ≠ 0 then nm x.data.toList else w2 r
end Lk
set_option maxHeartbeats 4000000 in
set_option maxRecDepth 100000 in
theorem rlread_other (v : Value) (l : List ByteArray) (w : World) (S : StS w v l) (hl : l.length < 2 ∨ (2 < l.length ∧ l.length ≤ 1000000)) :
    Calls Try.prog 35 #[v] w fun e w' => e = .returned (.tuple #[.agg #[.string (Lk.rd l).1.1, .string (Lk.rd l).1.2], .int .i64 (Lk.rd l).2]) ∧ Below w.heap.size w w' := by
  obtain ⟨A, c, rfl, -⟩ := S
  have hR : Lk.rd l = ((⟨#[]⟩, ⟨#[]⟩), if l.length < 2 then 5 else 6) := by
    match l, hl with
    | [], _ => rfl
    | [_], _ => rfl
    | [_, _], h => simp at h
    | _ :: _ :: _ :: _, _ => rw [if_neg (by simp)]; rfl
  rw [hR]
  obtain ⟨N, hN⟩ : ∃ N, N = l.length := ⟨_, rfl⟩
  rw [← hN] at hl ⊢
  clear hR hN
  by_cases h : N < 2
  · rw [if_pos h]
    have g : (N : Int) < 2 := by omega
    clear h hl
    go_enter Try.func35, Try.ntmps35
    go_wp2_with fail
    refine bodyPost_ret (v := .tuple #[.agg #[.string ⟨#[]⟩, .string ⟨#[]⟩], .int .i64 5]) (by simp [results, Try.results35, go_sem]) rfl ?_
    refine ⟨rfl, ?_⟩
    repeat (first | exact Below.refl _ _ | refine Below.setCell ?_ (by first | omega | (simp; done) | (simp; omega)) _ | refine Below.alloc ?_ (by first | omega | (simp; done) | (simp; omega)) _)
  · rw [if_neg h]
    have h2 : 2 < N ∧ N ≤ 1000000 := by omega
    have g : ¬ (N : Int) < 2 := by omega
    have g2 : 2 < (N : Int) := by omega
    clear h hl
    go_enter Try.func35, Try.ntmps35
    go_wp2_with fail
    refine bodyPost_ret (v := .tuple #[.agg #[.string ⟨#[]⟩, .string ⟨#[]⟩], .int .i64 6]) (by simp [results, Try.results35, go_sem]) rfl ?_
    refine ⟨rfl, ?_⟩
    repeat (first | exact Below.refl _ _ | refine Below.setCell ?_ (by first | omega | (simp; done) | (simp; omega)) _ | refine Below.alloc ?_ (by first | omega | (simp; done) | (simp; omega)) _)
set_option maxHeartbeats 4000000 in
set_option maxRecDepth 100000 in
theorem rlread_two (v : Value) (a b : ByteArray) (w : World) (S : StS w v [a, b]) (ha : a.size ≤ maxLen) (hb : b.size ≤ maxLen) :
    Calls Try.prog 35 #[v] w fun e w' => e = .returned (.tuple #[.agg #[.string (Lk.rd [a, b]).1.1, .string (Lk.rd [a, b]).1.2], .int .i64 (Lk.rd [a, b]).2]) ∧ Below w.heap.size w w' := by
  have T := S
  obtain ⟨A, c, rfl, hA⟩ := T
  obtain ⟨q, rfl, hq, hcell⟩ := hA (by simp)
  have g0 : w.cell? (q.add 0) = some (.string a) := hcell 0 _ rfl
  have g1 : w.cell? (q.add 1) = some (.string b) := hcell 1 _ rfl
  have NA := Lib.hid (fun W => rrname_any a W ha)
  have NB := Lib.hid (fun W => rrname_any b W hb)
  obtain ⟨R, hR⟩ : ∃ R, R = Lk.rd [a, b] := ⟨_, rfl⟩
  have HR := Lib.hid hR
  rw [← hR]
  obtain ⟨x, hx0⟩ : ∃ x, x = Lk.nm a.data.toList := ⟨_, rfl⟩
  obtain ⟨y, hy0⟩ : ∃ y, y = Lk.nm b.data.toList := ⟨_, rfl⟩
  have HX := Lib.hid hx0; have HY := Lib.hid hy0
  rw [← hx0] at NA
  rw [← hy0] at NB
  clear hR hx0 hy0 hcell S ha hb hA
  have k1 : q.add 1 = ⟨q.block, q.off + 1, none⟩ := by rw [Addr.add_succ']
  have n2 : q.block ≠ w.heap.size := Nat.ne_of_lt hq
  rw [Addr.add_zero'] at g0
  rw [k1] at g1
  by_cases hx : x = 0
  · by_cases hy : y = 0
    · by_cases hab : a = b
      · have e0 := Lib.hid (show R = ((⟨#[]⟩, ⟨#[]⟩), 13) by rw [HR.out, Lk.rd_two, ← HX.out, ← HY.out, if_neg (by simp [hx]), if_neg (by simp [hy]), if_pos hab])
        clear HR HX HY
        subst hx; subst hy; subst hab
        go_enter Try.func35, Try.ntmps35
        go_wp2_with fail
        refine wp_loop_rounds 3 ?_
        rw [rounds_succ]
        go_wp2_with fail
        refine (NA.out _).mono ?_; rintro e w1 ⟨rfl, rfl⟩
        go_wp2_with fail
        rw [rounds_succ]
        go_wp2_with fail
        refine (NB.out _).mono ?_; rintro e w1 ⟨rfl, rfl⟩
        go_wp2_with fail
        rw [rounds_succ]
        go_wp2_with fail
        go_quiet (fail)
        go_wp2_with fail
        refine bodyPost_ret (v := .tuple #[.agg #[.string ⟨#[]⟩, .string ⟨#[]⟩], .int .i64 13]) (by simp [results, Try.results35, go_sem]) rfl ?_
        refine ⟨by rw [e0.out], ?_⟩
        repeat (first | exact Below.refl _ _ | refine below_drewN ?_ _ | refine Below.drew ?_ | refine Below.setCell ?_ (by first | omega | (simp; done) | (simp; omega)) _ | refine Below.alloc ?_ (by first | omega | (simp; done) | (simp; omega)) _)
      · have e0 := Lib.hid (show R = ((a, b), 0) by rw [HR.out, Lk.rd_two, ← HX.out, ← HY.out, if_neg (by simp [hx]), if_neg (by simp [hy]), if_neg hab])
        obtain ⟨m1, m2⟩ := str_ne hab
        clear HR HX HY hab
        subst hx; subst hy
        go_enter Try.func35, Try.ntmps35
        go_wp2_with fail
        refine wp_loop_rounds 3 ?_
        rw [rounds_succ]
        go_wp2_with fail
        refine (NA.out _).mono ?_; rintro e w1 ⟨rfl, rfl⟩
        go_wp2_with fail
        rw [rounds_succ]
        go_wp2_with fail
        refine (NB.out _).mono ?_; rintro e w1 ⟨rfl, rfl⟩
        go_wp2_with fail
        rw [rounds_succ]
        go_wp2_with fail
        go_quiet (fail)
        go_wp2_with fail
        go_cut [3] from 36 (fun x wx => x = .int .i64 0 ∧ Below w.heap.size w wx ∧ Bk2 wx w.heap.size (.string a) (.string b))
        case first =>
          go_region_with (fail)
          all_goals
            go_wp2_with fail
            go_meet
            refine ⟨rfl, ?_, ⟨by simp [go_sem], fun j => by simp [go_sem], by simp [go_sem], by simp [go_sem]⟩⟩
            repeat (first | exact Below.refl _ _ | refine below_drewN ?_ _ | refine Below.drew ?_ | refine Below.setCell ?_ (by first | omega | (simp; done) | (simp; omega)) _ | refine Below.alloc ?_ (by first | omega | (simp; done) | (simp; omega)) _)
        case rest =>
          obtain ⟨rfl, b0, Q1⟩ := hcut
          have c_b := Q1.hb; have c_f := Q1.fz; have c_0 := Q1.k0; have c_1 := Q1.k1
          clear Q1
          go_wp2_with fail
          refine bodyPost_ret (v := .tuple #[.agg #[.string a, .string b], .int .i64 0]) (by simp [results, Try.results35, go_sem, c_b, c_f, c_0, c_1]) rfl ?_
          exact ⟨by rw [e0.out], b0⟩
    · have e0 := Lib.hid (show R = ((⟨#[]⟩, ⟨#[]⟩), y) by rw [HR.out, Lk.rd_two, ← HX.out, ← HY.out, if_neg (by simp [hx]), if_pos hy])
      have gy : (y == 0) = false := by rw [beq_eq_false_iff_ne]; exact hy
      clear HR HX HY hy
      subst hx
      go_enter Try.func35, Try.ntmps35
      go_wp2_with fail
      refine wp_loop_rounds 3 ?_
      rw [rounds_succ]
      go_wp2_with fail
      refine (NA.out _).mono ?_; rintro e w1 ⟨rfl, rfl⟩
      go_wp2_with fail
      rw [rounds_succ]
      go_wp2_with fail
      refine (NB.out _).mono ?_; rintro e w1 ⟨rfl, rfl⟩
      go_wp2_with fail
      refine bodyPost_ret (v := .tuple #[.agg #[.string ⟨#[]⟩, .string ⟨#[]⟩], .int .i64 y]) (by simp [results, Try.results35, go_sem]) rfl ?_
      refine ⟨by rw [e0.out], ?_⟩
      repeat (first | exact Below.refl _ _ | refine below_drewN ?_ _ | refine Below.drew ?_ | refine Below.setCell ?_ (by first | omega | (simp; done) | (simp; omega)) _ | refine Below.alloc ?_ (by first | omega | (simp; done) | (simp; omega)) _)
  · have e0 := Lib.hid (show R = ((⟨#[]⟩, ⟨#[]⟩), x) by rw [HR.out, Lk.rd_two, ← HX.out, if_pos hx])
    have gx : (x == 0) = false := by rw [beq_eq_false_iff_ne]; exact hx
    clear HR HX HY hx
    go_enter Try.func35, Try.ntmps35
    go_wp2_with fail
    refine wp_loop_rounds 3 ?_
    rw [rounds_succ]
    go_wp2_with fail
    refine (NA.out _).mono ?_; rintro e w1 ⟨rfl, rfl⟩
    go_wp2_with fail
    refine bodyPost_ret (v := .tuple #[.agg #[.string ⟨#[]⟩, .string ⟨#[]⟩], .int .i64 x]) (by simp [results, Try.results35, go_sem]) rfl ?_
    refine ⟨by rw [e0.out], ?_⟩
    repeat (first | exact Below.refl _ _ | refine below_drewN ?_ _ | refine Below.drew ?_ | refine Below.setCell ?_ (by first | omega | (simp; done) | (simp; omega)) _ | refine Below.alloc ?_ (by first | omega | (simp; done) | (simp; omega)) _)
theorem rlread_any (v : Value) (l : List ByteArray) (w : World) (S : StS w v l) (hl : l.length ≤ 1000000) (hz : ∀ y ∈ l, y.size ≤ maxLen) :
    Calls Try.prog 35 #[v] w fun e w' => e = .returned (.tuple #[.agg #[.string (Lk.rd l).1.1, .string (Lk.rd l).1.2], .int .i64 (Lk.rd l).2]) ∧ Below w.heap.size w w' := by
  by_cases h : l.length < 2 ∨ (2 < l.length ∧ l.length ≤ 1000000)
  · exact rlread_other v l w S h
  · match l, h, hl, hz, S with
    | [a, b], _, _, hz, hS => exact rlread_two v a b w hS (hz a (by simp)) (hz b (by simp))
    | [], h, _, _, _ => exact absurd (Or.inl (by simp)) h
    | [_], h, _, _, _ => exact absurd (Or.inl (by simp)) h
    | _ :: _ :: _ :: _, h, hl, _, _ => exact absurd (Or.inr ⟨by simp, hl⟩) h
end Go.Proofs.Ytndophkojnfcaaa


/- The answers that noontidelaw14.lives asks for: it is true. -/
import Derived.Test.YtndophkojnfcaaaFdK
import Derived.Test.YtndophkojnfcaaaFdF
import Derived.Test.YtndophkojnfcaaaSm13
import Derived.Laws.MakeOwn
set_option linter.unusedVariables false
set_option linter.unusedSimpArgs false
namespace Go.Proofs.Ytndophkojnfcaaa
open Go.RowKit Go.Sort

theorem StS.row (W : World) (l : List ByteArray) (t : TypeId) (c : Nat) : StS (W.alloc (.cells (l.map Value.string).toArray t)) (.slice (some ⟨W.heap.size, 0, none⟩) l.length c) l :=
  ⟨_, _, rfl, fun _ => ⟨_, rfl, by simp, by
    intro j u hj
    rw [show (⟨W.heap.size, 0, none⟩ : Addr).add j = ⟨W.heap.size, j, none⟩ by simp [Addr.add]; exact fun h => h.symm]
    rw [Lib.cell_of_heap (heap_alloc_new W _)]
    simpa using hj⟩⟩
theorem fof_at (s : ByteArray) (L : List ByteArray) (y : Int) (h : Fd.of s.data.toList = (L.map (·.data.toList), y)) (hs : s.size ≤ 1000) (W : World) :
    Calls Try.prog 28 #[.string s] W fun e w' => ∃ v, StS w' v L ∧ e = .returned (.tuple #[v, .int .i64 y]) ∧ Below W.heap.size W w' :=
  (fof_any s W (by omega)).mono fun e w' ⟨v, l, S, hl, he, hb⟩ => by
    rw [h] at hl he
    exact ⟨v, by rw [← fd_bytes (hl.trans rfl)]; exact S, he, hb⟩
theorem ftext_at (s r : ByteArray) (y : Int) (h : Fd.tx s.data.toList = (r.data.toList, y)) (hs : s.size ≤ 1000) (W : World) :
    Calls Try.prog 26 #[.string s] W fun e w' => e = .returned (.tuple #[.string r, .int .i64 y]) ∧ Below W.heap.size W w' := by
  have := fdtext_any s W (by omega)
  rw [h, fd_id] at this
  exact this
theorem fjoin_at (l : List ByteArray) (r : ByteArray) (y : Int) (h : Fd.jn (Fd.bl l) = (r.data.toList, y)) (hl : l.length ≤ 1000) (hz : Fd.tot l ≤ 1000) (v : Value) (W : World) (S : StS W v l) :
    Calls Try.prog 30 #[v] W fun e w' => e = .returned (.tuple #[.string r, .int .i64 y]) ∧ Below W.heap.size W w' := by
  have := fjoin_any v l W S (by omega) (by omega)
  rw [h, fd_id] at this
  exact this
set_option maxHeartbeats 4000000 in
set_option maxRecDepth 100000 in
theorem lives14 (w : World) :
    Calls Try.prog 25 #[] w fun e w' => e = .returned (.bool true) ∧ Below w.heap.size w w' := by
  obtain ⟨i0, hi, hz0, hz1, hz2⟩ := fd_parts fd_info
  obtain ⟨CC, hC⟩ : ∃ C, C = madeCells #[.string ⟨#[]⟩] 17 := ⟨_, rfl⟩
  have hCr : CC = ((List.replicate 17 (⟨#[]⟩ : ByteArray)).map Value.string).toArray := by rw [hC]; kernel_rfl
  have MK : ∀ W, Sem.run Try.prog (Instr.makeSlice 37 (.int .i64 17) (.int .i64 17)) W = .ok (.slice (some ⟨W.heap.size, 0, none⟩) 17 17) (W.alloc (.cells CC 9)) := fun W => by
    have := run_make (P := Try.prog) W 37 9 i0 (.string ⟨#[]⟩) Try.underlying37 hi hz0 .i64 .i64 17 17 (by decide) (by decide) (by rw [hz2]; decide) (by decide)
    rw [hz1] at this
    rw [hC]
    exact this
  have SR : ∀ W : World, StS (W.alloc (.cells CC 9)) (.slice (some ⟨W.heap.size, 0, none⟩) 17 17) (List.replicate 17 (⟨#[]⟩ : ByteArray)) := fun W => by rw [hCr]; exact StS.row W _ _ _
  clear hC hCr
  have O1 := Lib.hid (fof_at ⟨#[97, 32, 34, 98, 32, 99, 34, 100, 32, 35, 101]⟩ [⟨#[97]⟩, ⟨#[98, 32, 99, 100]⟩] 0 (by decide +kernel) (by decide))
  have O2 := Lib.hid (fof_at ⟨#[32, 34, 34, 9]⟩ [⟨#[]⟩] 0 (by decide +kernel) (by decide))
  have O3 := Lib.hid (fof_at ⟨#[97, 34]⟩ [] 8 (by decide +kernel) (by decide))
  have O4 := Lib.hid (fof_at ⟨#[97, 35, 98, 34]⟩ [⟨#[97]⟩] 0 (by decide +kernel) (by decide))
  have O5 := Lib.hid (fof_at ⟨#[49, 32, 50, 32, 51, 32, 52, 32, 53, 32, 54, 32, 55, 32, 56, 32, 57, 32, 49, 48, 32, 49, 49, 32, 49, 50, 32, 49, 51, 32, 49, 52, 32, 49, 53, 32, 49, 54, 32, 49, 55]⟩ [] 6 (by decide +kernel) (by decide))
  have O6 := Lib.hid (fof_at ⟨#[32, 32, 35, 32, 34]⟩ [] 0 (by decide +kernel) (by decide))
  have T1 := Lib.hid (ftext_at ⟨#[97, 32, 98]⟩ ⟨#[34, 97, 32, 98, 34]⟩ 0 (by decide +kernel) (by decide))
  have T2 := Lib.hid (ftext_at ⟨#[97, 34]⟩ ⟨#[]⟩ 8 (by decide +kernel) (by decide))
  have T3 := Lib.hid (ftext_at ⟨#[]⟩ ⟨#[34, 34]⟩ 0 (by decide +kernel) (by decide))
  have J1 := Lib.hid (fjoin_at [⟨#[97]⟩, ⟨#[35]⟩, ⟨#[99]⟩] ⟨#[97, 32, 34, 35, 34, 32, 99]⟩ 0 (by decide +kernel) (by decide) (by decide +kernel))
  have J2 := Lib.hid (fjoin_at (List.replicate 17 ⟨#[]⟩) ⟨#[]⟩ 6 (by decide +kernel) (by decide) (by decide +kernel))
  go_enter Try.func25, Try.ntmps25
  go_wp2_with fail
  refine (O1.out _).mono ?_; rintro e w1 ⟨vO1, sO1, rfl, b1⟩
  have SO1 := Lib.hid sO1; obtain ⟨AO1, cO1, rfl, -⟩ := sO1
  have d1 : Below w.heap.size w w1 := below_step (by repeat (first | exact Below.refl _ _ | refine below_drewN ?_ _ | refine Below.drew ?_ | refine Below.setCell ?_ (by first | (simp; done) | (simp; omega) | omega) _ | refine Below.alloc ?_ (by first | (simp; done) | (simp; omega) | omega) _)) b1
  have B1 := Lib.hid d1
  clear d1 b1
  go_wp2_with fail
  refine (O2.out _).mono ?_; rintro e w2 ⟨vO2, sO2, rfl, b2⟩
  have SO2 := Lib.hid sO2; obtain ⟨AO2, cO2, rfl, -⟩ := sO2
  have d2 : Below w1.heap.size w1 w2 := below_step (by repeat (first | exact Below.refl _ _ | refine below_drewN ?_ _ | refine Below.drew ?_ | refine Below.setCell ?_ (by first | (simp; done) | (simp; omega) | omega) _ | refine Below.alloc ?_ (by first | (simp; done) | (simp; omega) | omega) _)) b2
  have B2 := Lib.hid (below_step B1.out d2)
  have SO1 := Lib.hid (SO1.out.on d2)
  clear d2 b2 B1
  go_wp2_with fail
  refine (O3.out _).mono ?_; rintro e w3 ⟨vO3, sO3, rfl, b3⟩
  have SO3 := Lib.hid sO3; obtain ⟨AO3, cO3, rfl, -⟩ := sO3
  have d3 : Below w2.heap.size w2 w3 := below_step (by repeat (first | exact Below.refl _ _ | refine below_drewN ?_ _ | refine Below.drew ?_ | refine Below.setCell ?_ (by first | (simp; done) | (simp; omega) | omega) _ | refine Below.alloc ?_ (by first | (simp; done) | (simp; omega) | omega) _)) b3
  have B3 := Lib.hid (below_step B2.out d3)
  have SO1 := Lib.hid (SO1.out.on d3)
  have SO2 := Lib.hid (SO2.out.on d3)
  clear d3 b3 B2
  clear SO3
  go_wp2_with fail
  refine (O4.out _).mono ?_; rintro e w4 ⟨vO4, sO4, rfl, b4⟩
  have SO4 := Lib.hid sO4; obtain ⟨AO4, cO4, rfl, -⟩ := sO4
  have d4 : Below w3.heap.size w3 w4 := below_step (by repeat (first | exact Below.refl _ _ | refine below_drewN ?_ _ | refine Below.drew ?_ | refine Below.setCell ?_ (by first | (simp; done) | (simp; omega) | omega) _ | refine Below.alloc ?_ (by first | (simp; done) | (simp; omega) | omega) _)) b4
  have B4 := Lib.hid (below_step B3.out d4)
  have SO1 := Lib.hid (SO1.out.on d4)
  have SO2 := Lib.hid (SO2.out.on d4)
  clear d4 b4 B3
  go_wp2_with fail
  refine (O5.out _).mono ?_; rintro e w5 ⟨vO5, sO5, rfl, b5⟩
  have SO5 := Lib.hid sO5; obtain ⟨AO5, cO5, rfl, -⟩ := sO5
  have d5 : Below w4.heap.size w4 w5 := below_step (by repeat (first | exact Below.refl _ _ | refine below_drewN ?_ _ | refine Below.drew ?_ | refine Below.setCell ?_ (by first | (simp; done) | (simp; omega) | omega) _ | refine Below.alloc ?_ (by first | (simp; done) | (simp; omega) | omega) _)) b5
  have B5 := Lib.hid (below_step B4.out d5)
  have SO1 := Lib.hid (SO1.out.on d5)
  have SO2 := Lib.hid (SO2.out.on d5)
  have SO4 := Lib.hid (SO4.out.on d5)
  clear d5 b5 B4
  clear SO5
  go_wp2_with fail
  refine (O6.out _).mono ?_; rintro e w6 ⟨vO6, sO6, rfl, b6⟩
  have SO6 := Lib.hid sO6; obtain ⟨AO6, cO6, rfl, -⟩ := sO6
  have d6 : Below w5.heap.size w5 w6 := below_step (by repeat (first | exact Below.refl _ _ | refine below_drewN ?_ _ | refine Below.drew ?_ | refine Below.setCell ?_ (by first | (simp; done) | (simp; omega) | omega) _ | refine Below.alloc ?_ (by first | (simp; done) | (simp; omega) | omega) _)) b6
  have B6 := Lib.hid (below_step B5.out d6)
  have SO1 := Lib.hid (SO1.out.on d6)
  have SO2 := Lib.hid (SO2.out.on d6)
  have SO4 := Lib.hid (SO4.out.on d6)
  clear d6 b6 B5
  clear SO6
  go_wp2_with fail
  refine (T1.out _).mono ?_; rintro e w7 ⟨rfl, b7⟩
  have d7 : Below w6.heap.size w6 w7 := below_step (by repeat (first | exact Below.refl _ _ | refine below_drewN ?_ _ | refine Below.drew ?_ | refine Below.setCell ?_ (by first | (simp; done) | (simp; omega) | omega) _ | refine Below.alloc ?_ (by first | (simp; done) | (simp; omega) | omega) _)) b7
  have B7 := Lib.hid (below_step B6.out d7)
  have SO1 := Lib.hid (SO1.out.on d7)
  have SO2 := Lib.hid (SO2.out.on d7)
  have SO4 := Lib.hid (SO4.out.on d7)
  clear d7 b7 B6
  go_wp2_with fail
  refine (T2.out _).mono ?_; rintro e w8 ⟨rfl, b8⟩
  have d8 : Below w7.heap.size w7 w8 := below_step (by repeat (first | exact Below.refl _ _ | refine below_drewN ?_ _ | refine Below.drew ?_ | refine Below.setCell ?_ (by first | (simp; done) | (simp; omega) | omega) _ | refine Below.alloc ?_ (by first | (simp; done) | (simp; omega) | omega) _)) b8
  have B8 := Lib.hid (below_step B7.out d8)
  have SO1 := Lib.hid (SO1.out.on d8)
  have SO2 := Lib.hid (SO2.out.on d8)
  have SO4 := Lib.hid (SO4.out.on d8)
  clear d8 b8 B7
  go_wp2_with fail
  refine (T3.out _).mono ?_; rintro e w9 ⟨rfl, b9⟩
  have d9 : Below w8.heap.size w8 w9 := below_step (by repeat (first | exact Below.refl _ _ | refine below_drewN ?_ _ | refine Below.drew ?_ | refine Below.setCell ?_ (by first | (simp; done) | (simp; omega) | omega) _ | refine Below.alloc ?_ (by first | (simp; done) | (simp; omega) | omega) _)) b9
  have B9 := Lib.hid (below_step B8.out d9)
  have SO1 := Lib.hid (SO1.out.on d9)
  have SO2 := Lib.hid (SO2.out.on d9)
  have SO4 := Lib.hid (SO4.out.on d9)
  clear d9 b9 B8
  go_wp2_with fail
  refine (J1.out _ _ (StS.row _ [⟨#[97]⟩, ⟨#[35]⟩, ⟨#[99]⟩] _ _)).mono ?_; rintro e w10 ⟨rfl, b10⟩
  have d10 : Below w9.heap.size w9 w10 := below_step (by repeat (first | exact Below.refl _ _ | refine below_drewN ?_ _ | refine Below.drew ?_ | refine Below.setCell ?_ (by first | (simp; done) | (simp; omega) | omega) _ | refine Below.alloc ?_ (by first | (simp; done) | (simp; omega) | omega) _)) b10
  have B10 := Lib.hid (below_step B9.out d10)
  have SO1 := Lib.hid (SO1.out.on d10)
  have SO2 := Lib.hid (SO2.out.on d10)
  have SO4 := Lib.hid (SO4.out.on d10)
  clear d10 b10 B9
  go_wp2_with fail
  refine (J2.out _ _ (SR _)).mono ?_; rintro e w11 ⟨rfl, b11⟩
  have d11 : Below w10.heap.size w10 w11 := below_step (by repeat (first | exact Below.refl _ _ | refine below_drewN ?_ _ | refine Below.drew ?_ | refine Below.setCell ?_ (by first | (simp; done) | (simp; omega) | omega) _ | refine Below.alloc ?_ (by first | (simp; done) | (simp; omega) | omega) _)) b11
  have B11 := Lib.hid (below_step B10.out d11)
  have SO1 := Lib.hid (SO1.out.on d11)
  have SO2 := Lib.hid (SO2.out.on d11)
  have SO4 := Lib.hid (SO4.out.on d11)
  clear d11 b11 B10
  go_wp2_with fail
  refine (same13_yes _ _ [⟨#[97]⟩, ⟨#[98, 32, 99, 100]⟩] _ (by decide) (SO1.out.on (by repeat (first | exact Below.refl _ _ | refine below_drewN ?_ _ | refine Below.drew ?_ | refine Below.setCell ?_ (by first | (simp; done) | (simp; omega) | omega) _ | refine Below.alloc ?_ (by first | (simp; done) | (simp; omega) | omega) _))) (StS.row _ [⟨#[97]⟩, ⟨#[98, 32, 99, 100]⟩] _ _)).mono ?_; rintro e w12 ⟨rfl, b12⟩
  have d12 : Below w11.heap.size w11 w12 := below_step (by repeat (first | exact Below.refl _ _ | refine below_drewN ?_ _ | refine Below.drew ?_ | refine Below.setCell ?_ (by first | (simp; done) | (simp; omega) | omega) _ | refine Below.alloc ?_ (by first | (simp; done) | (simp; omega) | omega) _)) b12
  have B12 := Lib.hid (below_step B11.out d12)
  have SO1 := Lib.hid (SO1.out.on d12)
  have SO2 := Lib.hid (SO2.out.on d12)
  have SO4 := Lib.hid (SO4.out.on d12)
  clear d12 b12 B11
  go_wp2_with fail
  refine (same13_yes _ _ [⟨#[]⟩] _ (by decide) (SO2.out.on (by repeat (first | exact Below.refl _ _ | refine below_drewN ?_ _ | refine Below.drew ?_ | refine Below.setCell ?_ (by first | (simp; done) | (simp; omega) | omega) _ | refine Below.alloc ?_ (by first | (simp; done) | (simp; omega) | omega) _))) (StS.row _ [⟨#[]⟩] _ _)).mono ?_; rintro e w13 ⟨rfl, b13⟩
  have d13 : Below w12.heap.size w12 w13 := below_step (by repeat (first | exact Below.refl _ _ | refine below_drewN ?_ _ | refine Below.drew ?_ | refine Below.setCell ?_ (by first | (simp; done) | (simp; omega) | omega) _ | refine Below.alloc ?_ (by first | (simp; done) | (simp; omega) | omega) _)) b13
  have B13 := Lib.hid (below_step B12.out d13)
  have SO1 := Lib.hid (SO1.out.on d13)
  have SO2 := Lib.hid (SO2.out.on d13)
  have SO4 := Lib.hid (SO4.out.on d13)
  clear d13 b13 B12
  go_wp2_with fail
  refine (same13_yes _ _ [⟨#[97]⟩] _ (by decide) (SO4.out.on (by repeat (first | exact Below.refl _ _ | refine below_drewN ?_ _ | refine Below.drew ?_ | refine Below.setCell ?_ (by first | (simp; done) | (simp; omega) | omega) _ | refine Below.alloc ?_ (by first | (simp; done) | (simp; omega) | omega) _))) (StS.row _ [⟨#[97]⟩] _ _)).mono ?_; rintro e w14 ⟨rfl, b14⟩
  have d14 : Below w13.heap.size w13 w14 := below_step (by repeat (first | exact Below.refl _ _ | refine below_drewN ?_ _ | refine Below.drew ?_ | refine Below.setCell ?_ (by first | (simp; done) | (simp; omega) | omega) _ | refine Below.alloc ?_ (by first | (simp; done) | (simp; omega) | omega) _)) b14
  have B14 := Lib.hid (below_step B13.out d14)
  have SO1 := Lib.hid (SO1.out.on d14)
  have SO2 := Lib.hid (SO2.out.on d14)
  have SO4 := Lib.hid (SO4.out.on d14)
  clear d14 b14 B13
  go_wp2_with fail
  go_ret
  exact ⟨rfl, B14.out⟩
end Go.Proofs.Ytndophkojnfcaaa


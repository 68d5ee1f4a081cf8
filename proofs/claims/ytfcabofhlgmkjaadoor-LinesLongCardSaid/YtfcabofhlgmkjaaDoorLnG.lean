/- The answers that noontidelaw13.lives asks for: it is true. -/
import Derived.Test.YtfcabofhlgmkjaaDoorLnE
import Derived.Test.YtfcabofhlgmkjaaDoorLnF
import Derived.Laws.MakeOwn
import Derived.Laws.IdiomStrings
set_option linter.unusedVariables false
set_option linter.unusedSimpArgs false
namespace Go.Proofs.YtfcabofhlgmkjaaDoor
open Go.RowKit Go.Sort

theorem cell_keep {P : Addr} {v : Value} {w W : World} (hm : w.cell? P = some v) (k : Below w.heap.size w W) : W.cell? P = some v :=
  (k.cell (World.block_lt_of_cell? _ _ hm)).trans hm
theorem StS.newl (W : World) (l : List ByteArray) (t : TypeId) (c : Nat) : StS (W.alloc (.cells (l.map Value.string).toArray t)) (.slice (some ⟨W.heap.size, 0, none⟩) l.length c) l :=
  ⟨_, _, rfl, fun _ => ⟨_, rfl, by simp, by
    intro j u hj
    rw [show (⟨W.heap.size, 0, none⟩ : Addr).add j = ⟨W.heap.size, j, none⟩ by simp [Addr.add]; exact fun h => h.symm]
    rw [Lib.cell_of_heap (heap_alloc_new W _)]
    simpa using hj⟩⟩
theorem lof_at (s : ByteArray) (L : List ByteArray) (m : Int) (h : Ln.cut [] s.data.toList = L.map (·.data.toList)) (hs : s.size ≤ 2000000) (W : World) (hm : W.cell? ⟨1, 0, none⟩ = some (.int .i64 m)) :
    Calls Tryd.prog 39 #[.string s] W fun e w' => ∃ v, StS w' v L ∧ e = .returned v ∧ Below W.heap.size W w' :=
  (lof_any s W m hs hm).mono fun e w' ⟨v, l, S, hl, he, hb⟩ => ⟨v, by rw [← Ln.bytes_inj (hl.trans h)]; exact S, he, hb⟩
theorem first_at (s : ByteArray) (a b m : Int) (h : Ln.fsrc s.data.toList = (a, b)) (hs : s.size ≤ 2000000) (W : World) (hm : W.cell? ⟨1, 0, none⟩ = some (.int .i64 m)) :
    Calls Tryd.prog 43 #[.string s] W fun e w' => e = .returned (.agg #[.int .i64 a, .int .i64 b]) ∧ Below W.heap.size W w' := by
  have := first_anyx s W hs (fun W' hb => lof_any s W' m hs (cell_keep hm hb))
  rw [h] at this
  exact this
theorem check_at (s : ByteArray) (a : Int) (h : Ln.chk s.data.toList = a) (hs : s.size ≤ 2000000) (W : World) :
    Calls Tryd.prog 41 #[.string s] W fun e w' => e = .returned (.int .i64 a) ∧ Below W.heap.size W w' := by
  have := lcheck_any s W (by unfold maxLen; omega)
  rw [h] at this
  exact this
theorem join_at (l : List ByteArray) (r : ByteArray) (h : Ln.jn l = r.data.toList) (hl : l.length ≤ 1000) (hj : (Ln.jn l).length ≤ 900000) (v : Value) (W : World) (S : StS W v l) :
    Calls Tryd.prog 45 #[v] W fun e w' => e = .returned (.string r) ∧ Below W.heap.size W w' := by
  have := ljoin_any v l W S (by omega) hj
  rw [show (⟨(Ln.jn l).toArray⟩ : ByteArray) = r by rw [h]] at this
  exact this
set_option maxHeartbeats 4000000 in
set_option maxRecDepth 100000 in
theorem lives13 (w : World) (m : Int) (hm : w.cell? ⟨1, 0, none⟩ = some (.int .i64 m)) :
    Calls Tryd.prog 37 #[] w fun e w' => e = .returned (.bool true) ∧ Below w.heap.size w w' := by
  have M0 := Lib.hid hm; clear hm
  obtain ⟨i0, hi, hz0, hz1, hz2⟩ := ln_parts (show (Tryd.prog.info? 5).map (fun i => (i.zero, i.size, i.bytes)) = some (some (.int .u8 0), 1, 1) by kernel_rfl)
  obtain ⟨C, hC⟩ : ∃ C, C = madeCells #[.int .u8 0] 512 := ⟨_, rfl⟩
  have MK : ∀ W, Sem.run Tryd.prog (Instr.makeSlice 59 (.int .i64 512) (.int .i64 512)) W = .ok (.slice (some ⟨W.heap.size, 0, none⟩) 512 512) (W.alloc (.cells C 5)) := fun W => by
    have := run_make (P := Tryd.prog) W 59 5 i0 (.int .u8 0) Tryd.underlying59 hi hz0 .i64 .i64 512 512 (by decide) (by decide) (by rw [hz2]; decide) (by decide)
    rw [hz1] at this
    rw [hC]
    exact this
  obtain ⟨LG, hLG⟩ : ∃ LG : ByteArray, LG = ⟨(List.replicate 512 (0 : UInt8)).toArray⟩ := ⟨_, rfl⟩
  have zLG : LG.size = 512 := by rw [hLG]; show (List.replicate 512 (0 : UInt8)).toArray.size = 512; rw [List.size_toArray, List.length_replicate]
  have CV : ∀ W : World, Sem.run Tryd.prog (convert 59 9 (.slice (some ⟨W.heap.size, 0, none⟩) 512 512)) (W.alloc (.cells C 5)) = .ok (.string LG) (W.alloc (.cells C 5)) := fun W => by
    have := run_convert_bytes_back (P := Tryd.prog) (W.alloc (.cells C 5)) 59 9 5 ⟨W.heap.size, 0, none⟩ 512 (List.replicate 512 (0 : UInt8)) Tryd.underlying59 Tryd.underlying5 Tryd.underlying9 (fun j hj => by
      rw [show (⟨W.heap.size, 0, none⟩ : Addr).add j = ⟨W.heap.size, j, none⟩ by simp [Addr.add]; exact fun h => h.symm]
      rw [Lib.cell_of_heap (heap_alloc_new W _), hC]
      have hj' : j < 512 := by rwa [List.length_replicate] at hj
      rw [show (List.replicate 512 (0 : UInt8))[j] = 0 from List.getElem_replicate ..]
      unfold madeCells
      simp only [Array.getElem?_map, Array.getElem?_range, hj', if_true, Option.map_some]
      simp [Nat.mod_one])
    rw [List.length_replicate, ← hLG] at this
    exact this
  have K9 := Lib.hid (check_at LG 9 (by unfold Ln.chk; rw [ab_len, if_pos (by omega)]) (by omega))
  have F1 := Lib.hid (first_at (⟨#[97, 10, 255, 10]⟩ ++ LG) 2 7 m (by
    have z : (⟨#[97, 10, 255, 10]⟩ ++ LG : ByteArray).data.toList = [97, 10, 255, 10] ++ LG.data.toList := by rw [ByteArray.data_append, Array.toList_append]
    have hz : (⟨#[97, 10, 255, 10]⟩ ++ LG : ByteArray).size = 4 + LG.size := by rw [ByteArray.size_append]; rfl
    unfold Ln.fsrc
    rw [ab_len, if_neg (by omega), z]
    rfl) (by rw [ByteArray.size_append, zLG]; decide))
  have F2 := Lib.hid (first_at ⟨#[97, 10, 98]⟩ 0 0 m (by decide +kernel) (by decide))
  have O1 := Lib.hid (lof_at ⟨#[97, 10, 10, 98]⟩ [⟨#[97]⟩, ⟨#[]⟩, ⟨#[98]⟩] m (by decide +kernel) (by decide))
  have O2 := Lib.hid (lof_at ⟨#[97, 10]⟩ [⟨#[97]⟩] m (by decide +kernel) (by decide))
  have O3 := Lib.hid (lof_at ⟨#[10]⟩ [⟨#[]⟩] m (by decide +kernel) (by decide))
  have O4 := Lib.hid (lof_at ⟨#[]⟩ [] m (by decide +kernel) (by decide))
  have K1 := Lib.hid (check_at ⟨#[97, 9, 98, 32, 126]⟩ 0 (by decide +kernel) (by decide))
  have K2 := Lib.hid (check_at ⟨#[97, 127]⟩ 7 (by decide +kernel) (by decide))
  have K3 := Lib.hid (check_at ⟨#[13]⟩ 7 (by decide +kernel) (by decide))
  have J1 := Lib.hid (join_at [⟨#[97]⟩, ⟨#[]⟩] ⟨#[97, 10, 10]⟩ (by decide +kernel) (by decide) (by decide +kernel))
  have J2 := Lib.hid (join_at [] ⟨#[]⟩ (by decide +kernel) (by decide) (by decide +kernel))
  have zI : (⟨#[97, 10, 255, 10]⟩ : ByteArray).size = 4 := rfl
  clear hC hLG
  go_enter Tryd.func37, Tryd.ntmps37
  go_wp2_with fail
  refine (O1.out _ (cell_keep M0.out (by repeat (first | exact Below.refl _ _ | refine below_drewN ?_ _ | refine Below.drew ?_ | refine Below.setCell ?_ (by first | (simp; done) | (simp; omega) | omega) _ | refine Below.alloc ?_ (by first | (simp; done) | (simp; omega) | omega) _)))).mono ?_; rintro e w1 ⟨v, S, rfl, b1⟩
  have B1 := Lib.hid (show Below w.heap.size w w1 from below_step (by repeat (first | exact Below.refl _ _ | refine below_drewN ?_ _ | refine Below.drew ?_ | refine Below.setCell ?_ (by first | (simp; done) | (simp; omega) | omega) _ | refine Below.alloc ?_ (by first | (simp; done) | (simp; omega) | omega) _)) b1)
  go_wp2_with fail
  refine (same13_yes _ _ [⟨#[97]⟩, ⟨#[]⟩, ⟨#[98]⟩] _ (by decide) (S.on (by repeat (first | exact Below.refl _ _ | refine below_drewN ?_ _ | refine Below.drew ?_ | refine Below.setCell ?_ (by first | (simp; done) | (simp; omega) | omega) _ | refine Below.alloc ?_ (by first | (simp; done) | (simp; omega) | omega) _))) (StS.newl _ [⟨#[97]⟩, ⟨#[]⟩, ⟨#[98]⟩] _ _)).mono ?_; rintro e w2 ⟨rfl, b2⟩
  have B2 := Lib.hid (below_step B1.out (show Below w1.heap.size w1 w2 from below_step (by repeat (first | exact Below.refl _ _ | refine below_drewN ?_ _ | refine Below.drew ?_ | refine Below.setCell ?_ (by first | (simp; done) | (simp; omega) | omega) _ | refine Below.alloc ?_ (by first | (simp; done) | (simp; omega) | omega) _)) b2))
  clear S b1 b2
  go_wp2_with fail
  refine (O2.out _ (cell_keep (cell_keep M0.out B2.out) (by repeat (first | exact Below.refl _ _ | refine below_drewN ?_ _ | refine Below.drew ?_ | refine Below.setCell ?_ (by first | (simp; done) | (simp; omega) | omega) _ | refine Below.alloc ?_ (by first | (simp; done) | (simp; omega) | omega) _)))).mono ?_; rintro e w3 ⟨v, S, rfl, b3⟩
  have B3 := Lib.hid (below_step B2.out (show Below w2.heap.size w2 w3 from below_step (by repeat (first | exact Below.refl _ _ | refine below_drewN ?_ _ | refine Below.drew ?_ | refine Below.setCell ?_ (by first | (simp; done) | (simp; omega) | omega) _ | refine Below.alloc ?_ (by first | (simp; done) | (simp; omega) | omega) _)) b3))
  go_wp2_with fail
  refine (same13_yes _ _ [⟨#[97]⟩] _ (by decide) (S.on (by repeat (first | exact Below.refl _ _ | refine below_drewN ?_ _ | refine Below.drew ?_ | refine Below.setCell ?_ (by first | (simp; done) | (simp; omega) | omega) _ | refine Below.alloc ?_ (by first | (simp; done) | (simp; omega) | omega) _))) (StS.newl _ [⟨#[97]⟩] _ _)).mono ?_; rintro e w4 ⟨rfl, b4⟩
  have B4 := Lib.hid (below_step B3.out (show Below w3.heap.size w3 w4 from below_step (by repeat (first | exact Below.refl _ _ | refine below_drewN ?_ _ | refine Below.drew ?_ | refine Below.setCell ?_ (by first | (simp; done) | (simp; omega) | omega) _ | refine Below.alloc ?_ (by first | (simp; done) | (simp; omega) | omega) _)) b4))
  clear S b3 b4
  go_wp2_with fail
  refine (O3.out _ (cell_keep (cell_keep M0.out B4.out) (by repeat (first | exact Below.refl _ _ | refine below_drewN ?_ _ | refine Below.drew ?_ | refine Below.setCell ?_ (by first | (simp; done) | (simp; omega) | omega) _ | refine Below.alloc ?_ (by first | (simp; done) | (simp; omega) | omega) _)))).mono ?_; rintro e w5 ⟨v, S, rfl, b5⟩
  have B5 := Lib.hid (below_step B4.out (show Below w4.heap.size w4 w5 from below_step (by repeat (first | exact Below.refl _ _ | refine below_drewN ?_ _ | refine Below.drew ?_ | refine Below.setCell ?_ (by first | (simp; done) | (simp; omega) | omega) _ | refine Below.alloc ?_ (by first | (simp; done) | (simp; omega) | omega) _)) b5))
  go_wp2_with fail
  refine (same13_yes _ _ [⟨#[]⟩] _ (by decide) (S.on (by repeat (first | exact Below.refl _ _ | refine below_drewN ?_ _ | refine Below.drew ?_ | refine Below.setCell ?_ (by first | (simp; done) | (simp; omega) | omega) _ | refine Below.alloc ?_ (by first | (simp; done) | (simp; omega) | omega) _))) (StS.newl _ [⟨#[]⟩] _ _)).mono ?_; rintro e w6 ⟨rfl, b6⟩
  have B6 := Lib.hid (below_step B5.out (show Below w5.heap.size w5 w6 from below_step (by repeat (first | exact Below.refl _ _ | refine below_drewN ?_ _ | refine Below.drew ?_ | refine Below.setCell ?_ (by first | (simp; done) | (simp; omega) | omega) _ | refine Below.alloc ?_ (by first | (simp; done) | (simp; omega) | omega) _)) b6))
  clear S b5 b6
  go_wp2_with fail
  refine (O4.out _ (cell_keep (cell_keep M0.out B6.out) (by repeat (first | exact Below.refl _ _ | refine below_drewN ?_ _ | refine Below.drew ?_ | refine Below.setCell ?_ (by first | (simp; done) | (simp; omega) | omega) _ | refine Below.alloc ?_ (by first | (simp; done) | (simp; omega) | omega) _)))).mono ?_; rintro e w7 ⟨v, S, rfl, b7⟩
  have B7 := Lib.hid (below_step B6.out (show Below w6.heap.size w6 w7 from below_step (by repeat (first | exact Below.refl _ _ | refine below_drewN ?_ _ | refine Below.drew ?_ | refine Below.setCell ?_ (by first | (simp; done) | (simp; omega) | omega) _ | refine Below.alloc ?_ (by first | (simp; done) | (simp; omega) | omega) _)) b7))
  obtain ⟨A4, c4, rfl, -⟩ := S
  go_wp2_with fail
  refine (K1.out _).mono ?_; rintro e w8 ⟨rfl, b8⟩
  have B8 := Lib.hid (below_step B7.out (show Below w7.heap.size w7 w8 from below_step (by repeat (first | exact Below.refl _ _ | refine below_drewN ?_ _ | refine Below.drew ?_ | refine Below.setCell ?_ (by first | (simp; done) | (simp; omega) | omega) _ | refine Below.alloc ?_ (by first | (simp; done) | (simp; omega) | omega) _)) b8))
  go_wp2_with fail
  refine (K2.out _).mono ?_; rintro e w9 ⟨rfl, b9⟩
  have B9 := Lib.hid (below_step B8.out (show Below w8.heap.size w8 w9 from below_step (by repeat (first | exact Below.refl _ _ | refine below_drewN ?_ _ | refine Below.drew ?_ | refine Below.setCell ?_ (by first | (simp; done) | (simp; omega) | omega) _ | refine Below.alloc ?_ (by first | (simp; done) | (simp; omega) | omega) _)) b9))
  go_wp2_with fail
  refine (K9.out _).mono ?_; rintro e w10 ⟨rfl, b10⟩
  have B10 := Lib.hid (below_step B9.out (show Below w9.heap.size w9 w10 from below_step (by repeat (first | exact Below.refl _ _ | refine below_drewN ?_ _ | refine Below.drew ?_ | refine Below.setCell ?_ (by first | (simp; done) | (simp; omega) | omega) _ | refine Below.alloc ?_ (by first | (simp; done) | (simp; omega) | omega) _)) b10))
  go_wp2_with fail
  refine (K3.out _).mono ?_; rintro e w11 ⟨rfl, b11⟩
  have B11 := Lib.hid (below_step B10.out (show Below w10.heap.size w10 w11 from below_step (by repeat (first | exact Below.refl _ _ | refine below_drewN ?_ _ | refine Below.drew ?_ | refine Below.setCell ?_ (by first | (simp; done) | (simp; omega) | omega) _ | refine Below.alloc ?_ (by first | (simp; done) | (simp; omega) | omega) _)) b11))
  go_wp2_with fail
  refine (F1.out _ (cell_keep (cell_keep M0.out B11.out) (by repeat (first | exact Below.refl _ _ | refine below_drewN ?_ _ | refine Below.drew ?_ | refine Below.setCell ?_ (by first | (simp; done) | (simp; omega) | omega) _ | refine Below.alloc ?_ (by first | (simp; done) | (simp; omega) | omega) _)))).mono ?_; rintro e w12 ⟨rfl, b12⟩
  have B12 := Lib.hid (below_step B11.out (show Below w11.heap.size w11 w12 from below_step (by repeat (first | exact Below.refl _ _ | refine below_drewN ?_ _ | refine Below.drew ?_ | refine Below.setCell ?_ (by first | (simp; done) | (simp; omega) | omega) _ | refine Below.alloc ?_ (by first | (simp; done) | (simp; omega) | omega) _)) b12))
  go_wp2_with fail
  refine (F2.out _ (cell_keep (cell_keep M0.out B12.out) (by repeat (first | exact Below.refl _ _ | refine below_drewN ?_ _ | refine Below.drew ?_ | refine Below.setCell ?_ (by first | (simp; done) | (simp; omega) | omega) _ | refine Below.alloc ?_ (by first | (simp; done) | (simp; omega) | omega) _)))).mono ?_; rintro e w13 ⟨rfl, b13⟩
  have B13 := Lib.hid (below_step B12.out (show Below w12.heap.size w12 w13 from below_step (by repeat (first | exact Below.refl _ _ | refine below_drewN ?_ _ | refine Below.drew ?_ | refine Below.setCell ?_ (by first | (simp; done) | (simp; omega) | omega) _ | refine Below.alloc ?_ (by first | (simp; done) | (simp; omega) | omega) _)) b13))
  go_wp2_with fail
  refine (J1.out _ _ (StS.newl _ [⟨#[97]⟩, ⟨#[]⟩] _ _)).mono ?_; rintro e w14 ⟨rfl, b14⟩
  have B14 := Lib.hid (below_step B13.out (show Below w13.heap.size w13 w14 from below_step (by repeat (first | exact Below.refl _ _ | refine below_drewN ?_ _ | refine Below.drew ?_ | refine Below.setCell ?_ (by first | (simp; done) | (simp; omega) | omega) _ | refine Below.alloc ?_ (by first | (simp; done) | (simp; omega) | omega) _)) b14))
  go_wp2_with fail
  refine (J2.out _ _ (Lst.nil _ _)).mono ?_; rintro e w15 ⟨rfl, b15⟩
  have B15 := Lib.hid (below_step B14.out (show Below w14.heap.size w14 w15 from below_step (by repeat (first | exact Below.refl _ _ | refine below_drewN ?_ _ | refine Below.drew ?_ | refine Below.setCell ?_ (by first | (simp; done) | (simp; omega) | omega) _ | refine Below.alloc ?_ (by first | (simp; done) | (simp; omega) | omega) _)) b15))
  go_wp2_with fail
  go_ret
  exact ⟨rfl, B15.out⟩
end Go.Proofs.YtfcabofhlgmkjaaDoor


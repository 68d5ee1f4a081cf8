/- The walk of LinesLong: whatever length and byte, the law answers true; nothing old turns. -/
import Derived.Test.YtfcabofhlgmkjaaDoorLnL
set_option linter.unusedVariables false
set_option linter.unusedSimpArgs false
namespace Go.Proofs.YtfcabofhlgmkjaaDoor
open Go.RowKit Go.Sort

set_option maxHeartbeats 4000000 in
set_option maxRecDepth 100000 in
theorem lnlong_out (n c : Int) (w : World) (m : Int) (hm : w.cell? ⟨1, 0, none⟩ = some (.int .i64 m)) (h : n < 1048570 ∨ 1048580 < n) :
    Calls Tryd.prog 7 #[.int .i64 n, .int .u8 c] w fun e w' => e = .returned (.bool true) ∧ Below w.heap.size w w' := by
  have LV := Lib.hid (lives13 w m hm)
  clear hm
  by_cases h1 : n < 1048570
  · go_enter Tryd.func7, Tryd.ntmps7
    go_wp2_with fail
    refine LV.out.mono ?_; rintro e w1 ⟨rfl, b1⟩
    go_wp2_with fail
    go_ret
    exact ⟨rfl, b1⟩
  · have h2 : 1048580 < n := by omega
    clear h
    go_enter Tryd.func7, Tryd.ntmps7
    go_wp2_with fail
    refine LV.out.mono ?_; rintro e w1 ⟨rfl, b1⟩
    go_wp2_with fail
    go_ret
    exact ⟨rfl, b1⟩
set_option maxHeartbeats 8000000 in
set_option maxRecDepth 100000 in
theorem lnlong_in (n : Int) (K : Nat) (c : Int) (cb : UInt8) (w : World) (m : Int) (hm : w.cell? ⟨1, 0, none⟩ = some (.int .i64 m)) (g0 : ¬ n < 1048570) (g9 : ¬ 1048580 < n) (hK : n = (K : Int)) (hc : c = (cb.toNat : Int)) :
    Calls Tryd.prog 7 #[.int .i64 n, .int .u8 c] w fun e w' => e = .returned (.bool true) ∧ Below w.heap.size w w' := by
  have M0 := Lib.hid hm; clear hm
  have HC := Lib.hid hc
  have cr : 0 ≤ c ∧ c ≤ 255 := by have := cb.toNat_lt; omega
  obtain ⟨c0, c1⟩ := cr
  clear hc
  have LV := Lib.hid (fun W (h : W.cell? ⟨1, 0, none⟩ = some (.int .i64 m)) => lives13 W m h)
  obtain ⟨i0, hi, hz0, hz1, hz2⟩ := ln_parts (show (Tryd.prog.info? 5).map (fun i => (i.zero, i.size, i.bytes)) = some (some (.int .u8 0), 1, 1) by kernel_rfl)
  obtain ⟨C, hC⟩ : ∃ C, C = madeCells #[.int .u8 0] K := ⟨_, rfl⟩
  have MK : ∀ W, Sem.run Tryd.prog (Instr.makeSlice 59 (.int .i64 n) (.int .i64 n)) W = .ok (.slice (some ⟨W.heap.size, 0, none⟩) K K) (W.alloc (.cells C 5)) := fun W => by
    have := run_make (P := Tryd.prog) W 59 5 i0 (.int .u8 0) Tryd.underlying59 hi hz0 .i64 .i64 n n (by omega) (by omega) (by rw [hz2]; omega) (by omega)
    rw [hz1, show n.toNat = K by omega, Nat.mul_one] at this
    rw [hC]
    exact this
  have CC := Lib.hid (show ∀ j, j < K → C[j]? = some (.int .u8 0) from fun j hj => by
    rw [hC]
    unfold madeCells
    simp only [Array.getElem?_map, Array.getElem?_range, hj, if_true, Option.map_some]
    simp [Nat.mod_one])
  have HK := Lib.hid hK
  have hK1 : 1 ≤ K := by omega
  have hK2 : (K : Int) ≤ 4000000 := by omega
  clear hC hi hz0 hz1 hz2 hK
  go_enter Tryd.func7, Tryd.ntmps7
  go_wp2_with fail
  refine (LV.out _ M0.out).mono ?_; rintro e w1 ⟨rfl, b1⟩
  have B1 := Lib.hid b1
  clear b1 LV
  go_wp2_with fail
  go_loopw [20] (fun i wr => ∃ k : Nat, k ≤ K ∧ i = .int .i64 k ∧ Hid (∀ j, j < K → wr.cell? ⟨w1.heap.size, j, none⟩ = some (.int .u8 (if j < k then ((Ln.pat j).toNat : Int) else 0))) ∧ Hid (∀ j, wr.frozen? ⟨w1.heap.size, j, none⟩ = false) ∧ Hid (Below w1.heap.size w1 wr) ∧ w1.heap.size < wr.heap.size) (fun i _ => K - (intOf i).toNat)
  case atStart =>
    refine ⟨0, Nat.zero_le _, rfl, ?_, ?_, (Below.refl _ _).alloc (Nat.le_refl _) _, by simp⟩
    · intro j hj
      rw [Lib.cell_of_heap (heap_alloc_new w1 _), CC.out j hj]
      rfl
    · intro j; simp [go_sem]
  case round =>
    obtain ⟨k, hk, rfl, hcl, hfz, hbw, hsz⟩ := hrel
    by_cases hlt : k < K
    · have g := hcl.out k hlt
      rw [if_neg (Nat.lt_irrefl k)] at g
      have fz := hfz.out k
      by_cases h5 : k % 500 = 499
      · have g5 : ((k : Int) % 500 == 499) = true := by rw [beq_iff_eq]; omega
        have PT := Lib.hid (show Ln.pat k = 10 by unfold Ln.pat; rw [if_pos h5])
        have gs : (wr.setCell ⟨w1.heap.size, k, none⟩ (.int .u8 32)).cell? ⟨w1.heap.size, k, none⟩ = some (.int .u8 32) := World.cell?_setCell_same _ _ _ g
        clear h5
        go_wp2_with fail
        go_roundw
        case rel =>
          refine ⟨k + 1, by omega, by go_num, ?_, ?_, ?_, by simpa using hsz⟩
          · intro j hj
            by_cases e : j = k
            · subst e
              rw [World.cell?_setCell_same _ _ _ gs, if_pos (Nat.lt_succ_self _), PT.out]
              rfl
            · have ne : (⟨w1.heap.size, k, none⟩ : Addr) ≠ ⟨w1.heap.size, j, none⟩ := by intro h; injection h with _ h _; exact e h.symm
              rw [World.cell?_setCell_other _ _ _ _ ne, World.cell?_setCell_other _ _ _ _ ne, hcl.out j hj]
              by_cases hjk : j < k
              · rw [if_pos hjk, if_pos (by omega)]
              · rw [if_neg hjk, if_neg (by omega)]
          · intro j; simp only [World.frozen?_setCell]; exact hfz.out j
          · refine Lib.hid ?_
            repeat (first | exact hbw.out | refine Below.setCell ?_ (by first | omega | (simp; done) | (simp; omega)) _)
        case measure => simp [intOf]; omega
      · have g5 : ((k : Int) % 500 == 499) = false := by rw [beq_eq_false_iff_ne]; omega
        have PT := Lib.hid (show Ln.pat k = 32 by unfold Ln.pat; rw [if_neg h5])
        clear h5
        go_wp2_with fail
        go_roundw
        case rel =>
          refine ⟨k + 1, by omega, by go_num, ?_, ?_, ?_, by simpa using hsz⟩
          · intro j hj
            by_cases e : j = k
            · subst e
              rw [World.cell?_setCell_same _ _ _ g, if_pos (Nat.lt_succ_self _), PT.out]
              rfl
            · have ne : (⟨w1.heap.size, k, none⟩ : Addr) ≠ ⟨w1.heap.size, j, none⟩ := by intro h; injection h with _ h _; exact e h.symm
              rw [World.cell?_setCell_other _ _ _ _ ne, hcl.out j hj]
              by_cases hjk : j < k
              · rw [if_pos hjk, if_pos (by omega)]
              · rw [if_neg hjk, if_neg (by omega)]
          · intro j; simp only [World.frozen?_setCell]; exact hfz.out j
          · refine Lib.hid ?_
            repeat (first | exact hbw.out | refine Below.setCell ?_ (by first | omega | (simp; done) | (simp; omega)) _)
        case measure => simp [intOf]; omega
    · obtain rfl : k = K := by omega
      have kn := HK.out
      have g := hcl.out 0 (by omega)
      have fz := hfz.out 0
      obtain ⟨LG, hLG, zLG⟩ : ∃ LG : ByteArray, LG.data.toList = cb :: Ln.run 1 (k - 1) ∧ LG.size = k := ⟨⟨(cb :: Ln.run 1 (k - 1)).toArray⟩, rfl, by
        show (cb :: Ln.run 1 (k - 1)).toArray.size = _
        rw [List.size_toArray, List.length_cons, Ln.run_len]; omega⟩
      have CV : Sem.run Tryd.prog (convert 59 9 (.slice (some ⟨w1.heap.size, 0, none⟩) k k)) (wr.setCell ⟨w1.heap.size, 0, none⟩ (.int .u8 c)) = .ok (.string LG) (wr.setCell ⟨w1.heap.size, 0, none⟩ (.int .u8 c)) := by
        have hl : (cb :: Ln.run 1 (k - 1)).length = k := by rw [List.length_cons, Ln.run_len]; omega
        have := run_convert_bytes_back (P := Tryd.prog) (wr.setCell ⟨w1.heap.size, 0, none⟩ (.int .u8 c)) 59 9 5 ⟨w1.heap.size, 0, none⟩ k (cb :: Ln.run 1 (k - 1)) Tryd.underlying59 Tryd.underlying5 Tryd.underlying9 (fun j hj => by
          rw [show (⟨w1.heap.size, 0, none⟩ : Addr).add j = ⟨w1.heap.size, j, none⟩ by simp [Addr.add]; exact fun h => h.symm]
          cases j with
          | zero =>
            rw [World.cell?_setCell_same _ _ _ g, HC.out]; rfl
          | succ j =>
            have ne : (⟨w1.heap.size, 0, none⟩ : Addr) ≠ ⟨w1.heap.size, j + 1, none⟩ := by intro h; injection h with _ h _; exact absurd h (by omega)
            rw [hl] at hj
            rw [World.cell?_setCell_other _ _ _ _ ne, hcl.out (j + 1) hj, if_pos hj, List.getElem_cons_succ, Ln.run_get 1 (k - 1) j (by omega), Nat.add_comm 1 j])
        rw [hl, show (⟨(cb :: Ln.run 1 (k - 1)).toArray⟩ : ByteArray) = LG by apply ByteArray.ext; apply Array.toList_inj.1; rw [hLG]] at this
        exact this
      have B9 : Below w.heap.size w (wr.setCell ⟨w1.heap.size, 0, none⟩ (.int .u8 c)) := below_step B1.out (hbw.out.setCell (Nat.le_refl _) _)
      have FST := first_anyx LG (wr.setCell ⟨w1.heap.size, 0, none⟩ (.int .u8 c)) (by omega) (fun W' hb => lof_any LG W' m (by omega) (cell_keep (cell_keep M0.out B9) hb))
      rw [hLG] at FST
      have BB := Lib.hid B9
      have cbe : ∀ v : UInt8, cb = v ↔ c = (v.toNat : Int) := fun v => by
        rw [HC.out]
        constructor
        · intro h; rw [h]
        · intro h; exact UInt8.toNat_inj.1 (by omega)
      have okc : Ln.okB cb = (decide (c = 9) || (decide (32 ≤ c) && decide (c ≤ 126))) := by
        unfold Ln.okB
        rw [HC.out]
        have e1 : decide (cb.toNat = 9) = decide ((cb.toNat : Int) = 9) := decide_eq_decide.2 (by omega)
        have e2 : decide (32 ≤ cb.toNat) = decide (32 ≤ (cb.toNat : Int)) := decide_eq_decide.2 (by omega)
        have e3 : decide (cb.toNat ≤ 126) = decide ((cb.toNat : Int) ≤ 126) := decide_eq_decide.2 (by omega)
        rw [e1, e2, e3]
      clear hcl hfz hLG CC B9
      have KN := Lib.hid kn
      clear kn
      by_cases hbig : 1048576 < n
      · rw [Ln.long_far cb (k - 1) (by have := KN.out; omega)] at FST
        have F := Lib.hid FST
        clear FST okc cbe
        go_wp2_with fail
        refine F.out.mono ?_; rintro e w2 ⟨rfl, b2⟩
        go_wp2_with fail
        go_ret
        refine ⟨rfl, ?_⟩
        have B2 := below_step BB.out b2
        repeat (first | exact B2 | refine Below.setCell ?_ (by first | omega | (simp; done) | (simp; omega)) _ | refine Below.alloc ?_ (by have := B2.size; first | omega | (simp; omega)) _)
      · by_cases e9 : c = 9
        · rw [Ln.long_ok cb (k - 1) (by have := KN.out; omega) (.inr (by rw [okc, e9]; rfl))] at FST
          have F := Lib.hid FST
          clear FST okc cbe
          subst e9
          go_wp2_with fail
          refine F.out.mono ?_; rintro e w2 ⟨rfl, b2⟩
          go_wp2_with fail
          go_ret
          refine ⟨rfl, ?_⟩
          have B2 := below_step BB.out b2
          repeat (first | exact B2 | refine Below.setCell ?_ (by first | omega | (simp; done) | (simp; omega)) _ | refine Below.alloc ?_ (by have := B2.size; first | omega | (simp; omega)) _)
        · by_cases e10 : c = 10
          · rw [Ln.long_ok cb (k - 1) (by have := KN.out; omega) (.inl ((cbe 10).2 e10))] at FST
            have F := Lib.hid FST
            clear FST okc cbe
            subst e10
            go_wp2_with fail
            refine F.out.mono ?_; rintro e w2 ⟨rfl, b2⟩
            go_wp2_with fail
            go_ret
            refine ⟨rfl, ?_⟩
            have B2 := below_step BB.out b2
            repeat (first | exact B2 | refine Below.setCell ?_ (by first | omega | (simp; done) | (simp; omega)) _ | refine Below.alloc ?_ (by have := B2.size; first | omega | (simp; omega)) _)
          · have g99 : (c == 9) = false := by rw [beq_eq_false_iff_ne]; exact e9
            have g10 : (c == 10) = false := by rw [beq_eq_false_iff_ne]; exact e10
            have n99 : (c != 9) = true := by unfold bne; rw [g99]; rfl
            have n10 : (c != 10) = true := by unfold bne; rw [g10]; rfl
            have ne10 : cb ≠ 10 := fun h => e10 ((cbe 10).1 h)
            by_cases e32 : c < 32
            · rw [Ln.long_bad cb (k - 1) (by have := KN.out; omega) ne10 (by rw [okc, decide_eq_false e9, decide_eq_false (by omega)]; rfl)] at FST
              have F := Lib.hid FST
              clear FST okc cbe ne10 e9 e10
              go_wp2_with fail
              refine F.out.mono ?_; rintro e w2 ⟨rfl, b2⟩
              go_wp2_with fail
              go_ret
              refine ⟨rfl, ?_⟩
              have B2 := below_step BB.out b2
              repeat (first | exact B2 | refine Below.setCell ?_ (by first | omega | (simp; done) | (simp; omega)) _ | refine Below.alloc ?_ (by have := B2.size; first | omega | (simp; omega)) _)
            · by_cases e126 : 126 < c
              · rw [Ln.long_bad cb (k - 1) (by have := KN.out; omega) ne10 (by rw [okc, decide_eq_false e9, decide_eq_false (show ¬ c ≤ 126 by omega)]; simp)] at FST
                have F := Lib.hid FST
                clear FST okc cbe ne10 e9 e10
                go_wp2_with fail
                refine F.out.mono ?_; rintro e w2 ⟨rfl, b2⟩
                go_wp2_with fail
                go_ret
                refine ⟨rfl, ?_⟩
                have B2 := below_step BB.out b2
                repeat (first | exact B2 | refine Below.setCell ?_ (by first | omega | (simp; done) | (simp; omega)) _ | refine Below.alloc ?_ (by have := B2.size; first | omega | (simp; omega)) _)
              · rw [Ln.long_ok cb (k - 1) (by have := KN.out; omega) (.inr (by rw [okc, decide_eq_true (show 32 ≤ c by omega), decide_eq_true (show c ≤ 126 by omega)]; simp))] at FST
                have F := Lib.hid FST
                clear FST okc cbe ne10 e9 e10
                go_wp2_with fail
                refine F.out.mono ?_; rintro e w2 ⟨rfl, b2⟩
                go_wp2_with fail
                go_ret
                refine ⟨rfl, ?_⟩
                have B2 := below_step BB.out b2
                repeat (first | exact B2 | refine Below.setCell ?_ (by first | omega | (simp; done) | (simp; omega)) _ | refine Below.alloc ?_ (by have := B2.size; first | omega | (simp; omega)) _)
theorem lnlong_walk (n c : Int) (w : World) (c0 : 0 ≤ c) (c1 : c ≤ 255) (m : Int) (hm : w.cell? ⟨1, 0, none⟩ = some (.int .i64 m)) :
    Calls Tryd.prog 7 #[.int .i64 n, .int .u8 c] w fun e w' => e = .returned (.bool true) ∧ Below w.heap.size w w' := by
  by_cases h : n < 1048570 ∨ 1048580 < n
  · exact lnlong_out n c w m hm h
  · obtain ⟨K, rfl⟩ : ∃ K : Nat, n = K := ⟨n.toNat, by omega⟩
    exact lnlong_in _ K c (UInt8.ofNat c.toNat) w m hm (by omega) (by omega) rfl (by
      rw [show (UInt8.ofNat c.toNat).toNat = c.toNat by simp; omega]; omega)
end Go.Proofs.YtfcabofhlgmkjaaDoor


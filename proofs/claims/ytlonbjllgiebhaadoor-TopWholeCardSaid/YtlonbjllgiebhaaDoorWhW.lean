/- The walk of TopWhole: whatever is handed in, the law answers true; nothing old turns. -/
import Derived.Test.YtlonbjllgiebhaaDoorBg1
import Derived.Test.YtlonbjllgiebhaaDoorFlW
import Derived.Test.YtlonbjllgiebhaaDoorRlD
import Derived.Test.YtlonbjllgiebhaaDoorIiI
import Derived.Test.YtlonbjllgiebhaaDoorNumG
set_option linter.unusedVariables false
set_option linter.unusedSimpArgs false
namespace Go.Proofs.YtlonbjllgiebhaaDoor
open Go.RowKit Go.Sort

theorem wh_info : (Tryd.prog.info? 28).map (fun i => (i.zero, i.size, i.bytes)) = some (some (.float .f64 0), 1, 8) := by kernel_rfl
theorem wh_parts {i0 : Option TypeInfo} {z : Value} {n b : Nat} (h : i0.map (fun i => (i.zero, i.size, i.bytes)) = some (some z, n, b)) : ∃ i, i0 = some i ∧ i.zero = some z ∧ i.size = n ∧ i.bytes = b := by
  cases i0 with
  | none => cases h
  | some i => simp at h; exact ⟨i, rfl, h.1, h.2.1, h.2.2⟩
namespace Wh
def ok (x : Int) : Prop := -1099511627776 ≤ x ∧ x ≤ 1099511627776
theorem step {xs : List Int} {k : Nat} (h : k < xs.length) : (xs.take (k + 1)).sum = (xs.take k).sum + xs[k] ∧ ((xs.take (k + 1)).map FloatKind.f64.nearest) = (xs.take k).map FloatKind.f64.nearest ++ [FloatKind.f64.nearest xs[k]] := by
  rw [List.take_succ_eq_append_getElem h]
  exact ⟨by rw [List.sum_append]; simp, by rw [List.map_append]; rfl⟩
theorem ok_step {xs : List Int} {k : Nat} (h : k < xs.length) (h1 : ∀ x ∈ xs.take k, ok x) (h2 : ok xs[k]) : ∀ x ∈ xs.take (k + 1), ok x := by
  rw [List.take_succ_eq_append_getElem h]
  intro x hx
  rcases List.mem_append.1 hx with hx | hx
  · exact h1 x hx
  · rw [List.mem_singleton.1 hx]; exact h2
theorem form {w : World} {base : Nat} {e : TypeId} {size n : Nat} {v : Value} {xs : List Value} (h : w.ownsRow base e size v n xs) : ∃ A c, v = .slice A n c ∧ n ≤ c ∧ c ≤ maxLen := by
  rcases h.2 with ⟨hv, h0⟩ | ⟨g, cap, cur, hv, _, _, hn, hm, _⟩
  · exact ⟨none, 0, by rw [h0]; exact hv, by omega, Nat.zero_le _⟩
  · exact ⟨_, cap, hv, hn, hm⟩
theorem eqv_fin {r c : Nat} (h : Fl.Eqv r c) (hc : Fl.fin c) : r = c ∧ c < 18446744073709551616 := by
  rcases h.2 with e | ⟨_, e⟩
  · exact ⟨e, e ▸ h.1⟩
  · rw [Fl.fin_nan hc] at e; cases e
theorem bits {xs : List Int} (h : ∀ x ∈ xs, ok x) : ∀ y ∈ xs.map FloatKind.f64.nearest, y < 18446744073709551616 := by
  intro y hy
  obtain ⟨x, hx, rfl⟩ := List.mem_map.1 hy
  have := h x hx
  unfold ok at this
  exact (Fl.near_whole (n := x) (by omega) (by omega)).2.2
end Wh
set_option maxHeartbeats 16000000 in
set_option maxRecDepth 100000 in
theorem wh_walk (z : Int) (A : Option Addr) (n c : Nat) (xs : List Int) (w : World) (tp : TypeId) (p : Value) (L : Lv w w tp p) (hz0 : -9223372036854775808 ≤ z) (hz1 : z ≤ 9223372036854775807) (h : IiS w (.slice A n c) xs) (hc : n ≤ c) (hm : c ≤ maxLen) (hx : ∀ x ∈ xs, -9223372036854775808 ≤ x ∧ x ≤ 9223372036854775807) :
    Calls Tryd.prog 3 #[.int .i64 z, .slice A n c] w fun e w' => e = .returned (.bool true) ∧ Below w.heap.size w w' := by
  obtain ⟨i0, hi, hi0, hi1, hi2⟩ := wh_parts wh_info
  have H := Lib.hid h
  have HN := Lib.hid h.len
  have L0 := Lib.hid L
  have HX := Lib.hid hx
  have hn0 : (n : Int) ≤ 9223372036854775807 := by unfold maxLen at hm; omega
  clear h L hx hc hm
  have big : z < -9007199254740992 ∨ 9007199254740992 < z ∨ (-9007199254740992 ≤ z ∧ z ≤ 9007199254740992) := by omega
  rcases big with hb | hb | hb
  · go_enter Tryd.func3, Tryd.ntmps3
    go_wp2_with fail
    refine (begins1 _ tp p L0.out).mono ?_; rintro e w1 ⟨rfl, b1⟩
    have B1 := Lib.hid b1; clear b1
    go_wp2
    go_ret
    exact ⟨rfl, B1.out⟩
  · go_enter Tryd.func3, Tryd.ntmps3
    go_wp2_with fail
    refine (begins1 _ tp p L0.out).mono ?_; rintro e w1 ⟨rfl, b1⟩
    have B1 := Lib.hid b1; clear b1
    go_wp2
    go_ret
    exact ⟨rfl, B1.out⟩
  · by_cases hbig : 100 < n
    · have i1 : (100 : Int) < (n : Int) := by omega
      clear hbig
      go_enter Tryd.func3, Tryd.ntmps3
      go_wp2_with fail
      refine (begins1 _ tp p L0.out).mono ?_; rintro e w1 ⟨rfl, b1⟩
      have B1 := Lib.hid b1; clear b1
      go_wp2
      go_ret
      exact ⟨rfl, B1.out⟩
    · have i1 : decide ((100 : Int) < (n : Int)) = false := decide_eq_false (by omega)
      have i2 : (n : Int) ≤ 100 := by omega
      have HZ := Lib.hid hb
      go_enter Tryd.func3, Tryd.ntmps3
      go_wp2_with fail
      refine (begins1 _ tp p L0.out).mono ?_; rintro e w1 ⟨rfl, b1⟩
      have B1 := Lib.hid b1; clear b1
      go_wp2_with fail
      go_loopw [5, 6, 31] (fun s f i wr => ∃ k : Nat, k ≤ n ∧ i = .int .i64 k ∧ s = .int .i64 (xs.take k).sum ∧ Hid (wr.ownsRow w.heap.size 28 1 f k (flc ((xs.take k).map FloatKind.f64.nearest))) ∧ Hid (∀ x ∈ xs.take k, Wh.ok x) ∧ Hid (Below w.heap.size w wr)) (fun _ _ i _ => n - (intOf i).toNat)
      case atStart => exact ⟨0, Nat.zero_le _, rfl, rfl, World.ownsRow_nil _ _ _ _, (by intro x hx; cases hx), B1.out⟩
      case round =>
        obtain ⟨k, hk, rfl, rfl, hown, hok, hbw⟩ := hrel
        by_cases hlt : k < n
        · have hl2 : k < xs.length := by have := HN.out; omega
          obtain ⟨a, rfl, g1⟩ := (H.out.on hbw.out).get k hl2
          have SB := Lib.hid (Fl.sum_bd _ hok.out)
          obtain ⟨st1, st2⟩ := Wh.step hl2
          have ST1 := Lib.hid st1
          have ST2 := Lib.hid st2
          have OKS := Lib.hid (Wh.ok_step hl2 hok.out)
          have HXk := Lib.hid (HX.out _ (List.getElem_mem hl2))
          have KL := Lib.hid (show ((xs.take k).length : Int) ≤ 100 by rw [List.length_take]; omega)
          generalize xs[k] = y at *
          clear st1 st2 hl2
          have j0 : (0 : Int) ≤ k := by omega
          have j1 : (k : Int) < n := by omega
          have cases3 : y < -1099511627776 ∨ 1099511627776 < y ∨ (-1099511627776 ≤ y ∧ y ≤ 1099511627776) := by omega
          rcases cases3 with hy | hy | hy
          · go_wp2
            go_ret
            exact ⟨rfl, hbw.out⟩
          · go_wp2
            go_ret
            exact ⟨rfl, hbw.out⟩
          · have HY := Lib.hid hy
            have q1 : decide (1099511627776 < y) = false := decide_eq_false (by omega)
            have q2 : decide (y < -1099511627776) = false := decide_eq_false (by omega)
            have sb : -1000000000000000 ≤ (xs.take k).sum ∧ (xs.take k).sum ≤ 1000000000000000 := by have := SB.out; have := KL.out; omega
            have NA := Lib.hid (Nm.ok_yes (n := (xs.take k).sum + y) (by omega) (by omega))
            have HSB := Lib.hid sb
            clear sb hy SB
            go_wp2_with fail
            refine (nadd_b (xs.take k).sum y _ (by have := HSB.out; omega) (by have := HSB.out; omega) (by have := HY.out; omega) (by have := HY.out; omega)).mono ?_; rintro e w2 ⟨rfl, b2⟩
            rw [NA.out.1, NA.out.2, ← ST1.out]
            have B2 := Lib.hid (below_step hbw.out b2)
            have O2 := Lib.hid (own_on hown.out b2)
            clear b2 hown hbw g1
            obtain ⟨sm, hsm⟩ : ∃ sm, sm = (xs.take (k + 1)).sum := ⟨_, rfl⟩
            rw [← hsm]
            have HSM := Lib.hid hsm
            clear hsm
            go_wp2_with fail
            refine (real_of y _).mono ?_; rintro e w3 ⟨rfl, rfl⟩
            go_wp2_with (at_builtin; refine wpList_append_own _ rfl _ _ 24 rfl w.heap.size 28 i0 (.float .f64 0) 1 8 Tryd.underlying24 hi hi0 hi1 hi2 rfl (by decide) _ _ _ rfl (O2.out.alloc _) ⟨w2.heap.size, 0, none⟩ 1 1 [.float .f64 (FloatKind.f64.nearest y)] rfl rfl (by intro j u hj; match j, hj with | 0, hj => (simp at hj; subst hj; simp [go_sem])) (by intro u hu; simp at hu; subst hu; rfl) (by unfold maxLen; omega) (by omega) (by have := B2.out.size; simp; omega) ?_)
            intro v6 w6 own6 grow6 _
            have B6 := Lib.hid (show Below w.heap.size w w6 from ((B2.out.alloc B2.out.size _).trans (below_grown grow6 (by have := B2.out.size; simp; omega) (own_row O2.out))))
            have O6 := Lib.hid (show w6.ownsRow w.heap.size 28 1 v6 (k + 1) (flc ((xs.take (k + 1)).map FloatKind.f64.nearest)) from by rw [ST2.out]; unfold flc; rw [List.map_append]; rw [← List.map_take] at own6; exact own6)
            clear own6 grow6 O2 B2
            go_wp2_with fail
            go_roundw
            case rel => exact ⟨k + 1, by omega, by go_num, by rw [HSM.out], O6, Lib.hid (OKS.out HY.out), B6⟩
            case measure => first | (simp [intOf]; done) | (simp [intOf]; omega)
        · have hkk : k = xs.length := by have := HN.out; omega
          have hkn : k = n := by omega
          have TK : xs.take k = xs := by rw [hkk, List.take_length]
          rw [TK] at hown hok
          obtain ⟨cf, cv⟩ := Fl.csum_whole xs hok.out (by omega)
          have SB := Fl.sum_bd xs hok.out
          have sb : -1000000000000000 ≤ xs.sum ∧ xs.sum ≤ 1000000000000000 := by have hl : (xs.length : Int) ≤ 100 := by omega
                                                                                 omega
          have FS0 := Lst.own hown.out
          obtain ⟨A2, c2, hv, hc2, hm2⟩ := Wh.form hown.out
          rw [hkn] at hv hc2
          subst hv
          have FS : Hid (FlS wr (.slice A2 n c2) (xs.map FloatKind.f64.nearest)) := Lib.hid (show Lst wr wr.heap.size (.slice A2 n c2) (xs.map FloatKind.f64.nearest).length (flc (xs.map FloatKind.f64.nearest)) by rw [List.length_map, ← hkk]; exact FS0)
          have HC2 := Lib.hid hc2
          have HM2 := Lib.hid hm2
          have WLB := Lib.hid (Wh.bits hok.out)
          obtain ⟨zf, zv, zb⟩ := Fl.near_whole (n := z) HZ.out.1 HZ.out.2
          have ZB := Lib.hid zb
          have WZ := Lib.hid (fun way => Fl.ww_0 zf zv way (by have := HZ.out; omega) (by have := HZ.out; omega))
          obtain ⟨C, hC⟩ : ∃ C, C = Fl.csum (xs.map FloatKind.f64.nearest) := ⟨_, rfl⟩
          have EC : Hid (∀ r, Fl.Eqv r (Fl.csum (xs.map FloatKind.f64.nearest)) → r = C ∧ C < 18446744073709551616) := Lib.hid (fun r h => by rw [hC]; exact Wh.eqv_fin h cf)
          rw [← hC] at cf cv
          have WS := Lib.hid (fun way => Fl.ww_0 cf cv way (by omega) (by omega))
          have lt0 : decide ((k : Int) < (n : Int)) = false := decide_eq_false (by omega)
          have lt1 : decide (k < n) = false := decide_eq_false (by omega)
          rw [TK]
          clear FS0 hc2 hm2 hok hown cf cv zf zv zb SB TK hC hkk hkn sb hlt hk
          generalize xs.sum = S at *
          go_wp2_with fail
          refine wp_loop_rounds 6 ?_
          rw [rounds_succ]
          go_wp2_with fail
          refine (real_of z _).mono ?_; rintro e w3 ⟨rfl, rfl⟩
          go_wp2_with fail
          refine (whole_any (FloatKind.f64.nearest z) 1 ZB.out (by decide) (by decide) _).mono ?_; rintro e w4 ⟨rfl, n1, rfl⟩
          rw [(WZ.out (Fl.wayOf 1)).1, (WZ.out (Fl.wayOf 1)).2]
          go_wp2_with fail
          refine (sum_all A2 n c2 _ _ (FS.out.on (by repeat (first | exact Below.refl _ _ | refine below_drewN ?_ _))) HC2.out HM2.out WLB.out).mono ?_; rintro e w5 ⟨r, hr, rfl, k1, rfl⟩
          obtain ⟨rfl, hrb⟩ := EC.out r hr
          have HRB1 := Lib.hid hrb
          clear hr hrb
          go_wp2_with fail
          refine (whole_any _ 1 HRB1.out (by decide) (by decide) _).mono ?_; rintro e w6 ⟨rfl, m1, rfl⟩
          rw [(WS.out (Fl.wayOf 1)).1, (WS.out (Fl.wayOf 1)).2]
          go_wp2_with fail
          rw [rounds_succ]
          go_wp2_with fail
          refine (real_of z _).mono ?_; rintro e w3 ⟨rfl, rfl⟩
          go_wp2_with fail
          refine (whole_any (FloatKind.f64.nearest z) 2 ZB.out (by decide) (by decide) _).mono ?_; rintro e w4 ⟨rfl, n2, rfl⟩
          rw [(WZ.out (Fl.wayOf 2)).1, (WZ.out (Fl.wayOf 2)).2]
          go_wp2_with fail
          refine (sum_all A2 n c2 _ _ (FS.out.on (by repeat (first | exact Below.refl _ _ | refine below_drewN ?_ _))) HC2.out HM2.out WLB.out).mono ?_; rintro e w5 ⟨r, hr, rfl, k2, rfl⟩
          obtain ⟨rfl, hrb⟩ := EC.out r hr
          have HRB2 := Lib.hid hrb
          clear hr hrb
          go_wp2_with fail
          refine (whole_any _ 2 HRB2.out (by decide) (by decide) _).mono ?_; rintro e w6 ⟨rfl, m2, rfl⟩
          rw [(WS.out (Fl.wayOf 2)).1, (WS.out (Fl.wayOf 2)).2]
          go_wp2_with fail
          rw [rounds_succ]
          go_wp2_with fail
          refine (real_of z _).mono ?_; rintro e w3 ⟨rfl, rfl⟩
          go_wp2_with fail
          refine (whole_any (FloatKind.f64.nearest z) 3 ZB.out (by decide) (by decide) _).mono ?_; rintro e w4 ⟨rfl, n3, rfl⟩
          rw [(WZ.out (Fl.wayOf 3)).1, (WZ.out (Fl.wayOf 3)).2]
          go_wp2_with fail
          refine (sum_all A2 n c2 _ _ (FS.out.on (by repeat (first | exact Below.refl _ _ | refine below_drewN ?_ _))) HC2.out HM2.out WLB.out).mono ?_; rintro e w5 ⟨r, hr, rfl, k3, rfl⟩
          obtain ⟨rfl, hrb⟩ := EC.out r hr
          have HRB3 := Lib.hid hrb
          clear hr hrb
          go_wp2_with fail
          refine (whole_any _ 3 HRB3.out (by decide) (by decide) _).mono ?_; rintro e w6 ⟨rfl, m3, rfl⟩
          rw [(WS.out (Fl.wayOf 3)).1, (WS.out (Fl.wayOf 3)).2]
          go_wp2_with fail
          rw [rounds_succ]
          go_wp2_with fail
          refine (real_of z _).mono ?_; rintro e w3 ⟨rfl, rfl⟩
          go_wp2_with fail
          refine (whole_any (FloatKind.f64.nearest z) 4 ZB.out (by decide) (by decide) _).mono ?_; rintro e w4 ⟨rfl, n4, rfl⟩
          rw [(WZ.out (Fl.wayOf 4)).1, (WZ.out (Fl.wayOf 4)).2]
          go_wp2_with fail
          refine (sum_all A2 n c2 _ _ (FS.out.on (by repeat (first | exact Below.refl _ _ | refine below_drewN ?_ _))) HC2.out HM2.out WLB.out).mono ?_; rintro e w5 ⟨r, hr, rfl, k4, rfl⟩
          obtain ⟨rfl, hrb⟩ := EC.out r hr
          have HRB4 := Lib.hid hrb
          clear hr hrb
          go_wp2_with fail
          refine (whole_any _ 4 HRB4.out (by decide) (by decide) _).mono ?_; rintro e w6 ⟨rfl, m4, rfl⟩
          rw [(WS.out (Fl.wayOf 4)).1, (WS.out (Fl.wayOf 4)).2]
          go_wp2_with fail
          rw [rounds_succ]
          go_wp2_with fail
          go_ret
          exact ⟨rfl, below_step hbw.out (by repeat (first | exact Below.refl _ _ | refine below_drewN ?_ _))⟩
end Go.Proofs.YtlonbjllgiebhaaDoor


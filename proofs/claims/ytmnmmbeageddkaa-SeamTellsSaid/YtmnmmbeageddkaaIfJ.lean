/- Infos: slices.Compact. -/
import Derived.Test.YtmnmmbeageddkaaIfH
import Derived.Lib.SliceRun
set_option linter.unusedVariables false
set_option linter.unusedSimpArgs false
namespace Go.Proofs.Ytmnmmbeageddkaa
open Go.RowKit Go.Sort Go.Shelf

/-- An info of a row of cells, as an address reads it. -/
theorem RowC.get {w : World} {g : Nat} {d : List If.I} {ad : Addr} (had : ad = ⟨g, 0, none⟩) (h : RowC w g (If.ifc d)) (k : Nat) (hk : k < d.length) :
    w.cell? (ad.add (k * 5)) = some (.int .i64 d[k].1) ∧ w.cell? ⟨(ad.add (k * 5)).block, (ad.add (k * 5)).off + 1, none⟩ = some (.int .i64 d[k].2.1) ∧ w.cell? ⟨(ad.add (k * 5)).block, (ad.add (k * 5)).off + 2, none⟩ = some (.int .i64 d[k].2.2.1) ∧
    w.cell? ⟨(ad.add (k * 5)).block, (ad.add (k * 5)).off + 3, none⟩ = some (.int .i64 d[k].2.2.2.1) ∧ w.cell? ⟨(ad.add (k * 5)).block, (ad.add (k * 5)).off + 4, none⟩ = some (.string d[k].2.2.2.2) := by
  have hI : InV w (.slice (some ad) d.length d.length) d := by rw [had]; exact h.inv rfl
  obtain ⟨a, ha, _, r⟩ := hI.get k hk
  cases ha
  exact r
/-- An info of what lies behind. -/
theorem RowC.get2 {w : World} {g k : Nat} {d : List If.I} {ad ad2 : Addr} (had : ad = ⟨g, 0, none⟩) (h2 : ad.add (k * 5) = ad2) (h : RowC w g (If.ifc d)) (i : Nat) (hk : k + i < d.length) :
    w.cell? (ad2.add (i * 5)) = some (.int .i64 d[k + i].1) ∧ w.cell? ⟨(ad2.add (i * 5)).block, (ad2.add (i * 5)).off + 1, none⟩ = some (.int .i64 d[k + i].2.1) ∧ w.cell? ⟨(ad2.add (i * 5)).block, (ad2.add (i * 5)).off + 2, none⟩ = some (.int .i64 d[k + i].2.2.1) ∧
    w.cell? ⟨(ad2.add (i * 5)).block, (ad2.add (i * 5)).off + 3, none⟩ = some (.int .i64 d[k + i].2.2.2.1) ∧ w.cell? ⟨(ad2.add (i * 5)).block, (ad2.add (i * 5)).off + 4, none⟩ = some (.string d[k + i].2.2.2.2) := by
  have e : ad2.add (i * 5) = ad.add ((k + i) * 5) := by rw [← h2, add_two, Nat.add_mul]
  rw [e]
  exact h.get had (k + i) hk
theorem RowC.frz {w : World} {g : Nat} {d : List If.I} {ad : Addr} (had : ad = ⟨g, 0, none⟩) (h : RowC w g (If.ifc d)) (k : Nat) (hk : k < d.length) :
    w.frozen? (ad.add (k * 5)) = false ∧ w.frozen? ⟨(ad.add (k * 5)).block, (ad.add (k * 5)).off + 1, none⟩ = false ∧ w.frozen? ⟨(ad.add (k * 5)).block, (ad.add (k * 5)).off + 2, none⟩ = false ∧
    w.frozen? ⟨(ad.add (k * 5)).block, (ad.add (k * 5)).off + 3, none⟩ = false ∧ w.frozen? ⟨(ad.add (k * 5)).block, (ad.add (k * 5)).off + 4, none⟩ = false := by
  rw [had, add_off]
  have hl : (If.ifc d).length = d.length * 5 := If.ifc_len d
  exact ⟨h.2.2 (k * 5) (by omega), h.2.2 (k * 5 + 1) (by omega), h.2.2 (k * 5 + 2) (by omega), h.2.2 (k * 5 + 3) (by omega), h.2.2 (k * 5 + 4) (by omega)⟩
/-- What stands ahead of each cell's store, the ones before it stored. -/
theorem RowC.ahead {w : World} {g : Nat} {d : List If.I} {ad : Addr} (had : ad = ⟨g, 0, none⟩) (h : RowC w g (If.ifc d)) (k : Nat) (hk : k < d.length) (p : If.I) :
    (w.setCell (ad.add (k * 5)) (.int .i64 p.1)).cell? ⟨(ad.add (k * 5)).block, (ad.add (k * 5)).off + 1, none⟩ = some (.int .i64 d[k].2.1) ∧
    (w.setCell (ad.add (k * 5)) (.int .i64 p.1)).frozen? ⟨(ad.add (k * 5)).block, (ad.add (k * 5)).off + 1, none⟩ = false ∧
    ((w.setCell (ad.add (k * 5)) (.int .i64 p.1)).setCell ⟨(ad.add (k * 5)).block, (ad.add (k * 5)).off + 1, none⟩ (.int .i64 p.2.1)).cell? ⟨(ad.add (k * 5)).block, (ad.add (k * 5)).off + 2, none⟩ = some (.int .i64 d[k].2.2.1) ∧
    ((w.setCell (ad.add (k * 5)) (.int .i64 p.1)).setCell ⟨(ad.add (k * 5)).block, (ad.add (k * 5)).off + 1, none⟩ (.int .i64 p.2.1)).frozen? ⟨(ad.add (k * 5)).block, (ad.add (k * 5)).off + 2, none⟩ = false ∧
    (((w.setCell (ad.add (k * 5)) (.int .i64 p.1)).setCell ⟨(ad.add (k * 5)).block, (ad.add (k * 5)).off + 1, none⟩ (.int .i64 p.2.1)).setCell ⟨(ad.add (k * 5)).block, (ad.add (k * 5)).off + 2, none⟩ (.int .i64 p.2.2.1)).cell? ⟨(ad.add (k * 5)).block, (ad.add (k * 5)).off + 3, none⟩ = some (.int .i64 d[k].2.2.2.1) ∧
    (((w.setCell (ad.add (k * 5)) (.int .i64 p.1)).setCell ⟨(ad.add (k * 5)).block, (ad.add (k * 5)).off + 1, none⟩ (.int .i64 p.2.1)).setCell ⟨(ad.add (k * 5)).block, (ad.add (k * 5)).off + 2, none⟩ (.int .i64 p.2.2.1)).frozen? ⟨(ad.add (k * 5)).block, (ad.add (k * 5)).off + 3, none⟩ = false ∧
    ((((w.setCell (ad.add (k * 5)) (.int .i64 p.1)).setCell ⟨(ad.add (k * 5)).block, (ad.add (k * 5)).off + 1, none⟩ (.int .i64 p.2.1)).setCell ⟨(ad.add (k * 5)).block, (ad.add (k * 5)).off + 2, none⟩ (.int .i64 p.2.2.1)).setCell ⟨(ad.add (k * 5)).block, (ad.add (k * 5)).off + 3, none⟩ (.int .i64 p.2.2.2.1)).cell? ⟨(ad.add (k * 5)).block, (ad.add (k * 5)).off + 4, none⟩ = some (.string d[k].2.2.2.2) ∧
    ((((w.setCell (ad.add (k * 5)) (.int .i64 p.1)).setCell ⟨(ad.add (k * 5)).block, (ad.add (k * 5)).off + 1, none⟩ (.int .i64 p.2.1)).setCell ⟨(ad.add (k * 5)).block, (ad.add (k * 5)).off + 2, none⟩ (.int .i64 p.2.2.1)).setCell ⟨(ad.add (k * 5)).block, (ad.add (k * 5)).off + 3, none⟩ (.int .i64 p.2.2.2.1)).frozen? ⟨(ad.add (k * 5)).block, (ad.add (k * 5)).off + 4, none⟩ = false := by
  obtain ⟨a0, a1, a2, a3, a4⟩ := h.get had k hk
  obtain ⟨b0, b1, b2, b3, b4⟩ := h.frz had k hk
  have ne : ∀ (b o i j : Nat), i ≠ j → (⟨b, o + i, none⟩ : Addr) ≠ ⟨b, o + j, none⟩ := fun b o i j hij e => by injection e with _ e2; omega
  have e0 : ad.add (k * 5) = ⟨(ad.add (k * 5)).block, (ad.add (k * 5)).off + 0, none⟩ := by rw [had, add_off]; rfl
  rw [e0] at a0 b0 ⊢
  generalize (ad.add (k * 5)).block = B at *
  generalize (ad.add (k * 5)).off = O at *
  simp only [World.frozen?_setCell, b1, b2, b3, b4, and_true, true_and]
  refine ⟨?_, ?_, ?_, ?_⟩
  · rw [World.cell?_setCell_other _ _ _ _ (ne _ _ _ _ (by decide))]; exact a1
  · rw [World.cell?_setCell_other _ _ _ _ (ne _ _ _ _ (by decide)), World.cell?_setCell_other _ _ _ _ (ne _ _ _ _ (by decide))]; exact a2
  · rw [World.cell?_setCell_other _ _ _ _ (ne _ _ _ _ (by decide)), World.cell?_setCell_other _ _ _ _ (ne _ _ _ _ (by decide)), World.cell?_setCell_other _ _ _ _ (ne _ _ _ _ (by decide))]; exact a3
  · rw [World.cell?_setCell_other _ _ _ _ (ne _ _ _ _ (by decide)), World.cell?_setCell_other _ _ _ _ (ne _ _ _ _ (by decide)), World.cell?_setCell_other _ _ _ _ (ne _ _ _ _ (by decide)), World.cell?_setCell_other _ _ _ _ (ne _ _ _ _ (by decide))]; exact a4
theorem set5_grown (w : World) (g k : Nat) (p : If.I) : w.grownBy (((((w.setCell ⟨g, k * 5, none⟩ (.int .i64 p.1)).setCell ⟨g, k * 5 + 1, none⟩ (.int .i64 p.2.1)).setCell ⟨g, k * 5 + 2, none⟩ (.int .i64 p.2.2.1)).setCell ⟨g, k * 5 + 3, none⟩ (.int .i64 p.2.2.2.1)).setCell ⟨g, k * 5 + 4, none⟩ (.string p.2.2.2.2)) (some g) :=
  ((((set_grown _ _ _ _).trans (set_grown _ _ _ _)).trans (set_grown _ _ _ _)).trans (set_grown _ _ _ _)).trans (set_grown _ _ _ _)
/-- What a clear writes. -/
def If.zs (n : Nat) : List Value := (Builtin.zeroCells #[.int .i64 0, .int .i64 0, .int .i64 0, .int .i64 0, .string ⟨#[]⟩] n).toList
theorem If.zs_len (n : Nat) : (If.zs n).length = n * 5 := by simp [If.zs, Builtin.zeroCells]
theorem If.zs_one (n : Nat) : ∀ v ∈ If.zs n, v.oneCell' = true := by
  intro v hv
  simp only [If.zs, Builtin.zeroCells, Array.toList_map, List.mem_map] at hv
  obtain ⟨i, _, rfl⟩ := hv
  have : i % 5 < 5 := Nat.mod_lt _ (by decide)
  show (#[Value.int .i64 0, .int .i64 0, .int .i64 0, .int .i64 0, .string ⟨#[]⟩][i % 5]!).oneCell' = true
  generalize i % 5 = j at this
  match j, this with
  | 0, _ => rfl
  | 1, _ => rfl
  | 2, _ => rfl
  | 3, _ => rfl
  | 4, _ => rfl
theorem clear_inf {w : World} {g : Nat} {d : List If.I} (h : RowC w g (If.ifc d)) (k c : Nat) (hk : k < d.length) (ty : TypeId) :
    (Builtin.clear_ #[46] ty #[.slice (some ⟨g, k * 5, none⟩) (d.length - k) c]).run Try.prog w = .ok (.tuple #[]) (w.setCells g (k * 5) (If.zs (d.length - k))) := by
  have hz : ∀ W, (zeroValue 36).run Try.prog W = .ok (.agg #[.int .i64 0, .int .i64 0, .int .i64 0, .int .i64 0, .string ⟨#[]⟩]) W := fun W => by kernel_rfl
  have ht : Try.prog.underlying 46 = some (.slice 36) := by kernel_rfl
  have hl := If.ifc_len d
  have hst := run_storeCells_cells (P := Try.prog) g (k * 5) (If.zs (d.length - k)) 0 w (fun j hj => by
      rw [If.zs_len] at hj
      have : k * 5 + 0 + j < (If.ifc d).length := by omega
      rw [h.2.1 (k * 5 + 0 + j) _ (List.getElem?_eq_getElem this)]
      rfl) (fun j hj => by
      rw [If.zs_len] at hj
      exact h.2.2 _ (by omega)) (If.zs_one _)
  simp only [Nat.add_zero] at hst
  obtain ⟨m, hm⟩ : ∃ m, d.length - k = m + 1 := ⟨d.length - k - 1, by omega⟩
  rw [hm] at hst ⊢
  have hzc : (Builtin.zeroCells (Value.agg #[.int .i64 0, .int .i64 0, .int .i64 0, .int .i64 0, .string ⟨#[]⟩]).cells (m + 1)).toList = If.zs (m + 1) := rfl
  simp [Builtin.clear_, run_underlying ht, hz, hzc, hst]
theorem setCells_grown (w : World) (g : Nat) (vs : List Value) (o : Nat) : w.grownBy (w.setCells g o vs) (some g) := by
  induction vs generalizing w o with
  | nil => exact ⟨rfl, rfl, rfl, Nat.le_refl _, fun _ _ _ => rfl⟩
  | cons v r ih => rw [World.setCells]; exact (set_grown _ _ _ _).trans (ih _ _)
theorem below_grownC {w w' : World} {g : Nat} (hg : g < w.heap.size) (h : w.grownBy w' (some g)) : Below g w w' :=
  ⟨h.1, h.2, h.3, h.4, fun k hk => h.5 k (by omega) (by intro e; cases e; omega)⟩
theorem RowC.cleared {w : World} {g k : Nat} {d : List If.I} (h : RowC w g (If.ifc d)) (hk : k < d.length) (vs : List Value) (c : Nat) : InV (w.setCells g (k * 5) vs) (.slice (some ⟨g, 0, none⟩) k c) (d.take k) := by
  have hl : (d.take k).length = k := by rw [List.length_take]; omega
  have hh : RowC (w.setCells g (k * 5) vs) g (If.ifc (d.take k)) := by
    have G := setCells_grown w g vs (k * 5)
    have e : ∀ j u, (If.ifc (d.take k))[j]? = some u → j < k * 5 ∧ (If.ifc d)[j]? = some u := by
      intro j u hu
      have hj := (List.getElem?_eq_some_iff.1 hu).1
      rw [If.ifc_len, hl] at hj
      refine ⟨hj, ?_⟩
      rw [ifc_at' _ j (by rw [hl]; exact hj)] at hu
      rw [ifc_at' d j (by omega), ← hu, List.getElem_take]
    refine ⟨Nat.lt_of_lt_of_le h.1 G.size, fun j u hu => ?_, fun j hj => ?_⟩
    · rw [World.cell?_setCells_out g vs (k * 5) w _ (fun _ _ => .inl (e j u hu).1)]
      exact h.2.1 j u (e j u hu).2
    · rw [World.frozen?_setCells]
      rw [If.ifc_len, hl] at hj
      exact h.2.2 j (by rw [If.ifc_len]; omega)
  exact hh.inv hl.symm
set_option maxRecDepth 100000 in
set_option maxHeartbeats 16000000 in
theorem compact_inf (g cap : Nat) (d : List If.I) (w : World) (h : RowC w g (If.ifc d)) (hc : d.length ≤ cap) (hl : d.length ≤ 200) :
    Calls Try.prog 51 #[.slice (some ⟨g, 0, none⟩) d.length cap] w fun e w' => ∃ A c, e = .returned (.slice A (If.dd d).length c) ∧ InV w' (.slice A (If.dd d).length c) (If.dd d) ∧ Below g w w' := by
  obtain ⟨ad, had⟩ : ∃ ad : Addr, ad = ⟨g, 0, none⟩ := ⟨_, rfl⟩
  rw [← had]
  have AD := Lib.hid had
  have H := Lib.hid h
  obtain ⟨n, hn⟩ : ∃ n, d.length = n := ⟨_, rfl⟩
  have HN := Lib.hid hn
  rw [hn] at hc hl ⊢
  have HC := Lib.hid hc
  clear h had hn hc
  by_cases h2 : (n : Int) < 2
  · have E := Lib.hid (If.dd_all d (by rw [HN.out]; omega))
    go_enter Try.func51, Try.ntmps51
    go_wp2
    go_ret
    refine ⟨some ad, cap, by rw [E.out, HN.out]; rfl, ?_, Below.refl _ _⟩
    rw [E.out, AD.out]
    exact H.out.inv rfl
  · go_enter Try.func51, Try.ntmps51
    go_wp2_with fail
    go_loopw [3] (fun i wr => ∃ (k m : Nat), 1 ≤ k ∧ k ≤ n ∧ i = .int .i64 k ∧ Hid (∀ j, 1 ≤ j → j < k → ∀ (h1 : j < d.length), d[j] ≠ d[j - 1]'(by omega)) ∧ Hid (wr = w.drewN m)) (fun i _ => n - (intOf i).toNat)
    case atStart => exact ⟨1, 0, Nat.le_refl _, by omega, rfl, Lib.hid (fun j h1 h2 => by omega), Lib.hid rfl⟩
    case round =>
      rename World => w2
      obtain ⟨k, m, hk1, hk, rfl, NO, W⟩ := hrel
      by_cases hlt : k < n
      · have hkl : k < d.length := by rw [HN.out]; exact hlt
        have R2 := Lib.hid (show RowC w2 g (If.ifc d) by rw [W.out]; exact H.out.drewN m)
        obtain ⟨g1, g2, g3, g4, g5⟩ := R2.out.get AD.out k hkl
        obtain ⟨j, hj⟩ : ∃ j, k - 1 = j := ⟨_, rfl⟩
        have hjl : j < d.length := by omega
        obtain ⟨k1, k2, k3, k4, k5⟩ := R2.out.get AD.out j hjl
        have NJ := Lib.hid (show d[k] ≠ d[j] → ∀ i, 1 ≤ i → i < k + 1 → ∀ (h1 : i < d.length), d[i] ≠ d[i - 1]'(by omega) from fun hne i h1 h2 h3 => by
          by_cases e : i = k
          · subst e
            have : i - 1 = j := hj
            subst this
            exact hne
          · exact NO.out i h1 (by omega) h3)
        have DE := Lib.hid (If.dd_at d k hk1 (by omega) (fun i h1 h2 => NO.out i h1 h2 (by omega)))
        have i1 : (k : Int) < n := by omega
        have i2 : decide (k < n) = true := decide_eq_true (by omega)
        have i3 : (k : Int) - 1 = (j : Int) := by omega
        have i4 : (j : Int) < n := by omega
        have i5 : decide (j < n) = true := decide_eq_true (by omega)
        have JK := Lib.hid hj
        clear hj
        rcases if_cmp d[k] d[j] with hxy | hxy
        · -- the first one that is as the one ahead
          have D2 := Lib.hid (show If.dd d = d.take k ++ If.dd2 (d[k + 1 - 1]'(by omega)) (d.drop (k + 1)) by
            have hj' : k - 1 = j := JK.out
            have a := DE.out
            rw [List.drop_eq_getElem_cons hkl, If.dd2, if_pos (by subst hj'; exact hxy)] at a
            exact a)
          clear NJ DE
          have XY := Lib.hid hxy
          rw [hxy] at g1 g2 g3 g4 g5
          clear hxy
          obtain ⟨ad2, had2⟩ : ∃ ad2, ad.add (k * 5) = ad2 := ⟨_, rfl⟩
          have hsl : ∀ W, (Instr.slice 46 (.slice (some ad) n cap) (some (.int .i64 k)) none none).run Try.prog W = .ok (.slice (some ad2) (n - k) (cap - k)) W := by
            intro W
            rw [run_slice_l (P := Try.prog) (w := W) 46 (some ad) n cap (by kernel_rfl) .i64 k (by omega) (by omega)]
            have e2 : (sizeOf (Try.prog.elem 46)).run Try.prog W = .ok 5 W := by kernel_rfl
            rw [e2]
            have hck : ¬ cap = k := by have := HC.out; omega
            simp only [Result.andThen, sliced, Int.toNat_natCast, if_neg hck, Option.map_some, had2]
          generalize d[j] = q at *
          obtain ⟨y0, y1, y2, y3, y4⟩ := q
          dsimp only at g1 g2 g3 g4 g5 k1 k2 k3 k4 k5
          have A2 := Lib.hid had2
          clear had2
          obtain ⟨r, hr⟩ : ∃ r, n - k = r := ⟨_, rfl⟩
          rw [hr] at hsl
          have HRr := Lib.hid hr
          have hrp : 1 ≤ r := by omega
          have hr2 : r ≤ 200 := by omega
          clear hr
          go_wp2
          go_quiet (fail)
          generalize hW3 : World.drewN _ _ = w3
          have R3 := Lib.hid (show RowC w3 g (If.ifc d) by rw [← hW3]; exact R2.out.drewN _)
          have B3 := Lib.hid (show Below g w w3 by rw [← hW3, W.out]; exact (below_draw _ _).trans (below_draw _ _))
          clear hW3 R2 g1 g2 g3 g4 g5 k1 k2 k3 k4 k5
          go_wp2_with fail
          go_loopw [3, 5] (fun u i wr => ∃ (kk k2 : Nat) (e : List If.I), kk + 1 ≤ k + k2 ∧ 1 ≤ k2 ∧ k2 ≤ r ∧ k ≤ kk ∧ u = .int .i64 kk ∧ i = .int .i64 k2 ∧ Hid (e.length = n ∧ RowC wr g (If.ifc e)) ∧ Hid (∀ j, k + k2 - 1 ≤ j → e[j]? = d[j]?) ∧ Hid (∃ hh : k + k2 - 1 < d.length, If.dd d = e.take kk ++ If.dd2 (d[k + k2 - 1]'hh) (d.drop (k + k2))) ∧ Hid (Below g w wr)) (fun _ i _ => r - (intOf i).toNat)
          case atStart => exact ⟨k, 1, d, Nat.le_refl _, Nat.le_refl _, hrp, Nat.le_refl _, rfl, rfl, Lib.hid ⟨HN.out, R3.out⟩, Lib.hid (fun _ _ => rfl), Lib.hid ⟨by omega, D2.out⟩, B3⟩
          case round =>
            rename World => w4
            obtain ⟨kk, k2, e, q1, q2, q3, q4, rfl, rfl, RE, EQ, DD, B⟩ := hrel
            by_cases hlt2 : k2 < r
            · have hkd : k + k2 < d.length := by have := HRr.out; rw [HN.out]; omega
              have hke : k + k2 < e.length := by have := HRr.out; rw [RE.out.1]; omega
              obtain ⟨t2, ht2⟩ : ∃ t2, k2 - 1 = t2 := ⟨_, rfl⟩
              have e1 : e[k + k2]'hke = d[k + k2]'hkd := by
                have := EQ.out (k + k2) (by omega)
                rw [List.getElem?_eq_getElem hke, List.getElem?_eq_getElem hkd] at this
                exact Option.some.inj this
              have hke' : k + t2 < e.length := by omega
              have hkd' : k + t2 < d.length := by omega
              have e2 : e[k + t2]'hke' = d[k + t2]'hkd' := by
                have := EQ.out (k + t2) (by omega)
                rw [List.getElem?_eq_getElem hke', List.getElem?_eq_getElem hkd'] at this
                exact Option.some.inj this
              obtain ⟨g1, g2, g3, g4, g5⟩ := RE.out.2.get2 AD.out A2.out k2 hke
              obtain ⟨k1, k2', k3, k4, k5⟩ := RE.out.2.get2 AD.out A2.out t2 hke'
              rw [e1] at g1 g2 g3 g4 g5
              rw [e2] at k1 k2' k3 k4 k5
              have j1 : (k2 : Int) < r := by omega
              have j2 : decide (k2 < r) = true := decide_eq_true (by omega)
              have j3 : (k2 : Int) - 1 = (t2 : Int) := by omega
              have j4 : (t2 : Int) < r := by omega
              have j5 : decide (t2 < r) = true := decide_eq_true (by omega)
              have hkn : kk < n := by have := HRr.out; omega
              have DN := Lib.hid (show ∃ hh : k + k2 < d.length, If.dd d = e.take kk ++ (if d[k + k2]'hkd = d[k + t2]'hkd' then If.dd2 (d[k + k2]'hkd) (d.drop (k + k2 + 1)) else d[k + k2]'hkd :: If.dd2 (d[k + k2]'hkd) (d.drop (k + k2 + 1))) from by
                obtain ⟨hh, a⟩ := DD.out
                refine ⟨hkd, ?_⟩
                rw [a, List.drop_eq_getElem_cons hkd, If.dd2]
                have e3 : k + k2 - 1 = k + t2 := by omega
                simp only [e3])
              have TQ := Lib.hid (And.intro q1 (And.intro q2 (And.intro q3 q4)))
              clear q1 q2 q3 q4 ht2 DD e1 e2
              have DK := Lib.hid (show d[k + k2]? = some (d[k + k2]'hkd) from List.getElem?_eq_getElem hkd)
              rcases if_cmp (d[k + k2]'hkd) (d[k + t2]'hkd') with hxy | hxy
              · have DM := Lib.hid (show ∃ hh : k + (k2 + 1) - 1 < d.length, If.dd d = e.take kk ++ If.dd2 (d[k + (k2 + 1) - 1]'hh) (d.drop (k + (k2 + 1))) from by
                  obtain ⟨hh, a⟩ := DN.out
                  refine ⟨hkd, ?_⟩
                  rw [if_pos hxy] at a
                  exact a)
                rw [hxy] at g1 g2 g3 g4 g5
                clear hxy DN DK
                generalize d[k + t2]'hkd' = q at *
                obtain ⟨y0, y1, y2, y3, y4⟩ := q
                dsimp only at g1 g2 g3 g4 g5 k1 k2' k3 k4 k5
                go_wp2
                go_quiet (fail)
                go_wp2
                go_roundw
                case rel =>
                  obtain ⟨q1, q2, q3, q4⟩ := TQ.out
                  exact ⟨kk, k2 + 1, e, by omega, by omega, by omega, q4, rfl, by go_num, Lib.hid ⟨RE.out.1, RE.out.2.drewN _⟩, Lib.hid (fun j hj => EQ.out j (by omega)), DM, Lib.hid (B.out.trans (below_draw _ _))⟩
                case measure => simp [intOf]; omega
              · have DM := Lib.hid (show ∃ hh : k + (k2 + 1) - 1 < d.length, If.dd d = (e.set kk (d[k + k2]'hkd)).take (kk + 1) ++ If.dd2 (d[k + (k2 + 1) - 1]'hh) (d.drop (k + (k2 + 1))) from by
                  obtain ⟨hh, a⟩ := DN.out
                  refine ⟨hkd, ?_⟩
                  rw [if_neg hxy.1] at a
                  have hke2 : kk < e.length := by rw [RE.out.1]; exact hkn
                  rw [List.take_succ_eq_append_getElem (by rw [List.length_set]; exact hke2), List.take_set_of_le (Nat.le_refl _), List.getElem_set_self, List.append_assoc]
                  exact a)
                have hxy2 := hxy.2
                clear hxy DN
                have hke2 : kk < e.length := by rw [RE.out.1]; exact hkn
                have m1 : (kk : Int) < n := by omega
                have m2 : decide (kk < n) = true := decide_eq_true hkn
                have hr2' : (kk : Int) ≤ 200 := by omega
                generalize d[k + k2]'hkd = p at *
                generalize d[k + t2]'hkd' = q at *
                obtain ⟨x0, x1, x2, x3, x4⟩ := p
                obtain ⟨y0, y1, y2, y3, y4⟩ := q
                dsimp only at g1 g2 g3 g4 g5 k1 k2' k3 k4 k5 hxy2
                rcases hxy2 with z | ⟨rfl, z⟩ | ⟨rfl, rfl, z⟩ | ⟨rfl, rfl, rfl, z⟩ | ⟨rfl, rfl, rfl, rfl, z1, z⟩
                all_goals
                  go_wp2
                  go_quiet (fail)
                  generalize hW5 : World.drewN w4 _ = w5
                  have g1' : w5.cell? (ad2.add (k2 * 5)) = some (.int .i64 x0) := by rw [← hW5]; exact g1
                  have g2' : w5.cell? ⟨(ad2.add (k2 * 5)).block, (ad2.add (k2 * 5)).off + 1, none⟩ = some (.int .i64 x1) := by rw [← hW5]; exact g2
                  have g3' : w5.cell? ⟨(ad2.add (k2 * 5)).block, (ad2.add (k2 * 5)).off + 2, none⟩ = some (.int .i64 x2) := by rw [← hW5]; exact g3
                  have g4' : w5.cell? ⟨(ad2.add (k2 * 5)).block, (ad2.add (k2 * 5)).off + 3, none⟩ = some (.int .i64 x3) := by rw [← hW5]; exact g4
                  have g5' : w5.cell? ⟨(ad2.add (k2 * 5)).block, (ad2.add (k2 * 5)).off + 4, none⟩ = some (.string x4) := by rw [← hW5]; exact g5
                  have R5 := Lib.hid (show RowC w5 g (If.ifc e) by rw [← hW5]; exact RE.out.2.drewN _)
                  have B5 := Lib.hid (show Below g w w5 by rw [← hW5]; exact B.out.trans (below_draw _ _))
                  clear hW5 g1 g2 g3 g4 g5 k1 k2' k3 k4 k5
                  obtain ⟨o1, o2, o3, o4, o5⟩ := R5.out.get AD.out kk hke2
                  obtain ⟨f1, f2, f3, f4, f5⟩ := R5.out.frz AD.out kk hke2
                  obtain ⟨s1, s2, s3, s4, s5, s6, s7, s8⟩ := R5.out.ahead AD.out kk hke2 (x0, x1, x2, x3, x4)
                  dsimp only at s1 s2 s3 s4 s5 s6 s7 s8
                  go_wp2
                  go_roundw
                  case rel =>
                    obtain ⟨q1, q2, q3, q4⟩ := TQ.out
                    refine ⟨kk + 1, k2 + 1, e.set kk (x0, x1, x2, x3, x4), by omega, by omega, by omega, by omega, by go_num, by go_num, Lib.hid ⟨by rw [List.length_set]; exact RE.out.1, ?_⟩, Lib.hid (fun j hj => by rw [List.getElem?_set_ne (by omega)]; exact EQ.out j (by omega)), DM, Lib.hid ?_⟩
                    · rw [AD.out, add_off]
                      exact R5.out.set5 kk hke2 (x0, x1, x2, x3, x4)
                    · rw [AD.out, add_off]
                      exact B5.out.trans (below_grownC R5.out.1 (set5_grown _ _ _ (x0, x1, x2, x3, x4)))
                  case measure => simp [intOf]; omega
            · have hke2 : kk < e.length := by have := HRr.out; rw [RE.out.1]; omega
              have hkn : kk ≤ n := by have := HRr.out; omega
              have hrk : k2 = r := by omega
              have hcl : ∀ ty, (Builtin.clear_ #[46] ty #[.slice (some (ad.add (kk * 5))) (n - kk) (cap - kk)]).run Try.prog w4 = .ok (.tuple #[]) (w4.setCells g (kk * 5) (If.zs (n - kk))) := fun ty => by
                have := clear_inf RE.out.2 kk (cap - kk) hke2 ty
                rw [RE.out.1] at this
                rw [AD.out, add_off]
                exact this
              have hsl2 : ∀ W, (Instr.slice 46 (.slice (some ad) n cap) (some (.int .i64 kk)) none none).run Try.prog W = .ok (.slice (some (ad.add (kk * 5))) (n - kk) (cap - kk)) W := by
                intro W
                rw [run_slice_l (P := Try.prog) (w := W) 46 (some ad) n cap (by kernel_rfl) .i64 kk (by omega) (by omega)]
                have e2 : (sizeOf (Try.prog.elem 46)).run Try.prog W = .ok 5 W := by kernel_rfl
                rw [e2]
                have hck : ¬ cap = kk := by have := HC.out; have := HRr.out; omega
                simp only [Result.andThen, sliced, Int.toNat_natCast, if_neg hck, Option.map_some]
              have DF := Lib.hid (show If.dd d = e.take kk from by
                obtain ⟨hh, a⟩ := DD.out
                rw [a, List.drop_of_length_le (by have := HRr.out; have := HN.out; omega)]
                simp [If.dd2])
              have IV := Lib.hid (show InV (w4.setCells g (kk * 5) (If.zs (n - kk))) (.slice (some ad) kk cap) (e.take kk) by rw [AD.out]; exact RE.out.2.cleared hke2 _ _)
              have BB := Lib.hid (show Below g w (w4.setCells g (kk * 5) (If.zs (n - kk))) from B.out.trans (below_grownC RE.out.2.1 (setCells_grown _ _ _ _)))
              have kc : (kk : Int) ≤ cap := by have := HC.out; omega
              have LL := Lib.hid (show (e.take kk).length = kk by rw [List.length_take]; omega)
              clear hrk hke2 EQ DD
              generalize w4.setCells g (kk * 5) (If.zs (n - kk)) = w6 at *
              go_wp2
              go_ret
              exact ⟨some ad, cap, by rw [DF.out, LL.out]; rfl, by rw [DF.out, LL.out]; exact IV.out, BB.out⟩
        · have NK := Lib.hid (NJ.out hxy.1)
          have hxy2 := hxy.2
          clear hxy NJ DE
          generalize d[k] = p at *
          generalize d[j] = q at *
          obtain ⟨x0, x1, x2, x3, x4⟩ := p
          obtain ⟨y0, y1, y2, y3, y4⟩ := q
          dsimp only at g1 g2 g3 g4 g5 k1 k2 k3 k4 k5 hxy2
          rcases hxy2 with z | ⟨rfl, z⟩ | ⟨rfl, rfl, z⟩ | ⟨rfl, rfl, rfl, z⟩ | ⟨rfl, rfl, rfl, rfl, z1, z⟩
          all_goals
            go_wp2
            go_quiet (fail)
            go_wp2
            go_roundw
            case rel => exact ⟨k + 1, m + nq, by omega, by omega, by go_num, NK, Lib.hid (by rw [W.out, World.drewN_drewN])⟩
            case measure => simp [intOf]; omega
      · have hkn : k = n := by omega
        have E := Lib.hid (show If.dd d = d from by
          have a := If.dd_at d k hk1 (by rw [HN.out]; omega) (fun i h1 h2 => NO.out i h1 h2 (by have := HN.out; omega))
          rw [a, List.take_of_length_le (by rw [HN.out]; omega), List.drop_of_length_le (by rw [HN.out]; omega)]
          simp [If.dd2])
        clear hkn
        go_wp2
        go_ret
        refine ⟨some ad, cap, by rw [E.out, HN.out]; rfl, ?_, by rw [W.out]; exact below_draw _ _⟩
        rw [E.out, AD.out, W.out]
        exact (H.out.drewN m).inv rfl
end Go.Proofs.Ytmnmmbeageddkaa

/- Joined: RuL. -/
import Derived.Test.YtedbohfcbfegjaaGreatDoorBe25
import Derived.Test.YtedbohfcbfegjaaGreatDoorBe27
import Derived.Test.YtedbohfcbfegjaaGreatDoorBe28
import Derived.Laws.MakeOwn
/- The answers that noontidelaw21.lives asks for: it is true. -/
set_option linter.unusedVariables false
set_option linter.unusedSimpArgs false
namespace Go.Proofs.YtedbohfcbfegjaaGreatDoor
open Go.RowKit Go.Sort

theorem Bk9.src {W : World} {b : Nat} {f0 f1 f2 f3 f4 f5 f6 f7 f8 : ByteArray} (h : Bk9 W b (.string f0) (.string f1) (.string f2) (.string f3) (.string f4) (.string f5) (.string f6) (.string f7) (.string f8)) (j : Nat) (u : Value) (hj : ([f0, f1, f2, f3, f4, f5, f6, f7, f8].map Value.string)[j]? = some u) : W.cell? ((⟨b, 0, none⟩ : Addr).add j) = some u := by
  rw [show (⟨b, 0, none⟩ : Addr).add j = ⟨b, j, none⟩ by simp [Addr.add]; exact fun h => h.symm]
  match j, hj with
  | 0, hj => simp at hj; subst hj; exact h.k0
  | 1, hj => simp at hj; subst hj; exact h.k1
  | 2, hj => simp at hj; subst hj; exact h.k2
  | 3, hj => simp at hj; subst hj; exact h.k3
  | 4, hj => simp at hj; subst hj; exact h.k4
  | 5, hj => simp at hj; subst hj; exact h.k5
  | 6, hj => simp at hj; subst hj; exact h.k6
  | 7, hj => simp at hj; subst hj; exact h.k7
  | 8, hj => simp at hj; subst hj; exact h.k8
  | n + 9, hj => simp at hj
theorem Bk9.sts {W : World} {b : Nat} {f0 f1 f2 f3 f4 f5 f6 f7 f8 : ByteArray} (h : Bk9 W b (.string f0) (.string f1) (.string f2) (.string f3) (.string f4) (.string f5) (.string f6) (.string f7) (.string f8)) (c : Nat) : StS W (.slice (some ⟨b, 0, none⟩) 9 c) [f0, f1, f2, f3, f4, f5, f6, f7, f8] :=
  ⟨_, c, rfl, fun _ => ⟨_, rfl, h.hb, fun j u hj => h.src j u hj⟩⟩
theorem Bk9.sts8 {W : World} {b : Nat} {f0 f1 f2 f3 f4 f5 f6 f7 f8 : ByteArray} (h : Bk9 W b (.string f0) (.string f1) (.string f2) (.string f3) (.string f4) (.string f5) (.string f6) (.string f7) (.string f8)) (c : Nat) : StS W (.slice (some ⟨b, 0, none⟩) 8 c) [f0, f1, f2, f3, f4, f5, f6, f7] :=
  ⟨_, c, rfl, fun _ => ⟨_, rfl, h.hb, fun j u hj => h.src j u (by
    match j, hj with
    | 0, hj => exact hj
    | 1, hj => exact hj
    | 2, hj => exact hj
    | 3, hj => exact hj
    | 4, hj => exact hj
    | 5, hj => exact hj
    | 6, hj => exact hj
    | 7, hj => exact hj
    | n + 8, hj => simp at hj)⟩⟩
theorem StS.rowc (b : Nat) (W : World) (hb : b = W.heap.size) (l : List ByteArray) (t : TypeId) (c : Nat) : StS (W.alloc (.cells (l.map Value.string).toArray t)) (.slice (some ⟨b, 0, none⟩) l.length c) l := by subst hb; exact StS.nine W l t c
theorem ruread_at (l : List ByteArray) (s t : ByteArray) (fy ty m k wk d sec base save q : Int) (h : (Ru.rd l).1.s = s ∧ (Ru.rd l).1.t = t ∧ (Ru.rd l).1.fy = fy ∧ (Ru.rd l).1.ty = ty ∧ (Ru.rd l).1.m = m ∧ (Ru.rd l).1.k = k ∧ (Ru.rd l).1.wk = wk ∧ (Ru.rd l).1.d = d ∧ (Ru.rd l).1.sec = sec ∧ (Ru.rd l).1.base = base ∧ (Ru.rd l).1.save = save ∧ (Ru.rd l).2 = q) (hl : l.length ≤ 1000) (hz : ∀ y ∈ l, y.size ≤ 600) (v : Value) (W : World) (S : StS W v l) (tp : TypeId) (pp : Value) (y : Int) (L : Ru.Lv W tp pp y) :
    Calls Tryz.prog 8 #[v] W fun e w' => e = .returned (.tuple #[.agg #[.string s, .int .i64 fy, .int .i64 ty, .int .i64 m, .int .i64 k, .int .i64 wk, .int .i64 d, .int .i64 sec, .int .i64 base, .int .i64 save, .string t], .int .i64 q]) ∧ Below W.heap.size W w' := by
  obtain ⟨rfl, rfl, rfl, rfl, rfl, rfl, rfl, rfl, rfl, rfl, rfl, rfl⟩ := h
  exact ruRead_any v l W S (by omega) hz tp pp y L
theorem rufields_at (r : Ru.R) (l : List ByteArray) (q : Int) (h : Ru.fl r = (l.map (·.data.toList), q)) (hs : r.s.size ≤ 600) (ht : r.t.size ≤ 600) (W : World) (tp : TypeId) (pp : Value) (y : Int) (L : Ru.Lv W tp pp y) :
    Calls Tryz.prog 10 #[r.v] W fun e w' => ∃ v, StS w' v l ∧ e = .returned (.tuple #[v, .int .i64 q]) ∧ Below W.heap.size W w' :=
  (rufields_any r.s r.t r.fy r.ty r.m r.k r.wk r.d r.sec r.base r.save W (by unfold maxLen; omega) (by omega) tp pp y L).mono fun e w' ⟨v, l2, S, hl, he, hb⟩ => by
    have h' : Ru.fl ⟨r.s, r.fy, r.ty, r.m, r.k, r.wk, r.d, r.sec, r.base, r.save, r.t⟩ = (l.map (·.data.toList), q) := h
    rw [h'] at hl he
    exact ⟨v, by rw [← fd_bytes hl]; exact S, he, hb⟩
theorem name_at (s : ByteArray) (q : Int) (h : Lk.nm s.data.toList = q) (hs : s.size ≤ 600) (W : World) : Calls Tryz.prog 15 #[.string s] W fun e w' => e = .returned (.int .i64 q) ∧ W = w' := by
  have := rname_any s W (by unfold maxLen; omega)
  rw [h] at this
  exact this
theorem nameb_at (s : ByteArray) (q : Int) (h : Lk.nm s.data.toList = q) (hs : s.size ≤ 600) (W : World) : Calls Tryz.prog 15 #[.string s] W fun e w' => e = .returned (.int .i64 q) ∧ Below W.heap.size W w' :=
  (name_at s q h hs W).mono fun _ _ ⟨a, b⟩ => ⟨a, b ▸ Below.refl _ _⟩
theorem nameb_any (s : ByteArray) (W : World) (hs : s.size ≤ 600) : Calls Tryz.prog 15 #[.string s] W fun e w' => e = .returned (.int .i64 (Lk.nm s.data.toList)) ∧ Below W.heap.size W w' := nameb_at s _ rfl hs W
theorem rright_at (r : Ru.R) (q : Bool) (h : r.ok = q) (hs : r.s.size ≤ 600) (ht : r.t.size ≤ 600) (W : World) : Calls Tryz.prog 13 #[r.v] W fun e w' => e = .returned (.bool q) ∧ Below W.heap.size W w' := by
  have := ruright_any r.s r.t r.fy r.ty r.m r.k r.wk r.d r.sec r.base r.save W (by unfold maxLen; omega) (by omega)
  rw [show Ru.rB r.s r.t r.fy r.ty r.m r.k r.wk r.d r.sec r.base r.save = q from h] at this
  exact this
theorem eu_any (W : World) : Calls Tryz.prog 24 #[] W fun e w' => e = .returned (.agg #[.string ⟨#[69, 85]⟩, .int .i64 1981, .int .i64 32767, .int .i64 3, .int .i64 1, .int .i64 0, .int .i64 0, .int .i64 3600, .int .i64 2, .int .i64 3600, .string ⟨#[83]⟩]) ∧ Below W.heap.size W w' := by
  go_enter Tryz.func24, Tryz.ntmps24
  go_wp2_with fail
  exact bodyPost_ret (v := .agg #[.string ⟨#[69, 85]⟩, .int .i64 1981, .int .i64 32767, .int .i64 3, .int .i64 1, .int .i64 0, .int .i64 0, .int .i64 3600, .int .i64 2, .int .i64 3600, .string ⟨#[83]⟩]) (by simp [results, Tryz.results24, go_sem]) rfl ⟨rfl, by repeat (first | exact Below.refl _ _ | refine Below.setCell ?_ (by first | (simp; done) | (simp; omega) | omega) _ | refine Below.alloc ?_ (by first | (simp; done) | (simp; omega) | omega) _)⟩
set_option maxHeartbeats 4000000 in
set_option maxRecDepth 100000 in
theorem lives21 (w : World) (tp : TypeId) (pp : Value) (y : Int) (L : Ru.Lv w tp pp y) :
    Calls Tryz.prog 7 #[] w fun e w' => e = .returned (.bool true) ∧ Below w.heap.size w w' := by
  obtain ⟨i0, hi, hz0, hz1, hz2⟩ := fd_parts fd_info
  have HL := Lib.hid (fun W (b : Below w.heap.size w W) => L.on b)
  clear L
  have R1 := Lib.hid (ruread_at [⟨#[69, 85]⟩, ⟨#[49, 57, 56, 49]⟩, ⟨#[109, 97, 120]⟩, ⟨#[45]⟩, ⟨#[77, 97, 114]⟩, ⟨#[108, 97, 115, 116, 83, 117, 110]⟩, ⟨#[49, 58, 48, 48, 117]⟩, ⟨#[49, 58, 48, 48]⟩, ⟨#[83]⟩] ⟨#[69, 85]⟩ ⟨#[83]⟩ 1981 32767 3 1 0 0 3600 2 3600 0 (by decide +kernel) (by decide) (by decide +kernel))
  have R2 := Lib.hid (ruread_at [⟨#[69, 85]⟩, ⟨#[49, 57, 56, 49]⟩, ⟨#[109, 97, 120]⟩, ⟨#[45]⟩, ⟨#[77, 97, 114]⟩, ⟨#[108, 97, 115, 116, 83, 117, 110]⟩, ⟨#[49, 58, 48, 48, 117]⟩, ⟨#[49, 58, 48, 48]⟩] ⟨#[]⟩ ⟨#[]⟩ 0 0 0 0 0 0 0 0 0 5 (by decide +kernel) (by decide) (by decide +kernel))
  have R3 := Lib.hid (ruread_at [⟨#[69, 85]⟩, ⟨#[49, 57, 56, 49]⟩, ⟨#[109, 97, 120]⟩, ⟨#[45]⟩, ⟨#[77, 97, 114]⟩, ⟨#[108, 97, 115, 116, 83, 117, 110]⟩, ⟨#[49, 58, 48, 48, 117]⟩, ⟨#[49, 58, 48, 48]⟩, ⟨#[83]⟩, ⟨#[120]⟩] ⟨#[]⟩ ⟨#[]⟩ 0 0 0 0 0 0 0 0 0 6 (by decide +kernel) (by decide) (by decide +kernel))
  have R4 := Lib.hid (ruread_at [⟨#[49]⟩, ⟨#[120]⟩, ⟨#[109, 97, 120]⟩, ⟨#[45]⟩, ⟨#[77, 97, 114]⟩, ⟨#[108, 97, 115, 116, 83, 117, 110]⟩, ⟨#[49, 58, 48, 48, 117]⟩, ⟨#[49, 58, 48, 48]⟩, ⟨#[83]⟩] ⟨#[]⟩ ⟨#[]⟩ 0 0 0 0 0 0 0 0 0 10 (by decide +kernel) (by decide) (by decide +kernel))
  have R5 := Lib.hid (ruread_at [⟨#[69, 85]⟩, ⟨#[49, 57, 56, 49]⟩, ⟨#[109, 97, 120]⟩, ⟨#[120]⟩, ⟨#[120]⟩, ⟨#[108, 97, 115, 116, 83, 117, 110]⟩, ⟨#[49, 58, 48, 48, 117]⟩, ⟨#[49, 58, 48, 48]⟩, ⟨#[83]⟩] ⟨#[]⟩ ⟨#[]⟩ 0 0 0 0 0 0 0 0 0 3 (by decide +kernel) (by decide) (by decide +kernel))
  have R6 := Lib.hid (ruread_at [⟨#[69, 85]⟩, ⟨#[49, 57, 56, 49]⟩, ⟨#[109, 97, 120]⟩, ⟨#[45]⟩, ⟨#[70, 101, 98]⟩, ⟨#[50, 57]⟩, ⟨#[49, 58, 48, 48, 117]⟩, ⟨#[49, 58, 48, 48]⟩, ⟨#[83]⟩] ⟨#[]⟩ ⟨#[]⟩ 0 0 0 0 0 0 0 0 0 1 (by decide +kernel) (by decide) (by decide +kernel))
  have R7 := Lib.hid (ruread_at [⟨#[69, 85]⟩, ⟨#[49, 57, 56, 49]⟩, ⟨#[109, 97, 120]⟩, ⟨#[45]⟩, ⟨#[70, 101, 98]⟩, ⟨#[50, 56]⟩, ⟨#[49, 58, 48, 48, 117]⟩, ⟨#[52, 58, 48, 48]⟩, ⟨#[83]⟩] ⟨#[]⟩ ⟨#[]⟩ 0 0 0 0 0 0 0 0 0 1 (by decide +kernel) (by decide) (by decide +kernel))
  have G1 := Lib.hid (rufields_at (⟨⟨#[69, 85]⟩, 1981, 32767, 3, 1, 0, 0, 3600, 2, 3600, ⟨#[83]⟩⟩ : Ru.R) [⟨#[69, 85]⟩, ⟨#[49, 57, 56, 49]⟩, ⟨#[109, 97, 120]⟩, ⟨#[45]⟩, ⟨#[77, 97, 114]⟩, ⟨#[108, 97, 115, 116, 83, 117, 110]⟩, ⟨#[49, 58, 48, 48, 117]⟩, ⟨#[49, 58, 48, 48]⟩, ⟨#[83]⟩] 0 (by decide +kernel) (by decide) (by decide))
  have G2 := Lib.hid (rufields_at (⟨⟨#[]⟩, 0, 0, 0, 0, 0, 0, 0, 0, 0, ⟨#[]⟩⟩ : Ru.R) [] 4 (by decide +kernel) (by decide) (by decide))
  dsimp only [Ru.R.v] at G1 G2
  have RX := Lib.hid (fun (s t : ByteArray) (fy ty m k wk d sec base save : Int) W (h1 : s.size ≤ 600) (h2 : t.size ≤ 600) => ruright_any s t fy ty m k wk d sec base save W (by unfold maxLen; omega) (by omega))
  have NX := Lib.hid nameb_any
  have rb1 : Ru.rB ⟨#[69, 85]⟩ ⟨#[83]⟩ 1981 32767 3 1 0 0 3600 2 3600 = true := by decide +kernel
  have rb2 : Ru.rB ⟨#[]⟩ ⟨#[]⟩ 0 0 0 0 0 0 0 0 0 = false := by decide +kernel
  have nm1 : Lk.nm [69, 116, 99, 47, 71, 77, 84, 43, 49, 46, 120, 95] = 0 := by decide +kernel
  have nm2 : Lk.nm [] = 10 := by decide +kernel
  have nm3 : Lk.nm [45, 97] = 10 := by decide +kernel
  have nm4 : Lk.nm [97, 32, 98] = 10 := by decide +kernel
  obtain ⟨i8, hi8, hz80, hz81, hz82⟩ := fd_parts (show (Tryz.prog.info? 5).map (fun i => (i.zero, i.size, i.bytes)) = some (some (.int .u8 0), 1, 1) by kernel_rfl)
  obtain ⟨C, hC⟩ : ∃ C, C = madeCells #[.int .u8 0] 65 := ⟨_, rfl⟩
  have MK : ∀ W, Sem.run Tryz.prog (Instr.makeSlice 50 (.int .i64 65) (.int .i64 65)) W = .ok (.slice (some ⟨W.heap.size, 0, none⟩) 65 65) (W.alloc (.cells C 5)) := fun W => by
    have := run_make (P := Tryz.prog) W 50 5 i8 (.int .u8 0) Tryz.underlying50 hi8 hz80 .i64 .i64 65 65 (by decide) (by decide) (by rw [hz82]; decide) (by decide)
    rw [hz81] at this
    rw [hC]
    exact this
  obtain ⟨LG, hLG⟩ : ∃ LG : ByteArray, LG = ⟨(List.replicate 65 (0 : UInt8)).toArray⟩ := ⟨_, rfl⟩
  have CV : ∀ W : World, Sem.run Tryz.prog (convert 50 9 (.slice (some ⟨W.heap.size, 0, none⟩) 65 65)) (W.alloc (.cells C 5)) = .ok (.string LG) (W.alloc (.cells C 5)) := fun W => by
    have := run_convert_bytes_back (P := Tryz.prog) (W.alloc (.cells C 5)) 50 9 5 ⟨W.heap.size, 0, none⟩ 65 (List.replicate 65 (0 : UInt8)) Tryz.underlying50 Tryz.underlying5 Tryz.underlying9 (fun j hj => by
      rw [show (⟨W.heap.size, 0, none⟩ : Addr).add j = ⟨W.heap.size, j, none⟩ by simp [Addr.add]; exact fun h => h.symm]
      rw [Lib.cell_of_heap (heap_alloc_new W _), hC]
      have hj' : j < 65 := by rwa [List.length_replicate] at hj
      rw [show (List.replicate 65 (0 : UInt8))[j] = 0 from List.getElem_replicate ..]
      unfold madeCells
      simp only [Array.getElem?_map, Array.getElem?_range, hj', if_true, Option.map_some]
      simp [Nat.mod_one])
    rw [List.length_replicate, ← hLG] at this
    exact this
  have N5 := Lib.hid (name_at LG 9 (by rw [hLG]; decide +kernel) (by rw [hLG]; decide +kernel))
  clear hC hLG
  go_enter Tryz.func7, Tryz.ntmps7
  go_wp2_with fail
  refine (R1.out _ _ (StS.nine w [⟨#[69, 85]⟩, ⟨#[49, 57, 56, 49]⟩, ⟨#[109, 97, 120]⟩, ⟨#[45]⟩, ⟨#[77, 97, 114]⟩, ⟨#[108, 97, 115, 116, 83, 117, 110]⟩, ⟨#[49, 58, 48, 48, 117]⟩, ⟨#[49, 58, 48, 48]⟩, ⟨#[83]⟩] _ _) tp pp y (HL.out _ (by repeat (first | exact Below.refl _ _ | refine below_drewN ?_ _ | refine Below.drew ?_ | refine Below.setCell ?_ (by first | (simp; done) | (simp; omega) | omega) _ | refine Below.alloc ?_ (by first | (simp; done) | (simp; omega) | omega) _)))).mono ?_; rintro e w1 ⟨rfl, b1⟩
  have d1 : Below w.heap.size w w1 := below_step (by repeat (first | exact Below.refl _ _ | refine below_drewN ?_ _ | refine Below.drew ?_ | refine Below.setCell ?_ (by first | (simp; done) | (simp; omega) | omega) _ | refine Below.alloc ?_ (by first | (simp; done) | (simp; omega) | omega) _)) b1
  have B1 := Lib.hid d1
  have F1 : Bk9 w1 (w.heap.size) (.string ⟨#[69, 85]⟩) (.string ⟨#[49, 57, 56, 49]⟩) (.string ⟨#[109, 97, 120]⟩) (.string ⟨#[45]⟩) (.string ⟨#[77, 97, 114]⟩) (.string ⟨#[108, 97, 115, 116, 83, 117, 110]⟩) (.string ⟨#[49, 58, 48, 48, 117]⟩) (.string ⟨#[49, 58, 48, 48]⟩) (.string ⟨#[83]⟩) := Bk9.of b1 (by simp <;> omega) (by intro j; simp [go_sem]) (by simp [go_sem]) (by simp [go_sem]) (by simp [go_sem]) (by simp [go_sem]) (by simp [go_sem]) (by simp [go_sem]) (by simp [go_sem]) (by simp [go_sem]) (by simp [go_sem])
  clear b1 d1
  have cF_b := F1.hb
  have cF_f := F1.fz
  have cF_0 := F1.k0
  have cF_1 := F1.k1
  have cF_2 := F1.k2
  have cF_3 := F1.k3
  have cF_4 := F1.k4
  have cF_5 := F1.k5
  have cF_6 := F1.k6
  have cF_7 := F1.k7
  have cF_8 := F1.k8
  go_wp2_with fail
  clear cF_b cF_f cF_0 cF_1 cF_2 cF_3 cF_4 cF_5 cF_6 cF_7 cF_8
  refine (eu_any _).mono ?_; rintro e w2 ⟨rfl, b2⟩
  have d2 : Below w1.heap.size w1 w2 := below_step (by repeat (first | exact Below.refl _ _ | refine below_drewN ?_ _ | refine Below.drew ?_ | refine Below.setCell ?_ (by first | (simp; done) | (simp; omega) | omega) _ | refine Below.alloc ?_ (by first | (simp; done) | (simp; omega) | omega) _)) b2
  have B2 := Lib.hid (below_step B1.out d2)
  have F2 := F1.keep d2
  have aA := B1.out.size
  have nAF := Nat.ne_of_lt F1.hb
  have oAF := Nat.ne_of_gt F1.hb
  have A2 : Bk11 w2 (w1.heap.size) (.string ⟨#[69, 85]⟩) (.int .i64 1981) (.int .i64 32767) (.int .i64 3) (.int .i64 1) (.int .i64 0) (.int .i64 0) (.int .i64 3600) (.int .i64 2) (.int .i64 3600) (.string ⟨#[83]⟩) := Bk11.of b2 (by simp <;> omega) (by intro j; simp [go_sem]) (by simp [go_sem]) (by simp [go_sem]) (by simp [go_sem]) (by simp [go_sem]) (by simp [go_sem]) (by simp [go_sem]) (by simp [go_sem]) (by simp [go_sem]) (by simp [go_sem]) (by simp [go_sem]) (by simp [go_sem])
  clear F1 b2 d2 B1
  have cF_b := F2.hb
  have cF_f := F2.fz
  have cF_0 := F2.k0
  have cF_1 := F2.k1
  have cF_2 := F2.k2
  have cF_3 := F2.k3
  have cF_4 := F2.k4
  have cF_5 := F2.k5
  have cF_6 := F2.k6
  have cF_7 := F2.k7
  have cF_8 := F2.k8
  have cA_b := A2.hb
  have cA_f := A2.fz
  have cA_0 := A2.k0
  have cA_1 := A2.k1
  have cA_2 := A2.k2
  have cA_3 := A2.k3
  have cA_4 := A2.k4
  have cA_5 := A2.k5
  have cA_6 := A2.k6
  have cA_7 := A2.k7
  have cA_8 := A2.k8
  have cA_9 := A2.k9
  have cA_10 := A2.k10
  go_wp2_with fail
  clear cF_b cF_f cF_0 cF_1 cF_2 cF_3 cF_4 cF_5 cF_6 cF_7 cF_8 cA_b cA_f cA_0 cA_1 cA_2 cA_3 cA_4 cA_5 cA_6 cA_7 cA_8 cA_9 cA_10
  refine (G1.out _ tp pp y (HL.out _ (below_step B2.out (by repeat (first | exact Below.refl _ _ | refine below_drewN ?_ _ | refine Below.drew ?_ | refine Below.setCell ?_ (by first | (simp; done) | (simp; omega) | omega) _ | refine Below.alloc ?_ (by first | (simp; done) | (simp; omega) | omega) _))))).mono ?_; rintro e w3 ⟨_, sV, rfl, b3⟩
  have SV_3 := Lib.hid sV; obtain ⟨AV, cV, rfl, -⟩ := sV
  have d3 : Below w2.heap.size w2 w3 := below_step (by repeat (first | exact Below.refl _ _ | refine below_drewN ?_ _ | refine Below.drew ?_ | refine Below.setCell ?_ (by first | (simp; done) | (simp; omega) | omega) _ | refine Below.alloc ?_ (by first | (simp; done) | (simp; omega) | omega) _)) b3
  have B3 := Lib.hid (below_step B2.out d3)
  have F3 := F2.keep d3
  have A3 := A2.keep d3
  clear F2 A2 b3 d3 B2
  have cF_b := F3.hb
  have cF_f := F3.fz
  have cF_0 := F3.k0
  have cF_1 := F3.k1
  have cF_2 := F3.k2
  have cF_3 := F3.k3
  have cF_4 := F3.k4
  have cF_5 := F3.k5
  have cF_6 := F3.k6
  have cF_7 := F3.k7
  have cF_8 := F3.k8
  have cA_b := A3.hb
  have cA_f := A3.fz
  have cA_0 := A3.k0
  have cA_1 := A3.k1
  have cA_2 := A3.k2
  have cA_3 := A3.k3
  have cA_4 := A3.k4
  have cA_5 := A3.k5
  have cA_6 := A3.k6
  have cA_7 := A3.k7
  have cA_8 := A3.k8
  have cA_9 := A3.k9
  have cA_10 := A3.k10
  go_wp2_with fail
  clear cF_b cF_f cF_0 cF_1 cF_2 cF_3 cF_4 cF_5 cF_6 cF_7 cF_8 cA_b cA_f cA_0 cA_1 cA_2 cA_3 cA_4 cA_5 cA_6 cA_7 cA_8 cA_9 cA_10
  refine (R2.out _ _ ((F3.keep (by repeat (first | exact Below.refl _ _ | refine below_drewN ?_ _ | refine Below.drew ?_ | refine Below.setCell ?_ (by first | (simp; done) | (simp; omega) | omega) _ | refine Below.alloc ?_ (by first | (simp; done) | (simp; omega) | omega) _))).sts8 _) tp pp y (HL.out _ (below_step B3.out (by repeat (first | exact Below.refl _ _ | refine below_drewN ?_ _ | refine Below.drew ?_ | refine Below.setCell ?_ (by first | (simp; done) | (simp; omega) | omega) _ | refine Below.alloc ?_ (by first | (simp; done) | (simp; omega) | omega) _))))).mono ?_; rintro e w4 ⟨rfl, b4⟩
  have d4 : Below w3.heap.size w3 w4 := below_step (by repeat (first | exact Below.refl _ _ | refine below_drewN ?_ _ | refine Below.drew ?_ | refine Below.setCell ?_ (by first | (simp; done) | (simp; omega) | omega) _ | refine Below.alloc ?_ (by first | (simp; done) | (simp; omega) | omega) _)) b4
  have B4 := Lib.hid (below_step B3.out d4)
  have SV_4 := Lib.hid (SV_3.out.on d4)
  have F4 := F3.keep d4
  have A4 := A3.keep d4
  clear SV_3 F3 A3 b4 d4 B3
  go_upto_region 5 with (fail)
  refine wp_named ?_; intro w5 hw5
  have d5 : Below w4.heap.size w4 w5 := by rw [hw5]; exact (by repeat (first | exact Below.refl _ _ | refine below_drewN ?_ _ | refine Below.drew ?_ | refine Below.setCell ?_ (by first | (simp; done) | (simp; omega) | omega) _ | refine Below.alloc ?_ (by first | (simp; done) | (simp; omega) | omega) _))
  clear hw5
  have B5 := Lib.hid (below_step B4.out d5)
  have F5 := F4.keep d5
  have A5 := A4.keep d5
  have O0 : (w5.alloc (.cells #[] 9)).ownsRow w5.heap.size 9 1 (.slice (some ⟨w5.heap.size, 0, none⟩) 0 0) 0 [] := World.ownsRow_made w5 #[] 0 (Nat.le_refl _) (by unfold maxLen; decide) rfl
  have hsrc2 := Bk9.src (F5.keep (show Below w5.heap.size w5 (w5.alloc (.cells #[] 9)) from (Below.refl _ _).alloc (Nat.le_refl _) _))
  have hz := B5.out.size
  have hone : ∀ u ∈ [⟨#[69, 85]⟩, ⟨#[49, 57, 56, 49]⟩, ⟨#[109, 97, 120]⟩, ⟨#[45]⟩, ⟨#[77, 97, 114]⟩, ⟨#[108, 97, 115, 116, 83, 117, 110]⟩, ⟨#[49, 58, 48, 48, 117]⟩, ⟨#[49, 58, 48, 48]⟩, ⟨#[83]⟩].map Value.string, u.oneCell' = true := by intro u hu; obtain ⟨z, -, rfl⟩ := List.mem_map.1 hu; rfl
  go_wp2_with (at_builtin; refine wpList_append_own _ rfl _ _ 22 rfl w5.heap.size 9 i0 (.string ⟨#[]⟩) 1 16 Tryz.underlying22 hi hz0 hz1 hz2 rfl (by decide) _ _ _ rfl O0 ⟨w.heap.size, 0, none⟩ 9 9 ([⟨#[69, 85]⟩, ⟨#[49, 57, 56, 49]⟩, ⟨#[109, 97, 120]⟩, ⟨#[45]⟩, ⟨#[77, 97, 114]⟩, ⟨#[108, 97, 115, 116, 83, 117, 110]⟩, ⟨#[49, 58, 48, 48, 117]⟩, ⟨#[49, 58, 48, 48]⟩, ⟨#[83]⟩].map Value.string) rfl rfl hsrc2 hone (by unfold maxLen; omega) (by omega) (by simp) ?_)
  intro v2 x2 own2 grow2 _
  have k2 : Below w5.heap.size w5 x2 := ((Below.refl _ _).alloc (Nat.le_refl _) _).trans (below_grown grow2 (by simp) (fun g hg => (O0.lt g hg).1))
  have hz2' := k2.size
  clear hsrc2 grow2 O0 hone
  go_wp2_with (at_builtin; refine wpList_append_own _ rfl _ _ 22 rfl w5.heap.size 9 i0 (.string ⟨#[]⟩) 1 16 Tryz.underlying22 hi hz0 hz1 hz2 rfl (by decide) _ _ _ rfl (own2.alloc _) ⟨x2.heap.size, 0, none⟩ 1 1 [.string ⟨#[120]⟩] rfl rfl (by intro j u hj; match j, hj with | 0, hj => (simp at hj; subst hj; simp [go_sem])) (by intro u hu; simp at hu; subst hu; rfl) (by unfold maxLen; omega) (by omega) (by simp; omega) ?_)
  intro v3 w6 own3 grow3 _
  have k3 : Below w5.heap.size x2 w6 := ((Below.refl _ _).alloc hz2' _).trans (below_grown grow3 (by simp; omega) (fun g hg => (own2.lt g hg).1))
  have S3 := Lib.hid (show StS w6 v3 [⟨#[69, 85]⟩, ⟨#[49, 57, 56, 49]⟩, ⟨#[109, 97, 120]⟩, ⟨#[45]⟩, ⟨#[77, 97, 114]⟩, ⟨#[108, 97, 115, 116, 83, 117, 110]⟩, ⟨#[49, 58, 48, 48, 117]⟩, ⟨#[49, 58, 48, 48]⟩, ⟨#[83]⟩, ⟨#[120]⟩] from Lst.own own3)
  have d6 : Below w5.heap.size w5 w6 := k2.trans k3
  have B6 := Lib.hid (below_step B5.out d6)
  have F6 := F5.keep d6
  have A6 := A5.keep d6
  have SV_4 := Lib.hid ((SV_4.out.on d5).on d6)
  clear k2 k3 grow3 own2 own3 hz2' hz d5 d6 F4 F5 A4 A5 B4 B5
  have cF_b := F6.hb
  have cF_f := F6.fz
  have cF_0 := F6.k0
  have cF_1 := F6.k1
  have cF_2 := F6.k2
  have cF_3 := F6.k3
  have cF_4 := F6.k4
  have cF_5 := F6.k5
  have cF_6 := F6.k6
  have cF_7 := F6.k7
  have cF_8 := F6.k8
  have cA_b := A6.hb
  have cA_f := A6.fz
  have cA_0 := A6.k0
  have cA_1 := A6.k1
  have cA_2 := A6.k2
  have cA_3 := A6.k3
  have cA_4 := A6.k4
  have cA_5 := A6.k5
  have cA_6 := A6.k6
  have cA_7 := A6.k7
  have cA_8 := A6.k8
  have cA_9 := A6.k9
  have cA_10 := A6.k10
  go_wp2_with fail
  clear cF_b cF_f cF_0 cF_1 cF_2 cF_3 cF_4 cF_5 cF_6 cF_7 cF_8 cA_b cA_f cA_0 cA_1 cA_2 cA_3 cA_4 cA_5 cA_6 cA_7 cA_8 cA_9 cA_10
  refine (R3.out _ _ S3.out tp pp y (HL.out _ (below_step B6.out (by repeat (first | exact Below.refl _ _ | refine below_drewN ?_ _ | refine Below.drew ?_ | refine Below.setCell ?_ (by first | (simp; done) | (simp; omega) | omega) _ | refine Below.alloc ?_ (by first | (simp; done) | (simp; omega) | omega) _))))).mono ?_; rintro e w7 ⟨rfl, b7⟩
  have d7 : Below w6.heap.size w6 w7 := below_step (by repeat (first | exact Below.refl _ _ | refine below_drewN ?_ _ | refine Below.drew ?_ | refine Below.setCell ?_ (by first | (simp; done) | (simp; omega) | omega) _ | refine Below.alloc ?_ (by first | (simp; done) | (simp; omega) | omega) _)) b7
  have B7 := Lib.hid (below_step B6.out d7)
  have SV_7 := Lib.hid (SV_4.out.on d7)
  have F7 := F6.keep d7
  have A7 := A6.keep d7
  clear SV_4 F6 A6 b7 d7 B6
  have cF_b := F7.hb
  have cF_f := F7.fz
  have cF_0 := F7.k0
  have cF_1 := F7.k1
  have cF_2 := F7.k2
  have cF_3 := F7.k3
  have cF_4 := F7.k4
  have cF_5 := F7.k5
  have cF_6 := F7.k6
  have cF_7 := F7.k7
  have cF_8 := F7.k8
  have cA_b := A7.hb
  have cA_f := A7.fz
  have cA_0 := A7.k0
  have cA_1 := A7.k1
  have cA_2 := A7.k2
  have cA_3 := A7.k3
  have cA_4 := A7.k4
  have cA_5 := A7.k5
  have cA_6 := A7.k6
  have cA_7 := A7.k7
  have cA_8 := A7.k8
  have cA_9 := A7.k9
  have cA_10 := A7.k10
  go_wp2_with fail
  clear cF_b cF_f cF_0 cF_1 cF_2 cF_3 cF_4 cF_5 cF_6 cF_7 cF_8 cA_b cA_f cA_0 cA_1 cA_2 cA_3 cA_4 cA_5 cA_6 cA_7 cA_8 cA_9 cA_10
  refine (R4.out (.slice (some ⟨w7.heap.size + 1, 0, none⟩) 9 9) _ (StS.rowc (w7.heap.size + 1) (w7.alloc (.cells _ 28)) (by simp) [⟨#[49]⟩, ⟨#[120]⟩, ⟨#[109, 97, 120]⟩, ⟨#[45]⟩, ⟨#[77, 97, 114]⟩, ⟨#[108, 97, 115, 116, 83, 117, 110]⟩, ⟨#[49, 58, 48, 48, 117]⟩, ⟨#[49, 58, 48, 48]⟩, ⟨#[83]⟩] 9 9) tp pp y (HL.out _ (below_step B7.out (by repeat (first | exact Below.refl _ _ | refine below_drewN ?_ _ | refine Below.drew ?_ | refine Below.setCell ?_ (by first | (simp; done) | (simp; omega) | omega) _ | refine Below.alloc ?_ (by first | (simp; done) | (simp; omega) | omega) _))))).mono ?_; rintro e w8 ⟨rfl, b8⟩
  have d8 : Below w7.heap.size w7 w8 := below_step (by repeat (first | exact Below.refl _ _ | refine below_drewN ?_ _ | refine Below.drew ?_ | refine Below.setCell ?_ (by first | (simp; done) | (simp; omega) | omega) _ | refine Below.alloc ?_ (by first | (simp; done) | (simp; omega) | omega) _)) b8
  have B8 := Lib.hid (below_step B7.out d8)
  have SV_8 := Lib.hid (SV_7.out.on d8)
  have F8 := F7.keep d8
  have A8 := A7.keep d8
  clear SV_7 F7 A7 b8 d8 B7
  have cF_b := F8.hb
  have cF_f := F8.fz
  have cF_0 := F8.k0
  have cF_1 := F8.k1
  have cF_2 := F8.k2
  have cF_3 := F8.k3
  have cF_4 := F8.k4
  have cF_5 := F8.k5
  have cF_6 := F8.k6
  have cF_7 := F8.k7
  have cF_8 := F8.k8
  have cA_b := A8.hb
  have cA_f := A8.fz
  have cA_0 := A8.k0
  have cA_1 := A8.k1
  have cA_2 := A8.k2
  have cA_3 := A8.k3
  have cA_4 := A8.k4
  have cA_5 := A8.k5
  have cA_6 := A8.k6
  have cA_7 := A8.k7
  have cA_8 := A8.k8
  have cA_9 := A8.k9
  have cA_10 := A8.k10
  go_wp2_with fail
  clear cF_b cF_f cF_0 cF_1 cF_2 cF_3 cF_4 cF_5 cF_6 cF_7 cF_8 cA_b cA_f cA_0 cA_1 cA_2 cA_3 cA_4 cA_5 cA_6 cA_7 cA_8 cA_9 cA_10
  refine (R5.out (.slice (some ⟨w8.heap.size + 1, 0, none⟩) 9 9) _ (StS.rowc (w8.heap.size + 1) (w8.alloc (.cells _ 28)) (by simp) [⟨#[69, 85]⟩, ⟨#[49, 57, 56, 49]⟩, ⟨#[109, 97, 120]⟩, ⟨#[120]⟩, ⟨#[120]⟩, ⟨#[108, 97, 115, 116, 83, 117, 110]⟩, ⟨#[49, 58, 48, 48, 117]⟩, ⟨#[49, 58, 48, 48]⟩, ⟨#[83]⟩] 9 9) tp pp y (HL.out _ (below_step B8.out (by repeat (first | exact Below.refl _ _ | refine below_drewN ?_ _ | refine Below.drew ?_ | refine Below.setCell ?_ (by first | (simp; done) | (simp; omega) | omega) _ | refine Below.alloc ?_ (by first | (simp; done) | (simp; omega) | omega) _))))).mono ?_; rintro e w9 ⟨rfl, b9⟩
  have d9 : Below w8.heap.size w8 w9 := below_step (by repeat (first | exact Below.refl _ _ | refine below_drewN ?_ _ | refine Below.drew ?_ | refine Below.setCell ?_ (by first | (simp; done) | (simp; omega) | omega) _ | refine Below.alloc ?_ (by first | (simp; done) | (simp; omega) | omega) _)) b9
  have B9 := Lib.hid (below_step B8.out d9)
  have SV_9 := Lib.hid (SV_8.out.on d9)
  have F9 := F8.keep d9
  have A9 := A8.keep d9
  clear SV_8 F8 A8 b9 d9 B8
  have cF_b := F9.hb
  have cF_f := F9.fz
  have cF_0 := F9.k0
  have cF_1 := F9.k1
  have cF_2 := F9.k2
  have cF_3 := F9.k3
  have cF_4 := F9.k4
  have cF_5 := F9.k5
  have cF_6 := F9.k6
  have cF_7 := F9.k7
  have cF_8 := F9.k8
  have cA_b := A9.hb
  have cA_f := A9.fz
  have cA_0 := A9.k0
  have cA_1 := A9.k1
  have cA_2 := A9.k2
  have cA_3 := A9.k3
  have cA_4 := A9.k4
  have cA_5 := A9.k5
  have cA_6 := A9.k6
  have cA_7 := A9.k7
  have cA_8 := A9.k8
  have cA_9 := A9.k9
  have cA_10 := A9.k10
  go_wp2_with fail
  clear cF_b cF_f cF_0 cF_1 cF_2 cF_3 cF_4 cF_5 cF_6 cF_7 cF_8 cA_b cA_f cA_0 cA_1 cA_2 cA_3 cA_4 cA_5 cA_6 cA_7 cA_8 cA_9 cA_10
  refine (R6.out (.slice (some ⟨w9.heap.size + 1, 0, none⟩) 9 9) _ (StS.rowc (w9.heap.size + 1) (w9.alloc (.cells _ 28)) (by simp) [⟨#[69, 85]⟩, ⟨#[49, 57, 56, 49]⟩, ⟨#[109, 97, 120]⟩, ⟨#[45]⟩, ⟨#[70, 101, 98]⟩, ⟨#[50, 57]⟩, ⟨#[49, 58, 48, 48, 117]⟩, ⟨#[49, 58, 48, 48]⟩, ⟨#[83]⟩] 9 9) tp pp y (HL.out _ (below_step B9.out (by repeat (first | exact Below.refl _ _ | refine below_drewN ?_ _ | refine Below.drew ?_ | refine Below.setCell ?_ (by first | (simp; done) | (simp; omega) | omega) _ | refine Below.alloc ?_ (by first | (simp; done) | (simp; omega) | omega) _))))).mono ?_; rintro e w10 ⟨rfl, b10⟩
  have d10 : Below w9.heap.size w9 w10 := below_step (by repeat (first | exact Below.refl _ _ | refine below_drewN ?_ _ | refine Below.drew ?_ | refine Below.setCell ?_ (by first | (simp; done) | (simp; omega) | omega) _ | refine Below.alloc ?_ (by first | (simp; done) | (simp; omega) | omega) _)) b10
  have B10 := Lib.hid (below_step B9.out d10)
  have SV_10 := Lib.hid (SV_9.out.on d10)
  have F10 := F9.keep d10
  have A10 := A9.keep d10
  clear SV_9 F9 A9 b10 d10 B9
  have cF_b := F10.hb
  have cF_f := F10.fz
  have cF_0 := F10.k0
  have cF_1 := F10.k1
  have cF_2 := F10.k2
  have cF_3 := F10.k3
  have cF_4 := F10.k4
  have cF_5 := F10.k5
  have cF_6 := F10.k6
  have cF_7 := F10.k7
  have cF_8 := F10.k8
  have cA_b := A10.hb
  have cA_f := A10.fz
  have cA_0 := A10.k0
  have cA_1 := A10.k1
  have cA_2 := A10.k2
  have cA_3 := A10.k3
  have cA_4 := A10.k4
  have cA_5 := A10.k5
  have cA_6 := A10.k6
  have cA_7 := A10.k7
  have cA_8 := A10.k8
  have cA_9 := A10.k9
  have cA_10 := A10.k10
  go_wp2_with fail
  clear cF_b cF_f cF_0 cF_1 cF_2 cF_3 cF_4 cF_5 cF_6 cF_7 cF_8 cA_b cA_f cA_0 cA_1 cA_2 cA_3 cA_4 cA_5 cA_6 cA_7 cA_8 cA_9 cA_10
  refine (R7.out (.slice (some ⟨w10.heap.size + 1, 0, none⟩) 9 9) _ (StS.rowc (w10.heap.size + 1) (w10.alloc (.cells _ 28)) (by simp) [⟨#[69, 85]⟩, ⟨#[49, 57, 56, 49]⟩, ⟨#[109, 97, 120]⟩, ⟨#[45]⟩, ⟨#[70, 101, 98]⟩, ⟨#[50, 56]⟩, ⟨#[49, 58, 48, 48, 117]⟩, ⟨#[52, 58, 48, 48]⟩, ⟨#[83]⟩] 9 9) tp pp y (HL.out _ (below_step B10.out (by repeat (first | exact Below.refl _ _ | refine below_drewN ?_ _ | refine Below.drew ?_ | refine Below.setCell ?_ (by first | (simp; done) | (simp; omega) | omega) _ | refine Below.alloc ?_ (by first | (simp; done) | (simp; omega) | omega) _))))).mono ?_; rintro e w11 ⟨rfl, b11⟩
  have d11 : Below w10.heap.size w10 w11 := below_step (by repeat (first | exact Below.refl _ _ | refine below_drewN ?_ _ | refine Below.drew ?_ | refine Below.setCell ?_ (by first | (simp; done) | (simp; omega) | omega) _ | refine Below.alloc ?_ (by first | (simp; done) | (simp; omega) | omega) _)) b11
  have B11 := Lib.hid (below_step B10.out d11)
  have SV_11 := Lib.hid (SV_10.out.on d11)
  have F11 := F10.keep d11
  have A11 := A10.keep d11
  clear SV_10 F10 A10 b11 d11 B10
  have cF_b := F11.hb
  have cF_f := F11.fz
  have cF_0 := F11.k0
  have cF_1 := F11.k1
  have cF_2 := F11.k2
  have cF_3 := F11.k3
  have cF_4 := F11.k4
  have cF_5 := F11.k5
  have cF_6 := F11.k6
  have cF_7 := F11.k7
  have cF_8 := F11.k8
  have cA_b := A11.hb
  have cA_f := A11.fz
  have cA_0 := A11.k0
  have cA_1 := A11.k1
  have cA_2 := A11.k2
  have cA_3 := A11.k3
  have cA_4 := A11.k4
  have cA_5 := A11.k5
  have cA_6 := A11.k6
  have cA_7 := A11.k7
  have cA_8 := A11.k8
  have cA_9 := A11.k9
  have cA_10 := A11.k10
  go_wp2_with fail
  clear cF_b cF_f cF_0 cF_1 cF_2 cF_3 cF_4 cF_5 cF_6 cF_7 cF_8 cA_b cA_f cA_0 cA_1 cA_2 cA_3 cA_4 cA_5 cA_6 cA_7 cA_8 cA_9 cA_10
  refine (G2.out _ tp pp y (HL.out _ (below_step B11.out (by repeat (first | exact Below.refl _ _ | refine below_drewN ?_ _ | refine Below.drew ?_ | refine Below.setCell ?_ (by first | (simp; done) | (simp; omega) | omega) _ | refine Below.alloc ?_ (by first | (simp; done) | (simp; omega) | omega) _))))).mono ?_; rintro e w12 ⟨_, sV2, rfl, b12⟩
  have SV2_12 := Lib.hid sV2; obtain ⟨AV2, cV2, rfl, -⟩ := sV2
  have d12 : Below w11.heap.size w11 w12 := below_step (by repeat (first | exact Below.refl _ _ | refine below_drewN ?_ _ | refine Below.drew ?_ | refine Below.setCell ?_ (by first | (simp; done) | (simp; omega) | omega) _ | refine Below.alloc ?_ (by first | (simp; done) | (simp; omega) | omega) _)) b12
  have B12 := Lib.hid (below_step B11.out d12)
  have SV_12 := Lib.hid (SV_11.out.on d12)
  have F12 := F11.keep d12
  have A12 := A11.keep d12
  clear SV_11 F11 A11 b12 d12 B11
  clear SV2_12
  go_upto_region 11 with (fail)
  try simp only [List.append, List.cons_append, List.nil_append]
  refine wp_named ?_; intro w13 hw13
  have d13 : Below w12.heap.size w12 w13 := by rw [hw13]; exact (by repeat (first | exact Below.refl _ _ | refine below_drewN ?_ _ | refine Below.drew ?_ | refine Below.setCell ?_ (by first | (simp; done) | (simp; omega) | omega) _ | refine Below.alloc ?_ (by first | (simp; done) | (simp; omega) | omega) _))
  have B13 := Lib.hid (below_step B12.out d13)
  have SV_13 := Lib.hid (SV_12.out.on d13)
  have F13 := F12.keep d13
  have A13 := A12.keep d13
  clear SV_12 F12 A12 d13 hw13 B12
  have cF_b := F13.hb
  have cF_f := F13.fz
  have cF_0 := F13.k0
  have cF_1 := F13.k1
  have cF_2 := F13.k2
  have cF_3 := F13.k3
  have cF_4 := F13.k4
  have cF_5 := F13.k5
  have cF_6 := F13.k6
  have cF_7 := F13.k7
  have cF_8 := F13.k8
  have cA_b := A13.hb
  have cA_f := A13.fz
  have cA_0 := A13.k0
  have cA_1 := A13.k1
  have cA_2 := A13.k2
  have cA_3 := A13.k3
  have cA_4 := A13.k4
  have cA_5 := A13.k5
  have cA_6 := A13.k6
  have cA_7 := A13.k7
  have cA_8 := A13.k8
  have cA_9 := A13.k9
  have cA_10 := A13.k10
  have r3 := cell_regrown A13.k0
  have qF_0 := cell_regrown F13.k0
  have qF_1 := cell_regrown F13.k1
  have qF_2 := cell_regrown F13.k2
  have qF_3 := cell_regrown F13.k3
  have qF_4 := cell_regrown F13.k4
  have qF_5 := cell_regrown F13.k5
  have qF_6 := cell_regrown F13.k6
  have qF_7 := cell_regrown F13.k7
  have qF_8 := cell_regrown F13.k8
  have qA_0 := cell_regrown A13.k0
  have qA_1 := cell_regrown A13.k1
  have qA_2 := cell_regrown A13.k2
  have qA_3 := cell_regrown A13.k3
  have qA_4 := cell_regrown A13.k4
  have qA_5 := cell_regrown A13.k5
  have qA_6 := cell_regrown A13.k6
  have qA_7 := cell_regrown A13.k7
  have qA_8 := cell_regrown A13.k8
  have qA_9 := cell_regrown A13.k9
  have qA_10 := cell_regrown A13.k10
  refine wp_region_qbt (w := w13) 70 (by kernel_rfl) (by kernel_rfl) (by repeat (first | exact Below.refl _ _ | refine below_drewN ?_ _ | refine Below.drew ?_ | refine Below.setCell ?_ (by first | (simp; done) | (simp; omega) | omega) _ | refine Below.alloc ?_ (by first | (simp; done) | (simp; omega) | omega) _)) ?_
  simp only [List.take_succ_cons, List.take_zero, List.drop_succ_cons, List.drop_zero]
  repeat (any_goals (first | go_big_quiet_step (first | (go_at_call 24; exact Calls.regrown_of (eu_any _)) | (go_at_call 12; exact Calls.regrown_of (same13_yes _ _ [⟨#[69, 85]⟩, ⟨#[49, 57, 56, 49]⟩, ⟨#[109, 97, 120]⟩, ⟨#[45]⟩, ⟨#[77, 97, 114]⟩, ⟨#[108, 97, 115, 116, 83, 117, 110]⟩, ⟨#[49, 58, 48, 48, 117]⟩, ⟨#[49, 58, 48, 48]⟩, ⟨#[83]⟩] _ (by decide) (SV_13.out.on (below_regrown _ _ _)) ((F13.keep (below_regrown _ _ _)).sts _))) | (go_at_call 13; exact Calls.regrown_of (RX.out _ _ _ _ _ _ _ _ _ _ _ _ (by decide) (by decide))) | (go_at_call 15; exact Calls.regrown_of (NX.out _ _ (by decide)))) | quiet_step (first | (go_at_call 24; exact Calls.regrown_of (eu_any _)) | (go_at_call 12; exact Calls.regrown_of (same13_yes _ _ [⟨#[69, 85]⟩, ⟨#[49, 57, 56, 49]⟩, ⟨#[109, 97, 120]⟩, ⟨#[45]⟩, ⟨#[77, 97, 114]⟩, ⟨#[108, 97, 115, 116, 83, 117, 110]⟩, ⟨#[49, 58, 48, 48, 117]⟩, ⟨#[49, 58, 48, 48]⟩, ⟨#[83]⟩] _ (by decide) (SV_13.out.on (below_regrown _ _ _)) ((F13.keep (below_regrown _ _ _)).sts _))) | (go_at_call 13; exact Calls.regrown_of (RX.out _ _ _ _ _ _ _ _ _ _ _ _ (by decide) (by decide))) | (go_at_call 15; exact Calls.regrown_of (NX.out _ _ (by decide))))))
  refine wpQuiet_nil ?_
  intro w14 b14
  clear qF_0 qF_1 qF_2 qF_3 qF_4 qF_5 qF_6 qF_7 qF_8 qA_0 qA_1 qA_2 qA_3 qA_4 qA_5 qA_6 qA_7 qA_8 qA_9 qA_10
  have d14 : Below w13.heap.size w13 w14 := below_step (by repeat (first | exact Below.refl _ _ | refine below_drewN ?_ _ | refine Below.drew ?_ | refine Below.setCell ?_ (by first | (simp; done) | (simp; omega) | omega) _ | refine Below.alloc ?_ (by first | (simp; done) | (simp; omega) | omega) _)) b14
  have B14 := Lib.hid (below_step B13.out d14)
  have SV_14 := Lib.hid (SV_13.out.on d14)
  have F14 := F13.keep d14
  have A14 := A13.keep d14
  clear SV_13 F13 A13 b14 d14 B13
  go_wp2_with fail
  refine (N5.out _).mono ?_; rintro e u9 ⟨rfl, rfl⟩
  go_wp2_with fail
  go_ret
  exact ⟨rfl, below_step B14.out (by repeat (first | exact Below.refl _ _ | refine below_drewN ?_ _ | refine Below.drew ?_ | refine Below.setCell ?_ (by first | (simp; done) | (simp; omega) | omega) _ | refine Below.alloc ?_ (by first | (simp; done) | (simp; omega) | omega) _))⟩
end Go.Proofs.YtedbohfcbfegjaaGreatDoor

/- Joined: QyK, QyN. -/
import Derived.Test.YtbcbggdbojonmaaGreatDoorBq01
import Derived.Test.YtbcbggdbojonmaaGreatDoorBq23
import Derived.Test.YtbcbggdbojonmaaGreatDoorBq29
import Derived.Test.YtbcbggdbojonmaaGreatDoorBq30
import Derived.Test.YtbcbggdbojonmaaGreatDoorBq25
set_option linter.unusedVariables false
set_option linter.unusedSimpArgs false
namespace Go.Proofs.YtbcbggdbojonmaaGreatDoor
open Go.RowKit Go.Sort
set_option maxRecDepth 100000 in
theorem qr_callFn (qs : Array Value) (W : World) : Sem.run Tryz.prog (callFunc 15 qs) W = .ok (.enter 15 qs) W := rfl
theorem Qy.chk_len {s : List UInt8} (h : Ln.chk s = 0) : s.length ≤ 511 := by
 unfold Ln.chk at h
 split at h
 ·
  cases h
 ·
  omega
theorem Qy.aft_bad (k : Int) (R : Qy.Q × Int) (h : (Qy.aft k R).2 ≠ 0) : (Qy.aft k R).1 = Qy.Q0 := by
 unfold Qy.aft at h ⊢
 by_cases h1 : R.2 = 0
 ·
  rw [if_neg (by simp [h1])] at h ⊢
  by_cases h2 : k = 7
  ·
   rw [if_pos h2] at h ⊢
   split
   ·
    rfl
   ·
    rename_i h3
    rw [if_neg h3] at h
    split
    ·
     rfl
    ·
     rename_i h4
     rw [if_neg h4] at h; exact absurd rfl h
  ·
   rw [if_neg h2] at h; exact absurd rfl h
 ·
  rw [if_pos h1]
theorem Qy.rdK_bad (k : Nat) (r : List (List UInt8)) (h1 : 1 ≤ k) (h7 : k ≤ 7) (h : (Qy.rdK k r).2 ≠ 0) : (Qy.rdK k r).1 = Qy.Q0 := by
 rw [Qy.rdK_stp k r h1 h7] at h ⊢
 split
 ·
  rfl
 ·
  rename_i h2
  rw [if_neg h2] at h
  split
  ·
   rfl
  ·
   rename_i h3
   rw [if_neg h3] at h; exact Qy.aft_bad _ _ h
theorem Qy.rd_bad (s : List UInt8) (h : (Qy.rd s).2 ≠ 0) : (Qy.rd s).1 = Qy.Q0 := by
 unfold Qy.rd at h ⊢
 split
 ·
  rfl
 ·
  rename_i h1
  rw [if_neg h1] at h
  split
  ·
   rfl
  ·
   rename_i h2
   rw [if_neg h2] at h
   generalize (Fd.of s).1 = f at h ⊢
   match f, h with
   | [], h => exact absurd rfl h
   | a :: r, h =>
    rw [Qy.rdF_cons] at h ⊢
    split
    ·
     rfl
    ·
     rename_i h3
     rw [if_neg h3] at h
     have m := Wd.mat_lt a Qy.heads (by simpa using h3)
     have ml : Qy.heads.length = 7 := rfl
     rw [ml] at m
     obtain ⟨kk, hkk⟩ : ∃ kk : Nat, (Wd.mat a Qy.heads).1 + 1 = kk := ⟨((Wd.mat a Qy.heads).1 + 1).toNat, by omega⟩
     rw [hkk] at h ⊢
     exact Qy.rdK_bad kk r (by omega) (by omega) h
set_option maxHeartbeats 4000000 in
set_option maxRecDepth 100000 in
theorem qread1_any (p : Nat) (s : ByteArray) (w : World) (hc : w.cell? ⟨p, 0, none⟩ = some (.string s)) (hs : s.size ≤ 1000000) (tp : TypeId) (pp : Value) (hvar : w.var? Tryz.prog "strconv.ErrRange" = some #[.iface tp pp]) :
  Calls Tryz.prog 15 #[.pointer (some ⟨p, 0, none⟩)] w (AnsQ (Qy.rd s.data.toList) w) := by
 have CK := Lib.hid (fun W => lcheck_any s W (by unfold maxLen; omega))
 have FO := Lib.hid (fun W => fof_room s W (by omega))
 have FL := Lib.hid (An.field_len s)
 have HV := Lib.hid hvar
 have hp : p < w.heap.size := World.block_lt_of_cell? _ _ hc
 have n1 : p ≠ w.heap.size := Nat.ne_of_lt hp
 have HC := Lib.hid (fun W (b : Below w.heap.size w W) => fd_keep hc b)
 have hsz : s.data.toList.length = s.size := Array.length_toList
 unfold Qy.rd
 clear hvar
 by_cases h1 : Ln.chk s.data.toList = 0
 case neg =>
  rw [if_pos h1]
  generalize Ln.chk s.data.toList = y at CK h1 ⊢
  clear FO FL hsz
  go_enter Tryz.func15, Tryz.ntmps15
  go_wp2_with fail
  refine (CK.out _).mono ?_; rintro e w1 ⟨rfl, b1⟩
  have B1 := Lib.hid (below_step (show Below w.heap.size w _ from gr0) b1)
  go_wp2_with fail
  refine (for_no _ _ h1).mono ?_; rintro e u1 ⟨rfl, rfl⟩
  refine (show bodyPost _ _ _ (Exit.panic (gvP _)) _ _ from ?_)
  simp only [bodyPost]
  exact ⟨trivial, B1.out, .inr ⟨h1, by first | rfl | trivial⟩⟩
 rw [if_neg (by simp [h1])]
 have hs5 : s.size ≤ 511 := by have := Qy.chk_len h1; omega
 rw [h1] at CK
 generalize Fd.of s.data.toList = R at FO FL ⊢
 obtain ⟨P, y⟩ := R
 dsimp only at FL ⊢
 clear hsz
 by_cases hy : y = 0
 case neg =>
  rw [if_pos hy]
  go_enter Tryz.func15, Tryz.ntmps15
  go_wp2_with fail
  refine (CK.out _).mono ?_; rintro e w1 ⟨rfl, b1⟩
  have d1 : Below w.heap.size w w1 := below_step gr0 b1
  have B1 := Lib.hid d1
  have hc := HC.out _ d1
  clear b1 d1
  go_wp2_with fail
  refine (for_yes _).mono ?_; rintro e u1 ⟨rfl, rfl⟩
  go_wp2_with fail
  refine (FO.out _).mono ?_; rintro e w2 ⟨A, n, c, l, hnc, hst, hl, rfl, b2⟩
  have B2 := Lib.hid (below_step B1.out b2)
  clear hst hl hnc b2
  go_wp2_with fail
  refine (mustl_no _ y _ hy).mono ?_; rintro e u1 ⟨rfl, rfl⟩
  refine (show bodyPost _ _ _ (Exit.panic (gvP _)) _ _ from ?_)
  simp only [bodyPost]
  exact ⟨trivial, B2.out, .inr ⟨hy, by first | rfl | trivial⟩⟩
 subst hy
 rw [if_neg (by simp)]
 obtain ⟨T, hT⟩ : ∃ T, T = Qy.rdF P := ⟨_, rfl⟩
 rw [← hT]
 have HT := Lib.hid hT
 clear hT
 go_enter Tryz.func15, Tryz.ntmps15
 go_wp2_with fail
 refine (CK.out _).mono ?_; rintro e w1 ⟨rfl, b1⟩
 have Z1 : Hid (Bk6 w1 w.heap.size (.int .i64 0) (.string ⟨#[]⟩) (.int .i64 0) (.int .i64 0) (.int .i64 0) (.int .i64 0)) := Lib.hid (by refine Bk6.of b1 (by simp <;> omega) (by intro j; simp [go_sem]) ?_ ?_ ?_ ?_ ?_ ?_ <;> simp [go_sem])
 have d1 : Below w.heap.size w w1 := below_step gr0 b1
 have B1 := Lib.hid d1
 have hc := HC.out _ d1
 clear b1 d1
 go_wp2_with fail
 refine (for_yes _).mono ?_; rintro e u1 ⟨rfl, rfl⟩
 go_wp2_with fail
 refine (FO.out _).mono ?_; rintro e w2 ⟨A, n, c, l, hnc, hst, hl, rfl, b2⟩
 have hl : l.map (·.data.toList) = P := hl
 have hz : ∀ x ∈ l, x.size ≤ 1000 := fun x hx => by have := FL.out l hl x hx; omega
 have B2 := Lib.hid (below_step B1.out b2)
 have Z2 := Lib.hid (Z1.out.keep b2)
 have RD := Lib.hid (qread_any A n c l w2 hnc hst hz tp pp (var_keep B2.out HV.out))
 rw [hl, ← HT.out] at RD
 clear HT
 clear hst hl hnc b2 hz FL FO CK HC Z1 hc B1
 go_wp2_with fail
 refine (mustl_yes _ _).mono ?_; rintro e u1 ⟨rfl, rfl⟩
 go_wp2_with fail
 refine RD.out.mono ?_; rintro e w3 ⟨b3, ⟨h0, rfl⟩ | ⟨h0, rfl⟩⟩
 ·
  have B3 := Lib.hid (below_step B2.out b3)
  have X := Z2.out.keep b3
  obtain ⟨⟨k', z, t, n9, u, p9⟩, y⟩ := T
  unfold Qy.V
  dsimp only
  have Xh := X.hb; have Xf := X.fz; have X0 := X.k0; have X1c := X.k1; have X2c := X.k2; have X3c := X.k3; have X4c := X.k4; have X5c := X.k5
  have hbw := B3.out.size
  clear X b3 Z2 RD
  go_wp2_with fail
  refine bodyPost_ret (v := .agg #[.int .i64 k', .string ⟨z.toArray⟩, .int .i64 t, .int .i64 n9, .int .i64 u, .int .i64 p9]) (by simp [results, Tryz.results15, go_sem, Xh, Xf, X0, X1c, X2c, X3c, X4c, X5c]) rfl ⟨?_, .inl ⟨by first | exact h0 | rfl, rfl⟩⟩
  iterate 6 (refine Below.setCell ?_ (by first | omega | (simp; done)) _)
  exact B3.out
 ·
  have B3 := Lib.hid (below_step B2.out b3)
  refine (show bodyPost _ _ _ (Exit.panic (gvP _)) _ _ from ?_)
  simp only [bodyPost]
  exact ⟨trivial, B3.out, .inr ⟨h0, by first | rfl | trivial⟩⟩
set_option maxHeartbeats 4000000 in
set_option maxRecDepth 100000 in
theorem qread_line (s : ByteArray) (w : World) (hs : s.size ≤ 1000000) (tp : TypeId) (pp : Value) (hvar : w.var? Tryz.prog "strconv.ErrRange" = some #[.iface tp pp]) :
  Calls Tryz.prog 6 #[.string s] w fun e w' => e = .returned (.tuple #[Qy.V (Qy.rd s.data.toList).1, .int .i64 (Qy.rd s.data.toList).2]) ∧ Below w.heap.size w w' := by
 have C := Lib.hid (fun b W (hc : W.cell? ⟨b, 0, none⟩ = some (.string s)) hv => qread1_any b s W hc hs tp pp hv)
 have hR := Qy.rd_bad s.data.toList
 have HV := Lib.hid hvar
 clear hvar hs
 generalize Qy.rd s.data.toList = R at C hR ⊢
 obtain ⟨⟨k, zz, t, n, u, p⟩, y⟩ := R
 unfold AnsQ Qy.V at C
 unfold Qy.V
 dsimp only at C hR ⊢
 obtain ⟨z, hz⟩ : ∃ z : ByteArray, (⟨zz.toArray⟩ : ByteArray) = z := ⟨_, rfl⟩
 rw [hz] at C
 rw [hz]
 by_cases h0 : y = 0
 ·
  subst h0
  have TT := Lib.hid (fun q W (hc : W.cell? ⟨q, 0, none⟩ = some (.string s)) hv => gqcaught_yes 15 #[.pointer (some ⟨q, 0, none⟩)] (qr_callFn _) k z t n u p W (Lib.hid fun W' hB => (C.out q W' (fd_keep hc hB) (var_keep hB hv)).mono (by
   rintro e w' ⟨h1, ⟨h2, h3⟩ | ⟨h2, h3⟩⟩
   ·
    exact ⟨h3, h1⟩
   ·
    exact absurd rfl h2)))
  clear C hR hz
  go_enter Tryz.func6, Tryz.ntmps6
  go_wp2_with fail
  refine (TT.out _ _ (by simp [go_sem]) (var_keep gr0 HV.out)).mono ?_; rintro e w1 ⟨rfl, b1⟩
  have B1 : Hid (Below w.heap.size w w1) := Lib.hid (below_step gr0 b1)
  have Z1 : Bk6 w1 (w.heap.size + 1) (.int .i64 0) (.string ⟨#[]⟩) (.int .i64 0) (.int .i64 0) (.int .i64 0) (.int .i64 0) := by refine Bk6.of b1 (by simp <;> omega) (by intro j; simp [go_sem]) ?_ ?_ ?_ ?_ ?_ ?_ <;> simp [go_sem]
  clear b1
  have Zh := Z1.hb; have Zf := Z1.fz; have Z10 := Z1.k0; have Z11 := Z1.k1; have Z12 := Z1.k2; have Z13 := Z1.k3; have Z14 := Z1.k4; have Z15 := Z1.k5
  go_wp2_with fail
  refine bodyPost_ret (v := .tuple #[.agg #[.int .i64 k, .string z, .int .i64 t, .int .i64 n, .int .i64 u, .int .i64 p], .int .i64 0]) (by simp [results, Tryz.results6, go_sem, Zh, Zf, Z10, Z11, Z12, Z13, Z14, Z15]) rfl ⟨rfl, ?_⟩
  have hz := B1.out.size
  iterate 6 (refine Below.setCell ?_ (by first | omega | (simp; done) | (simp; omega)) _)
  exact B1.out
 ·
  obtain ⟨rfl, rfl, rfl, rfl, rfl, rfl⟩ : k = 0 ∧ z = ⟨#[]⟩ ∧ t = 0 ∧ n = 0 ∧ u = 0 ∧ p = 0 := by
   have := hR h0
   unfold Qy.Q0 at this
   simp only [Prod.mk.injEq] at this
   obtain ⟨a1, a2, a3, a4, a5, a6⟩ := this
   exact ⟨a1, by rw [← hz, a2], a3, a4, a5, a6⟩
  have TT := Lib.hid (fun q W (hc : W.cell? ⟨q, 0, none⟩ = some (.string s)) hv => gqcaught_no 15 #[.pointer (some ⟨q, 0, none⟩)] (qr_callFn _) 0 y W (Lib.hid fun W' hB => (C.out q W' (fd_keep hc hB) (var_keep hB hv)).mono (by
   rintro e w' ⟨h1, ⟨h2, h3⟩ | ⟨h2, h3⟩⟩
   ·
    exact absurd h2 h0
   ·
    exact ⟨h3, h1⟩)))
  clear C hR hz
  go_enter Tryz.func6, Tryz.ntmps6
  go_wp2_with fail
  refine (TT.out _ _ (by simp [go_sem]) (var_keep gr0 HV.out)).mono ?_; rintro e w1 ⟨rfl, b1⟩
  have B1 : Hid (Below w.heap.size w w1) := Lib.hid (below_step gr0 b1)
  have Z1 : Bk6 w1 (w.heap.size + 1) (.int .i64 0) (.string ⟨#[]⟩) (.int .i64 0) (.int .i64 0) (.int .i64 0) (.int .i64 0) := by refine Bk6.of b1 (by simp <;> omega) (by intro j; simp [go_sem]) ?_ ?_ ?_ ?_ ?_ ?_ <;> simp [go_sem]
  clear b1
  have Zh := Z1.hb; have Zf := Z1.fz; have Z10 := Z1.k0; have Z11 := Z1.k1; have Z12 := Z1.k2; have Z13 := Z1.k3; have Z14 := Z1.k4; have Z15 := Z1.k5
  go_wp2_with fail
  refine bodyPost_ret (v := .tuple #[.agg #[.int .i64 0, .string ⟨#[]⟩, .int .i64 0, .int .i64 0, .int .i64 0, .int .i64 0], .int .i64 y]) (by simp [results, Tryz.results6, go_sem, Zh, Zf, Z10, Z11, Z12, Z13, Z14, Z15]) rfl ⟨rfl, ?_⟩
  have hz := B1.out.size
  iterate 6 (refine Below.setCell ?_ (by first | omega | (simp; done) | (simp; omega)) _)
  exact B1.out
theorem qtext_any (q : Qy.Q) (w : World) (ht : An.bd q.2.2.1) (hn : An.bd q.2.2.2.1) (hz : q.2.1.length ≤ 100000) (T : Lib.TabIs Tryz.prog w "internal/strconv.uint64pow10" .u64 Lib.pow10Tab) :
    Calls Tryz.prog 32 #[Qy.V q] w fun e w' => e = .returned (.string ⟨(Qy.sj (Qy.parts q)).toArray⟩) ∧ Below w.heap.size w w' := by
  obtain ⟨k, z, t, n, u, p⟩ := q
  by_cases h0 : k < 0
  · rw [Qy.parts_out (k, z, t, n, u, p) (.inl h0)]
    exact qtext_neg k t n u p ⟨z.toArray⟩ w h0
  · by_cases h8 : 8 ≤ k
    · rw [Qy.parts_out (k, z, t, n, u, p) (.inr h8)]
      exact qtext_big k t n u p ⟨z.toArray⟩ w h8
    · obtain ⟨m, rfl⟩ : ∃ m : Nat, k = m := ⟨k.toNat, by omega⟩
      exact qtext_in m (by omega) t n u p z w ht hn hz T
theorem Qy.line_len (q : Qy.Q) (ht : An.bd q.2.2.1) (hn : An.bd q.2.2.2.1) (hz : q.2.1.length ≤ 100000) : (Qy.sj (Qy.parts q)).length ≤ 700000 := by
  obtain ⟨k, z, t, n, u, p⟩ := q
  have hz : z.length ≤ 100000 := hz
  by_cases h : k < 0 ∨ 8 ≤ k
  · rw [Qy.parts_out (k, z, t, n, u, p) h]; simp
  · obtain ⟨m, rfl⟩ : ∃ m : Nat, k = m := ⟨k.toNat, by omega⟩
    have := Qy.sj_len m z t n u p (by omega) ht hn
    omega
set_option maxHeartbeats 4000000 in
set_option maxRecDepth 100000 in
theorem qText_any (q : Qy.Q) (w : World) (ht : An.bd q.2.2.1) (hn : An.bd q.2.2.2.1) (hz : q.2.1.length ≤ 100000) (T : Lib.TabIs Tryz.prog w "internal/strconv.uint64pow10" .u64 Lib.pow10Tab) (tp : TypeId) (pp : Value) (hvar : w.var? Tryz.prog "strconv.ErrRange" = some #[.iface tp pp]) :
    Calls Tryz.prog 8 #[Qy.V q] w fun e w' => e = .returned (.tuple #[.string ⟨(Qy.tx q).1.toArray⟩, .int .i64 (Qy.tx q).2]) ∧ Below w.heap.size w w' := by
  have HI := Qy.right_iff q ht hn
  have hl := Qy.line_len q ht hn hz
  have QT := Lib.hid (fun W T => qtext_any q W ht hn hz T)
  have TT := Lib.hid T
  have HV := Lib.hid hvar
  unfold Qy.tx
  obtain ⟨line, hline⟩ : ∃ line : ByteArray, line = ⟨(Qy.sj (Qy.parts q)).toArray⟩ := ⟨_, rfl⟩
  have e1 : Qy.sj (Qy.parts q) = line.data.toList := by rw [hline]
  rw [← hline] at QT
  rw [e1] at HI hl ⊢
  have hls : line.size ≤ 1000000 := by rw [show line.data.toList.length = line.size from Array.length_toList] at hl; omega
  have RD := Lib.hid (fun W V => qread_line line W hls tp pp V)
  rw [show (if Qy.right q then (line.data.toList, (0 : Int)) else ([], 4)) = (if Qy.rd line.data.toList = (q, 0) then (line.data.toList, (0 : Int)) else ([], 4)) from by
    by_cases h : Qy.right q
    · rw [if_pos h, if_pos (HI.1 h)]
    · rw [if_neg h, if_neg (fun g => h (HI.2 g))]]
  obtain ⟨R, hR⟩ : ∃ R, R = Qy.rd line.data.toList := ⟨_, rfl⟩
  rw [← hR] at RD ⊢
  clear HI hl e1 hline hls T hvar ht hn hz hR
  obtain ⟨⟨a0, a1, a2, a3, a4, a5⟩, y⟩ := R
  obtain ⟨k, z, t, n, u, p⟩ := q
  unfold Qy.V at QT RD ⊢
  dsimp only at QT RD ⊢
  by_cases hy : y = 0
  case neg =>
    rw [if_neg (fun h => hy (by injection h))]
    have gy : (y == 0) = false := by rw [beq_eq_false_iff_ne]; exact hy
    show Calls _ _ _ _ fun e w' => e = .returned (.tuple #[.string ⟨#[]⟩, .int .i64 4]) ∧ Below w.heap.size w w'
    go_enter Tryz.func8, Tryz.ntmps8
    go_wp2_with fail
    refine (QT.out _ (var_keep gr0 TT.out)).mono ?_; rintro e w1 ⟨rfl, b1⟩
    have B1 := Lib.hid (below_step (show Below w.heap.size w _ from gr0) b1)
    clear b1
    go_wp2_with fail
    refine (RD.out _ (var_keep B1.out HV.out)).mono ?_; rintro e w2 ⟨rfl, b2⟩
    have B2 := Lib.hid (below_step B1.out b2)
    have hz2 := Lib.hid B2.out.size
    clear b2
    go_wp2_with fail
    go_ret2
    refine ⟨rfl, ?_⟩
    have := hz2.out
    repeat (first | exact B2.out | refine Below.setCell ?_ (by first | omega | (simp; done) | (simp; omega)) _ | refine Below.alloc ?_ (by first | omega | (simp; done) | (simp; omega)) _)
  subst hy
  obtain ⟨Z, hZ⟩ : ∃ Z : ByteArray, (⟨z.toArray⟩ : ByteArray) = Z := ⟨_, rfl⟩
  obtain ⟨A1, hA⟩ : ∃ A1 : ByteArray, (⟨a1.toArray⟩ : ByteArray) = A1 := ⟨_, rfl⟩
  rw [hZ] at QT ⊢
  rw [hA] at RD
  by_cases he : (((a0, a1, a2, a3, a4, a5), (0 : Int)) : Qy.Q × Int) = ((k, z, t, n, u, p), 0)
  case pos =>
    rw [if_pos he]
    injection he with he _
    simp only [Prod.mk.injEq] at he
    obtain ⟨rfl, rfl, rfl, rfl, rfl, rfl⟩ := he
    rw [hZ] at hA
    subst hA
    rw [show (⟨line.data.toList.toArray⟩ : ByteArray) = line from fd_id line]
    go_enter Tryz.func8, Tryz.ntmps8
    go_upto_region 1 with (fail)
    refine wp_named ?_; intro w0 hw0
    have d0 : Below w.heap.size w w0 := by rw [hw0]; exact gr0
    have X0 : Hid (Bk6 w0 w.heap.size (.int .i64 a0) (.string Z) (.int .i64 a2) (.int .i64 a3) (.int .i64 a4) (.int .i64 a5)) := Lib.hid (by rw [hw0]; exact ⟨by simp <;> omega, by intro j; simp [go_sem], by simp [go_sem], by simp [go_sem], by simp [go_sem], by simp [go_sem], by simp [go_sem], by simp [go_sem]⟩)
    have B0 := Lib.hid d0
    clear d0 hw0
    have X := X0.out
    have Xh := X.hb; have Xf := X.fz; have X0c := X.k0; have X1c := X.k1; have X2c := X.k2; have X3c := X.k3; have X4c := X.k4; have X5c := X.k5
    clear X
    go_wp2_with fail
    refine (QT.out _ (var_keep B0.out TT.out)).mono ?_; rintro e w1 ⟨rfl, b1⟩
    have B1 := Lib.hid (below_step B0.out b1)
    have X1 := Lib.hid (X0.out.keep b1)
    clear b1 Xh Xf X0c X1c X2c X3c X4c X5c
    go_wp2_with fail
    refine (RD.out _ (var_keep B1.out HV.out)).mono ?_; rintro e w2 ⟨rfl, b2⟩
    have B2 := Lib.hid (below_step B1.out b2)
    have X := X1.out.keep b2
    have Xh := X.hb; have Xf := X.fz; have X0c := X.k0; have X1c := X.k1; have X2c := X.k2; have X3c := X.k3; have X4c := X.k4; have X5c := X.k5
    have n1 := Nat.ne_of_lt Xh
    have n2 := Nat.ne_of_gt Xh
    have hz2 := Lib.hid B2.out.size
    clear b2 X
    go_wp2_with fail
    go_ret2
    refine ⟨rfl, ?_⟩
    have := hz2.out
    repeat (first | exact B2.out | refine Below.setCell ?_ (by first | omega | (simp; done) | (simp; omega)) _ | refine Below.alloc ?_ (by first | omega | (simp; done) | (simp; omega)) _)
  rw [if_neg he]
  show Calls _ _ _ _ fun e w' => e = .returned (.tuple #[.string ⟨#[]⟩, .int .i64 4]) ∧ Below w.heap.size w w'
  go_enter Tryz.func8, Tryz.ntmps8
  go_upto_region 1 with (fail)
  refine wp_named ?_; intro w0 hw0
  have d0 : Below w.heap.size w w0 := by rw [hw0]; exact gr0
  have X0 : Hid (Bk6 w0 w.heap.size (.int .i64 k) (.string Z) (.int .i64 t) (.int .i64 n) (.int .i64 u) (.int .i64 p)) := Lib.hid (by rw [hw0]; exact ⟨by simp <;> omega, by intro j; simp [go_sem], by simp [go_sem], by simp [go_sem], by simp [go_sem], by simp [go_sem], by simp [go_sem], by simp [go_sem]⟩)
  have B0 := Lib.hid d0
  clear d0 hw0
  have X := X0.out
  have Xh := X.hb; have Xf := X.fz; have X0c := X.k0; have X1c := X.k1; have X2c := X.k2; have X3c := X.k3; have X4c := X.k4; have X5c := X.k5
  clear X
  go_wp2_with fail
  refine (QT.out _ (var_keep B0.out TT.out)).mono ?_; rintro e w1 ⟨rfl, b1⟩
  have B1 := Lib.hid (below_step B0.out b1)
  have X1 := Lib.hid (X0.out.keep b1)
  clear b1 Xh Xf X0c X1c X2c X3c X4c X5c
  go_wp2_with fail
  refine (RD.out _ (var_keep B1.out HV.out)).mono ?_; rintro e w2 ⟨rfl, b2⟩
  have B2 := Lib.hid (below_step B1.out b2)
  have X := X1.out.keep b2
  have Xh := X.hb; have Xf := X.fz; have X0c := X.k0; have X1c := X.k1; have X2c := X.k2; have X3c := X.k3; have X4c := X.k4; have X5c := X.k5
  have n1 := Nat.ne_of_lt Xh
  have n2 := Nat.ne_of_gt Xh
  have hz2 := Lib.hid B2.out.size
  clear b2 X
  go_upto_region 3 with (fail)
  go_wp2_with fail
  all_goals first
    | (go_ret2
       refine ⟨rfl, ?_⟩
       have := hz2.out
       repeat (first | exact B2.out | refine Below.setCell ?_ (by first | omega | (simp; done) | (simp; omega)) _ | refine Below.alloc ?_ (by first | omega | (simp; done) | (simp; omega)) _))
    | skip
  rename_i e0 e1 e2 e3 e4 e5
  exfalso
  apply he
  rw [← hZ, ← hA, ByteArray.toList_mk, ByteArray.toList_mk] at e1
  rw [e0, e1, e2, e3, e4, e5]
set_option maxHeartbeats 4000000 in
set_option maxRecDepth 100000 in
theorem qRight_any (q : Qy.Q) (w : World) (ht : An.bd q.2.2.1) (hn : An.bd q.2.2.2.1) (hz : q.2.1.length ≤ 100000) (T : Lib.TabIs Tryz.prog w "internal/strconv.uint64pow10" .u64 Lib.pow10Tab) (tp : TypeId) (pp : Value) (hvar : w.var? Tryz.prog "strconv.ErrRange" = some #[.iface tp pp]) :
    Calls Tryz.prog 10 #[Qy.V q] w fun e w' => e = .returned (.bool (decide (Qy.right q))) ∧ Below w.heap.size w w' := by
  have QT := Lib.hid (fun W T V => qText_any q W ht hn hz T tp pp V)
  have TT := Lib.hid T
  have HV := Lib.hid hvar
  unfold Qy.tx at QT
  by_cases hr : Qy.right q
  · rw [if_pos hr] at QT
    rw [decide_eq_true hr]
    obtain ⟨k, z, t, n, u, p⟩ := q
    unfold Qy.V at QT ⊢
    dsimp only at QT ⊢
    clear T hvar hr ht hn hz
    generalize (⟨z.toArray⟩ : ByteArray) = Z at QT ⊢
    generalize (⟨(Qy.sj (Qy.parts (k, z, t, n, u, p))).toArray⟩ : ByteArray) = line at QT
    go_enter Tryz.func10, Tryz.ntmps10
    go_wp2_with fail
    refine (QT.out _ (var_keep gr0 TT.out) (var_keep gr0 HV.out)).mono ?_; rintro e w1 ⟨rfl, b1⟩
    have B1 := Lib.hid (below_step (show Below w.heap.size w _ from gr0) b1)
    clear b1
    go_wp2_with fail
    go_ret
    exact ⟨rfl, B1.out⟩
  · rw [if_neg hr] at QT
    rw [decide_eq_false hr]
    obtain ⟨k, z, t, n, u, p⟩ := q
    unfold Qy.V at QT ⊢
    dsimp only at QT ⊢
    clear T hvar hr ht hn hz
    generalize (⟨z.toArray⟩ : ByteArray) = Z at QT ⊢
    generalize (⟨([] : List UInt8).toArray⟩ : ByteArray) = line at QT
    go_enter Tryz.func10, Tryz.ntmps10
    go_wp2_with fail
    refine (QT.out _ (var_keep gr0 TT.out) (var_keep gr0 HV.out)).mono ?_; rintro e w1 ⟨rfl, b1⟩
    have B1 := Lib.hid (below_step (show Below w.heap.size w _ from gr0) b1)
    clear b1
    go_wp2_with fail
    go_ret
    exact ⟨rfl, B1.out⟩
end Go.Proofs.YtbcbggdbojonmaaGreatDoor

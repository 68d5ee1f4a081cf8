/- Joined: FdH. -/
import Derived.Test.YtbcbggdbojonmaaGreatDoorBq26
import Derived.Test.YtbcbggdbojonmaaGreatDoorBq17
import Derived.Shelf.Strings.Search1
set_option linter.unusedVariables false
set_option linter.unusedSimpArgs false
namespace Go.Proofs.YtbcbggdbojonmaaGreatDoor
open Go.RowKit Go.Sort
set_option maxRecDepth 100000 in
theorem index34 (s : ByteArray) (w : World) :
  Calls Tryz.prog 157 #[.string s, .string ⟨#[34]⟩] w fun e w' => e = .returned (.int .i64 (Lib.indexByte s.data.toList 34)) ∧ w' = w := by
 have C := Lib.hid (fun W => Any.stringslite_IndexByte Tryz.lays217 s 34 W)
 have C : Hid (∀ W, Calls Tryz.prog 150 #[.string s, .int .u8 34] W fun e w' => e = .returned (.int .i64 (Lib.indexByte s.data.toList 34)) ∧ w' = W) := C
 by_cases h : s = ⟨#[34]⟩
 ·
  subst h
  clear C
  go_enter Tryz.func157, Tryz.ntmps157
  go_wp2_with fail
  go_ret
  exact ⟨rfl, rfl⟩
 ·
  have h1 : ¬ (⟨#[34]⟩ : ByteArray).toList = s.toList := fun e => h (by rw [ByteArray.toList_eq, ByteArray.toList_eq] at e; exact (ByteArray.ext (Array.toList_inj.1 e)).symm)
  rw [show (⟨#[34]⟩ : ByteArray).toList = [34] by decide +kernel] at h1
  have h2 : (([34] : List UInt8) == s.toList) = false := by rw [beq_eq_false_iff_ne]; exact h1
  clear h
  go_enter Tryz.func157, Tryz.ntmps157
  go_wp2_with fail
  refine (C.out _).mono ?_; rintro e w1 ⟨rfl, rfl⟩
  go_wp2_with fail
  go_ret
  exact ⟨rfl, rfl⟩
theorem cut_steps (s : ByteArray) (k : Nat) (h : k ≤ s.size) : (∀ W, Sem.run Tryz.prog (Instr.slice 9 (.string s) none (some (.int .i64 (k : Int))) none) W = .ok (.string (s.extract 0 k)) W) ∧ (∀ W, Sem.run Tryz.prog (Instr.slice 9 (.string s) (some (.int .i64 (k : Int))) none none) W = .ok (.string (s.extract k s.size)) W) := by
 refine ⟨fun W => ?_, fun W => ?_⟩
 ·
  simp [go_sem, Tryz.underlying9]
  try omega
 ·
  simp [go_sem, Tryz.underlying9]; omega
theorem ext_eq (s : ByteArray) (l : List UInt8) (k : Nat) (h : s.data.toList.take k = l) : s.extract 0 k = ⟨l.toArray⟩ := by
 apply ByteArray.ext; apply Array.toList_inj.1
 rw [fd_ext, h] <;> simp
theorem ext_eq2 (s : ByteArray) (l : List UInt8) (k : Nat) (h : s.data.toList.drop k = l) : s.extract k s.size = ⟨l.toArray⟩ := by
 apply ByteArray.ext; apply Array.toList_inj.1
 rw [fd_ext, List.take_of_length_le (by rw [fd_len]; exact Nat.le_refl _), h] <;> simp
set_option maxRecDepth 100000 in
theorem slcut_no (s : ByteArray) (w : World) (h : Lib.indexByte s.data.toList 34 = -1) :
  Calls Tryz.prog 142 #[.string s, .string ⟨#[34]⟩] w fun e w' => e = .returned (.tuple #[.string s, .string ⟨#[]⟩, .bool false]) ∧ w' = w := by
 have C := Lib.hid (fun W => index34 s W)
 rw [h] at C
 clear h
 go_enter Tryz.func142, Tryz.ntmps142
 go_wp2_with fail
 refine (C.out _).mono ?_; rintro e w1 ⟨rfl, rfl⟩
 go_wp2_with fail
 go_ret3
 exact ⟨rfl, rfl⟩
set_option maxRecDepth 100000 in
theorem slcut_yes (s : ByteArray) (w : World) (k : Nat) (h : Lib.indexByte s.data.toList 34 = k) (hk : k < s.size) (hs : s.size ≤ 1000000000) :
  Calls Tryz.prog 142 #[.string s, .string ⟨#[34]⟩] w fun e w' => e = .returned (.tuple #[.string ⟨(s.data.toList.take k).toArray⟩, .string ⟨(s.data.toList.drop (k + 1)).toArray⟩, .bool true]) ∧ ∃ n, w' = w.drewN n := by
 have C := Lib.hid (fun W => index34 s W)
 rw [h] at C
 have S1 := (cut_steps s k (by omega)).1
 have S2 := (cut_steps s (k + 1) (by omega)).2
 rw [ext_eq s _ k rfl] at S1
 rw [ext_eq2 s _ (k + 1) rfl] at S2
 generalize s.data.toList.take k = X1 at S1 ⊢
 generalize s.data.toList.drop (k + 1) = X2 at S2 ⊢
 have S2 : ∀ W, Sem.run Tryz.prog (Instr.slice 9 (.string s) (some (.int .i64 ((k : Int) + 1))) none none) W = .ok (.string ⟨X2.toArray⟩) W := S2
 have g0 : (0 : Int) ≤ (k : Int) := by omega
 have hkb : (k : Int) ≤ 1000000000 := by omega
 clear h
 go_enter Tryz.func142, Tryz.ntmps142
 go_wp2_with fail
 refine (C.out _).mono ?_; rintro e w1 ⟨rfl, rfl⟩
 go_wp2_with fail
 go_quiet (fail)
 go_wp2_with fail
 go_ret3
 exact ⟨rfl, _, rfl⟩
theorem cut_no (s : ByteArray) (w : World) (h : Lib.indexByte s.data.toList 34 = -1) :
  Calls Tryz.prog 125 #[.string s, .string ⟨#[34]⟩] w fun e w' => e = .returned (.tuple #[.string s, .string ⟨#[]⟩, .bool false]) ∧ ∃ n, w' = w.drewN n := by
 have C := Lib.hid (fun W => slcut_no s W h)
 clear h
 go_enter Tryz.func125, Tryz.ntmps125
 go_wp2_with fail
 refine (C.out _).mono ?_; rintro e w1 ⟨rfl, rfl⟩
 go_wp2_with fail
 go_ret3
 exact ⟨rfl, 0, rfl⟩
theorem cut_yes (s : ByteArray) (w : World) (k : Nat) (h : Lib.indexByte s.data.toList 34 = k) (hk : k < s.size) (hs : s.size ≤ 1000000000) :
  Calls Tryz.prog 125 #[.string s, .string ⟨#[34]⟩] w fun e w' => e = .returned (.tuple #[.string ⟨(s.data.toList.take k).toArray⟩, .string ⟨(s.data.toList.drop (k + 1)).toArray⟩, .bool true]) ∧ ∃ n, w' = w.drewN n := by
 have C := Lib.hid (fun W => slcut_yes s W k h hk hs)
 clear h
 generalize s.data.toList.take k = X1 at C ⊢
 generalize s.data.toList.drop (k + 1) = X2 at C ⊢
 go_enter Tryz.func125, Tryz.ntmps125
 go_wp2_with fail
 refine (C.out _).mono ?_; rintro e w1 ⟨rfl, n, rfl⟩
 go_wp2_with fail
 go_ret3
 exact ⟨rfl, n, rfl⟩
namespace Fd
def bgn : List UInt8 → Bool
 | [] => false
 | c :: _ => !(decide (c = 35))
end Fd
theorem trimBlank (s : ByteArray) (w : World) :
  Calls Tryz.prog 104 #[.string s, .func (.func 105) #[] #[]] w fun e w' => e = .returned (.string ⟨(Fd.dw s.data.toList).toArray⟩) ∧ Below w.heap.size w w' := by
 have e : Lib.trimLeftF Fd.isW s = ⟨(Fd.dw s.data.toList).toArray⟩ := by
  apply ByteArray.ext; apply Array.toList_inj.1; rw [Fd.trim_dw] <;> simp
 rw [← e]
 exact (Any.strings_TrimLeftFunc Tryz.lays272 105 #[] (enters_of Tryz.func105 (by kernel_rfl) rfl) Fd.isW s w (isBlank_at w)).mono fun _ _ ⟨a, h⟩ => ⟨a, h⟩
theorem indexMark (s : ByteArray) (w : World) :
  Calls Tryz.prog 73 #[.string s, .func (.func 124) #[] #[]] w fun e w' => e = .returned (.int .i64 (Lib.idxFunc Fd.isK true s)) ∧ Below w.heap.size w w' :=
 (Any.strings_IndexFunc Tryz.laysGw15 124 #[] (enters_of Tryz.func124 (by kernel_rfl) rfl) Fd.isK s w (isMark_at w)).mono fun _ _ ⟨a, h⟩ => ⟨a, h⟩
theorem bk1_set {W : World} {b : Nat} {v : Value} (h : Bk1 W b v) (u : Value) : Bk1 (W.setCell ⟨b, 0, none⟩ u) b u :=
 ⟨by have := h.hb; simpa [World.setCell] using this, fun j => by have := h.fz j; simpa [go_sem] using this, by have := h.k0; simp [go_sem, this]⟩
set_option maxHeartbeats 1000000 in
set_option maxRecDepth 100000 in
theorem fdbegins_any (b : Nat) (s : ByteArray) (w : World) (H : Bk1 w b (.string s)) :
  Calls Tryz.prog 83 #[.pointer (some ⟨b, 0, none⟩)] w fun e w' => e = .returned (.bool (Fd.bgn (Fd.dw s.data.toList))) ∧ Bk1 w' b (.string ⟨(Fd.dw s.data.toList).toArray⟩) ∧ w.grownBy w' (some b) := by
 have C := Lib.hid (fun W => trimBlank s W)
 have HH := Lib.hid H
 have c_b := H.hb; have c_f := H.fz; have c_0 := H.k0
 clear H
 generalize Fd.dw s.data.toList = l at C ⊢
 cases l with
 | nil =>
  go_enter Tryz.func83, Tryz.ntmps83
  go_wp2_with fail
  refine (C.out _).mono ?_; rintro e w1 ⟨rfl, b1⟩
  have K1 := HH.out.keep b1
  have G1 := Lib.hid (grown_of b1 (some b))
  have KK := Lib.hid K1
  have d_b := K1.hb; have d_f := K1.fz; have d_0 := K1.k0
  clear c_b c_f c_0 b1 K1
  go_wp2_with fail
  go_ret
  exact ⟨rfl, bk1_set KK.out _, grown_trans G1.out (grown_set _ _ _)⟩
 | cons c r =>
  obtain ⟨T, hT⟩ : ∃ T : ByteArray, T = ⟨(c :: r).toArray⟩ := ⟨_, rfl⟩
  rw [← hT] at C ⊢
  have hz : 0 < T.size := by rw [hT]; show 0 < (c :: r).toArray.size; simp
  have IX := fun W => fd_ix T 0 hz W
  have hc : T[0] = c := by subst hT; rfl
  rw [hc] at IX
  obtain ⟨n1, n2⟩ := fd_ne hz
  have hb : ((c.toNat : Int) == 35) = decide (c = 35) := by
   rw [Bool.eq_iff_iff, beq_iff_eq, decide_eq_true_eq]
   constructor
   ·
    intro h; exact UInt8.toNat_inj.1 (by rw [show (35 : UInt8).toNat = 35 from rfl]; omega)
   ·
    rintro rfl; rfl
  have hb2 : ((c.toNat : Int) != 35) = !decide (c = 35) := by unfold bne; rw [hb]
  have hbg : Fd.bgn (c :: r) = !decide (c = 35) := rfl
  rw [hbg]
  have IX : ∀ W, Sem.run Tryz.prog (Instr.index 9 (.string T) (.int .i64 0)) W = .ok (.int .u8 c.toNat) W := IX
  generalize decide (c = 35) = q at hb hb2 ⊢
  generalize (c.toNat : Int) = C0 at IX hb hb2
  clear hT hc hbg
  cases q
  all_goals
   go_enter Tryz.func83, Tryz.ntmps83
   go_wp2_with fail
   refine (C.out _).mono ?_; rintro e w1 ⟨rfl, b1⟩
   have K1 := HH.out.keep b1
   have G1 := Lib.hid (grown_of b1 (some b))
   have KK := Lib.hid K1
   have d_b := K1.hb; have d_f := K1.fz; have d_0 := K1.k0
   clear c_b c_f c_0 b1 K1
   go_wp2_with fail
   go_ret
   exact ⟨rfl, bk1_set KK.out _, grown_trans G1.out (grown_set _ _ _)⟩
set_option maxHeartbeats 1000000 in
set_option maxRecDepth 100000 in
theorem plain_any (b : Nat) (s : ByteArray) (w : World) (H : Bk1 w b (.string s)) (hs : s.size ≤ 1000000000) :
  Calls Tryz.prog 106 #[.pointer (some ⟨b, 0, none⟩)] w fun e w' => e = .returned (.string ⟨(Fd.pw s.data.toList).toArray⟩) ∧ Bk1 w' b (.string ⟨(Fd.qw s.data.toList).toArray⟩) ∧ w.grownBy w' (some b) := by
 have C := Lib.hid (fun W => indexMark s W)
 have HH := Lib.hid H
 have c_b := H.hb; have c_f := H.fz; have c_0 := H.k0
 clear H
 rcases Fd.mark_at s with ⟨h0, k, hk, hks, h1, h2⟩ | ⟨h0, h1, h2⟩
 ·
  have S1 := (cut_steps s k hks).1
  have S2 := (cut_steps s k hks).2
  rw [ext_eq s _ k h1] at S1
  rw [ext_eq2 s _ k h2] at S2
  rw [hk] at C
  generalize Fd.pw s.data.toList = X1 at S1 ⊢
  generalize Fd.qw s.data.toList = X2 at S2 ⊢
  have g0 : ¬ (k : Int) < 0 := by omega
  have hkb : (k : Int) ≤ 1000000000 := by omega
  clear h0 hk h1 h2
  go_enter Tryz.func106, Tryz.ntmps106
  go_wp2_with fail
  refine (C.out _).mono ?_; rintro e w1 ⟨rfl, b1⟩
  have K1 := HH.out.keep b1
  have G1 := Lib.hid (grown_of b1 (some b))
  have KK := Lib.hid K1
  have d_b := K1.hb; have d_f := K1.fz; have d_0 := K1.k0
  clear c_b c_f c_0 b1 K1
  go_wp2_with fail
  go_ret
  exact ⟨rfl, bk1_set KK.out _, grown_trans G1.out (grown_set _ _ _)⟩
 ·
  have S1 := (cut_steps s s.size (Nat.le_refl _)).1
  have S2 := (cut_steps s s.size (Nat.le_refl _)).2
  rw [ext_eq s _ s.size (List.take_of_length_le (by rw [fd_len]; exact Nat.le_refl _))] at S1
  rw [ext_eq2 s _ s.size (List.drop_of_length_le (by rw [fd_len]; exact Nat.le_refl _))] at S2
  rw [h0] at C
  rw [h1, h2]
  generalize s.data.toList = X1 at S1 ⊢
  have hkb : (s.size : Int) ≤ 1000000000 := by omega
  clear h0 h1 h2
  go_enter Tryz.func106, Tryz.ntmps106
  go_wp2_with fail
  refine (C.out _).mono ?_; rintro e w1 ⟨rfl, b1⟩
  have K1 := HH.out.keep b1
  have G1 := Lib.hid (grown_of b1 (some b))
  have KK := Lib.hid K1
  have d_b := K1.hb; have d_f := K1.fz; have d_0 := K1.k0
  clear c_b c_f c_0 b1 K1
  go_wp2_with fail
  go_ret
  exact ⟨rfl, bk1_set KK.out _, grown_trans G1.out (grown_set _ _ _)⟩
theorem bk1_drew {W : World} {b : Nat} {v : Value} (h : Bk1 W b v) (n : Nat) : Bk1 (W.drewN n) b v := ⟨h.hb, h.fz, h.k0⟩
theorem grown_drew (w : World) (n : Nat) (r : Option Nat) : w.grownBy (w.drewN n) r := grown_of (below_draw _ _) r
set_option maxHeartbeats 1000000 in
set_option maxRecDepth 100000 in
theorem quoted_yes (b : Nat) (r x u : List UInt8) (w : World) (H : Bk1 w b (.string ⟨(34 :: r).toArray⟩)) (k : Nat) (hi : Lib.indexByte r 34 = k) (hk : k < r.length) (hx : r.take k = x) (hu : r.drop (k + 1) = u) (hs : r.length ≤ 100000000) :
  Calls Tryz.prog 107 #[.pointer (some ⟨b, 0, none⟩)] w fun e w' => e = .returned (.string ⟨x.toArray⟩) ∧ Bk1 w' b (.string ⟨u.toArray⟩) ∧ w.grownBy w' (some b) := by
 obtain ⟨T, hT⟩ : ∃ T : ByteArray, T = ⟨(34 :: r).toArray⟩ := ⟨_, rfl⟩
 obtain ⟨R, hR⟩ : ∃ R : ByteArray, R = ⟨r.toArray⟩ := ⟨_, rfl⟩
 have hTl : T.data.toList = 34 :: r := by subst hT; simp
 have hRl : R.data.toList = r := by subst hR; simp
 have hTz : T.size = r.length + 1 := by rw [← fd_len, hTl]; rfl
 have hRz : R.size = r.length := by rw [← fd_len, hRl]
 rw [← hT] at H
 have S2 : ∀ W, Sem.run Tryz.prog (Instr.slice 9 (.string T) (some (.int .i64 1)) none none) W = .ok (.string R) W := by
  have := (cut_steps T 1 (by omega)).2
  rw [ext_eq2 T r 1 (by rw [hTl]; rfl), ← hR] at this
  exact this
 have C := Lib.hid (fun W => cut_yes R W k (by rw [hRl]; exact hi) (by omega) (by omega))
 rw [hRl, hx, hu] at C
 have N := Lib.hid (fun W => need_yes 8 W)
 have HH := Lib.hid H
 have c_b := H.hb; have c_f := H.fz; have c_0 := H.k0
 clear H hT hR hTl hRl hi hx hu hk
 go_enter Tryz.func107, Tryz.ntmps107
 go_wp2_with fail
 refine (C.out _).mono ?_; rintro e w1 ⟨rfl, n, rfl⟩
 go_wp2_with fail
 refine (N.out _).mono ?_; rintro e w2 ⟨rfl, rfl⟩
 go_wp2_with fail
 go_ret
 exact ⟨rfl, bk1_set (bk1_drew HH.out n) _, grown_trans (grown_drew _ n _) (grown_set _ _ _)⟩
set_option maxHeartbeats 1000000 in
set_option maxRecDepth 100000 in
theorem quoted_no (b : Nat) (r : List UInt8) (w : World) (H : Bk1 w b (.string ⟨(34 :: r).toArray⟩)) (hi : Lib.indexByte r 34 = -1) (hs : r.length ≤ 100000000) :
  Calls Tryz.prog 107 #[.pointer (some ⟨b, 0, none⟩)] w fun e w' => e = .panicked (gvP 8) ∧ w.grownBy w' (some b) := by
 obtain ⟨T, hT⟩ : ∃ T : ByteArray, T = ⟨(34 :: r).toArray⟩ := ⟨_, rfl⟩
 obtain ⟨R, hR⟩ : ∃ R : ByteArray, R = ⟨r.toArray⟩ := ⟨_, rfl⟩
 have hTl : T.data.toList = 34 :: r := by subst hT; simp
 have hRl : R.data.toList = r := by subst hR; simp
 have hTz : T.size = r.length + 1 := by rw [← fd_len, hTl]; rfl
 rw [← hT] at H
 have S2 : ∀ W, Sem.run Tryz.prog (Instr.slice 9 (.string T) (some (.int .i64 1)) none none) W = .ok (.string R) W := by
  have := (cut_steps T 1 (by omega)).2
  rw [ext_eq2 T r 1 (by rw [hTl]; rfl), ← hR] at this
  exact this
 have C := Lib.hid (fun W => cut_no R W (by rw [hRl]; exact hi))
 have N := Lib.hid (fun W => need_no 8 W)
 have c_b := H.hb; have c_f := H.fz; have c_0 := H.k0
 clear H hT hR hTl hRl hi
 go_enter Tryz.func107, Tryz.ntmps107
 go_wp2_with fail
 refine (C.out _).mono ?_; rintro e w1 ⟨rfl, n, rfl⟩
 go_wp2_with fail
 refine (N.out _).mono ?_; rintro e w2 ⟨rfl, rfl⟩
 refine (show bodyPost _ _ _ (Exit.panic (gvP 8)) _ _ from ?_)
 simp [bodyPost]
 exact grown_drew _ n _
end Go.Proofs.YtbcbggdbojonmaaGreatDoor

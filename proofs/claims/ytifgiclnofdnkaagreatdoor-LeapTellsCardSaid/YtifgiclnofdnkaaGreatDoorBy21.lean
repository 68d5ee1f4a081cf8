/- Joined: StK, RsH, QyP. -/
import Derived.Test.YtifgiclnofdnkaaGreatDoorBy01
import Derived.Test.YtifgiclnofdnkaaGreatDoorBy20
import Derived.Test.YtifgiclnofdnkaaGreatDoorBy17
import Derived.Test.YtifgiclnofdnkaaGreatDoorBy02
import Derived.Test.YtifgiclnofdnkaaGreatDoorBy07
import Derived.Test.YtifgiclnofdnkaaGreatDoorBy08
set_option linter.unusedVariables false
set_option linter.unusedSimpArgs false
namespace Go.Proofs.YtifgiclnofdnkaaGreatDoor
open Go.RowKit Go.Sort
namespace St
def sec (y m d h i s : Int) : Int := Cal.num y m d * 86400 + h * 3600 + i * 60 + s
end St
set_option maxHeartbeats 2000000 in
theorem ssecs_yes (y m d h i s : Int) (w : World) (hr : St.rB y m d h i s = true) :
  Calls Tryz.prog 66 #[.agg #[.int .i64 y, .int .i64 m, .int .i64 d, .int .i64 h, .int .i64 i, .int .i64 s]] w fun e w' => e = .returned (.tuple #[.int .i64 (St.sec y m d h i s), .int .i64 0]) ∧ Below w.heap.size w w' := by
 have CR : Hid (∀ W, Calls Tryz.prog 48 #[.agg #[.int .i64 y, .int .i64 m, .int .i64 d, .int .i64 h, .int .i64 i, .int .i64 s]] W fun e w' => e = .returned (.bool true) ∧ Below W.heap.size W w') := fun W => hr ▸ sright_any y m d h i s W
 obtain ⟨hR, h0, h1, i0, i1, s0, s1⟩ := St.rB_true.1 hr
 have CD : Hid (∀ W, Calls Tryz.prog 95 #[.agg #[.int .i64 y, .int .i64 m, .int .i64 d]] W fun e w' => e = .returned (.tuple #[.int .i64 (Cal.num y m d), .int .i64 0]) ∧ Below W.heap.size W w') := fun W => by
  have := days_any y m d W
  rw [hR] at this
  exact this
 have nb := Cal.num_range (right_true.1 hR)
 unfold St.sec
 generalize Cal.num y m d = n at *
 obtain ⟨n0, n1⟩ := nb
 clear hr hR
 go_enter Tryz.func66, Tryz.ntmps66
 go_wp2_with fail
 refine (CR.out _).mono ?_; rintro e w1 ⟨rfl, b1⟩
 have d1 : Below w.heap.size w w1 := below_step gr0 b1
 have B1 := Lib.hid d1
 have X1 : Bk6 w1 (w.heap.size) (.int .i64 y) (.int .i64 m) (.int .i64 d) (.int .i64 h) (.int .i64 i) (.int .i64 s) := by refine Bk6.of b1 (by simp <;> omega) (by intro j; simp [go_sem]) ?_ ?_ ?_ ?_ ?_ ?_ <;> simp [go_sem]
 clear b1 d1
 have tx := X1; obtain ⟨cX_b, cX_f, cX_0, cX_1, cX_2, cX_3, cX_4, cX_5⟩ := tx
 go_wp2_with fail
 clear cX_b cX_f cX_0 cX_1 cX_2 cX_3 cX_4 cX_5
 refine (CD.out _).mono ?_; rintro e w2 ⟨rfl, b2⟩
 have d2 : Below w1.heap.size w1 w2 := below_step gr0 b2
 have B2 := Lib.hid (below_step B1.out d2)
 have X2 := X1.keep d2
 clear X1 b2 d2 B1
 have tx := X2; obtain ⟨cX_b, cX_f, cX_0, cX_1, cX_2, cX_3, cX_4, cX_5⟩ := tx
 go_wp2_with fail
 clear cX_b cX_f cX_0 cX_1 cX_2 cX_3 cX_4 cX_5
 go_ret2
 exact ⟨rfl, (grB B2)⟩
theorem sread_form (s : ByteArray) (hs : s.size ≤ maxLen) (h : Rd.form s.data.toList = false) (w : World) :
  Calls Tryz.prog 64 #[.string s] w fun e w' => e = .returned (.tuple #[.agg #[.int .i64 0, .int .i64 0, .int .i64 0, .int .i64 0, .int .i64 0, .int .i64 0], .int .i64 4]) ∧ Below w.heap.size w w' := by
 by_cases h15 : s.size < 15
 ·
  exact sread_short s w h15
 ·
  unfold Rd.form at h
  rw [bl_len, decide_eq_true (show 15 ≤ s.size by omega), Bool.true_and] at h
  cases hy : Rd.isY (Rd.hd s.data.toList)
  ·
   exact sread_noyear s w hs (by omega) hy
  ·
   rw [hy, Bool.true_and] at h
   exact sread_nobeh s w hs (by omega) hy h
theorem form_iff {s : ByteArray} : Rd.form s.data.toList = true ↔ 15 ≤ s.size ∧ Rd.isY (Rd.hd s.data.toList) = true ∧ Rd.bOk (Rd.tl s.data.toList) = true := by
 unfold Rd.form
 rw [bl_len, Bool.and_eq_true, Bool.and_eq_true, decide_eq_true_eq]
theorem sread_range (s : ByteArray) (hs : s.size ≤ maxLen) (h : Rd.form s.data.toList = true) (h2 : Rd.ok s.data.toList = false) (w : World) :
  Calls Tryz.prog 64 #[.string s] w fun e w' => e = .returned (.tuple #[.agg #[.int .i64 0, .int .i64 0, .int .i64 0, .int .i64 0, .int .i64 0, .int .i64 0], .int .i64 1]) ∧ Below w.heap.size w w' := by
 obtain ⟨a, b, c⟩ := form_iff.1 h
 unfold Rd.ok at h2
 rw [h, Bool.true_and] at h2
 cases hl : Rd.yl (Rd.hd s.data.toList)
 ·
  exact sread_long s w hs a b c hl
 ·
  rw [hl, Bool.true_and] at h2
  exact sread_wrong s w hs a b c hl h2
theorem sread_ok (s : ByteArray) (hs : s.size ≤ maxLen) (h : Rd.ok s.data.toList = true) (w : World) :
  Calls Tryz.prog 64 #[.string s] w fun e w' => e = .returned (.tuple #[.agg #[.int .i64 (Rd.yv (Rd.hd s.data.toList)), .int .i64 (Rd.pV (Rd.tl s.data.toList) 0), .int .i64 (Rd.pV (Rd.tl s.data.toList) 1), .int .i64 (Rd.pV (Rd.tl s.data.toList) 2), .int .i64 (Rd.pV (Rd.tl s.data.toList) 3), .int .i64 (Rd.pV (Rd.tl s.data.toList) 4)], .int .i64 0]) ∧ Below w.heap.size w w' := by
 unfold Rd.ok at h
 rw [Bool.and_eq_true, Bool.and_eq_true] at h
 obtain ⟨h1, h2, h3⟩ := h
 obtain ⟨a, b, c⟩ := form_iff.1 h1
 exact sread_right s w hs a b c h2 h3
end Go.Proofs.YtifgiclnofdnkaaGreatDoor
set_option linter.unusedVariables false
set_option linter.unusedSimpArgs false
namespace Go.Proofs.YtifgiclnofdnkaaGreatDoor
open Go.RowKit
namespace Rd
def rv (t : List UInt8) : Value := if form t then (if ok t then .tuple #[.agg #[.int .i64 (yv (hd t)), .int .i64 (pV (tl t) 0), .int .i64 (pV (tl t) 1), .int .i64 (pV (tl t) 2), .int .i64 (pV (tl t) 3), .int .i64 (pV (tl t) 4)], .int .i64 0] else .tuple #[.agg #[.int .i64 0, .int .i64 0, .int .i64 0, .int .i64 0, .int .i64 0, .int .i64 0], .int .i64 1]) else .tuple #[.agg #[.int .i64 0, .int .i64 0, .int .i64 0, .int .i64 0, .int .i64 0, .int .i64 0], .int .i64 4]
end Rd
theorem rsread_any (s : ByteArray) (w : World) (hm : s.size ≤ 1000) :
  Calls Tryz.prog 69 #[.string s] w fun e w' => e = .returned (Rd.rv s.data.toList) ∧ Below w.heap.size w w' := by
 have e : s.data.toList.length = s.size := Num.rn_len s
 by_cases hs : 15 ≤ s.size
 ·
  have hH : (s.extract 0 (s.size - 15)).data.toList = Rd.hd s.data.toList := by
   rw [rf_list, List.drop_zero]; unfold Rd.hd; rw [e]
  have zH : (s.extract 0 (s.size - 15)).size ≤ 1000 := by rw [ByteArray.size_extract]; omega
  have CY : Hid (∀ W, Calls Tryz.prog 99 #[.string (s.extract 0 (s.size - 15))] W fun e w' => e = .returned (.tuple #[.int .i64 (Rd.y4 (Rd.hd s.data.toList)).1, .int .i64 (Rd.y4 (Rd.hd s.data.toList)).2]) ∧ W = w') := fun W => by
   rw [← hH]; exact ry4_any _ W zH
  have hf : Rd.form s.data.toList = (Rd.isY (Rd.hd s.data.toList) && Rd.bOk (Rd.tl s.data.toList)) := by
   unfold Rd.form; rw [e, decide_eq_true hs, Bool.true_and]
  refine rsread_main s _ _ _ w hs hm CY ?_ ?_ ?_ ?_
  ·
   intro hb
   unfold Rd.rv; rw [hf, hb, Bool.and_false]; rfl
  ·
   intro hb hy
   unfold Rd.rv; rw [hf, hb, Bool.and_true]
   unfold Rd.y4 at hy ⊢
   cases hY : Rd.isY (Rd.hd s.data.toList)
   ·
    rfl
   ·
    rw [hY] at hy
    have ho : Rd.ok s.data.toList = (Rd.yl (Rd.hd s.data.toList) && St.rB (Rd.yv (Rd.hd s.data.toList)) (Rd.pV (Rd.tl s.data.toList) 0) (Rd.pV (Rd.tl s.data.toList) 1) (Rd.pV (Rd.tl s.data.toList) 2) (Rd.pV (Rd.tl s.data.toList) 3) (Rd.pV (Rd.tl s.data.toList) 4)) := by unfold Rd.ok; rw [hf, hY, hb]; rfl
    cases hl : Rd.yl (Rd.hd s.data.toList)
    ·
     rw [ho, hl]; rfl
    ·
     rw [hl] at hy; exact absurd hy (by simp)
  ·
   intro hb hy hr
   unfold Rd.rv; rw [hf, hb, Bool.and_true]
   unfold Rd.y4 at hy hr
   cases hY : Rd.isY (Rd.hd s.data.toList)
   ·
    rw [hY] at hy; exact absurd hy (by simp)
   ·
    rw [hY] at hy hr
    have ho : Rd.ok s.data.toList = (Rd.yl (Rd.hd s.data.toList) && St.rB (Rd.yv (Rd.hd s.data.toList)) (Rd.pV (Rd.tl s.data.toList) 0) (Rd.pV (Rd.tl s.data.toList) 1) (Rd.pV (Rd.tl s.data.toList) 2) (Rd.pV (Rd.tl s.data.toList) 3) (Rd.pV (Rd.tl s.data.toList) 4)) := by unfold Rd.ok; rw [hf, hY, hb]; rfl
    cases hl : Rd.yl (Rd.hd s.data.toList)
    ·
     rw [hl] at hy; exact absurd hy (by simp)
    ·
     rw [hl] at hr
     rw [ho, hl]
     have hr' : St.rB (Rd.yv (Rd.hd s.data.toList)) (Rd.pV (Rd.tl s.data.toList) 0) (Rd.pV (Rd.tl s.data.toList) 1) (Rd.pV (Rd.tl s.data.toList) 2) (Rd.pV (Rd.tl s.data.toList) 3) (Rd.pV (Rd.tl s.data.toList) 4) = false := hr
     rw [hr']; rfl
  ·
   intro hb hy hr
   unfold Rd.rv; rw [hf, hb, Bool.and_true]
   unfold Rd.y4 at hy hr ⊢
   cases hY : Rd.isY (Rd.hd s.data.toList)
   ·
    rw [hY] at hy; exact absurd hy (by simp)
   ·
    rw [hY] at hy hr
    have ho : Rd.ok s.data.toList = (Rd.yl (Rd.hd s.data.toList) && St.rB (Rd.yv (Rd.hd s.data.toList)) (Rd.pV (Rd.tl s.data.toList) 0) (Rd.pV (Rd.tl s.data.toList) 1) (Rd.pV (Rd.tl s.data.toList) 2) (Rd.pV (Rd.tl s.data.toList) 3) (Rd.pV (Rd.tl s.data.toList) 4)) := by unfold Rd.ok; rw [hf, hY, hb]; rfl
    cases hl : Rd.yl (Rd.hd s.data.toList)
    ·
     rw [hl] at hy; exact absurd hy (by simp)
    ·
     rw [hl] at hr
     rw [ho, hl]
     have hr' : St.rB (Rd.yv (Rd.hd s.data.toList)) (Rd.pV (Rd.tl s.data.toList) 0) (Rd.pV (Rd.tl s.data.toList) 1) (Rd.pV (Rd.tl s.data.toList) 2) (Rd.pV (Rd.tl s.data.toList) 3) (Rd.pV (Rd.tl s.data.toList) 4) = true := hr
     rw [hr']; rfl
 ·
  have hf : Rd.form s.data.toList = false := by unfold Rd.form; rw [e, decide_eq_false hs]; rfl
  unfold Rd.rv
  rw [hf]
  exact rsread_short s w (by omega)
theorem sread_rv (s : ByteArray) (w : World) (hm : s.size ≤ 1000) :
  Calls Tryz.prog 64 #[.string s] w fun e w' => e = .returned (Rd.rv s.data.toList) ∧ Below w.heap.size w w' := by
 have hs : s.size ≤ maxLen := by unfold maxLen; omega
 unfold Rd.rv
 cases hf : Rd.form s.data.toList
 ·
  exact sread_form s hs hf w
 ·
  cases ho : Rd.ok s.data.toList
  ·
   exact sread_range s hs hf ho w
  ·
   exact sread_ok s hs ho w
set_option maxHeartbeats 2000000 in
theorem rssecs_yes (y m d h i s : Int) (w : World) (hr : St.rB y m d h i s = true) :
  Calls Tryz.prog 70 #[.agg #[.int .i64 y, .int .i64 m, .int .i64 d, .int .i64 h, .int .i64 i, .int .i64 s]] w fun e w' => e = .returned (.tuple #[.int .i64 (St.sec y m d h i s), .int .i64 0]) ∧ Below w.heap.size w w' := by
 have CR : Hid (∀ W, Calls Tryz.prog 55 #[.agg #[.int .i64 y, .int .i64 m, .int .i64 d, .int .i64 h, .int .i64 i, .int .i64 s]] W fun e w' => e = .returned (.bool true) ∧ Below W.heap.size W w') := fun W => hr ▸ rsright_any y m d h i s W
 obtain ⟨hR, h0, h1, i0, i1, s0, s1⟩ := St.rB_true.1 hr
 have CD : Hid (∀ W, Calls Tryz.prog 100 #[.agg #[.int .i64 y, .int .i64 m, .int .i64 d]] W fun e w' => e = .returned (.tuple #[.int .i64 (Cal.num y m d), .int .i64 0]) ∧ Below W.heap.size W w') := fun W => rdays_yes y m d W hR
 have nb := Cal.num_range (right_true.1 hR)
 unfold St.sec
 generalize Cal.num y m d = n at *
 obtain ⟨n0, n1⟩ := nb
 clear hr hR
 go_enter Tryz.func70, Tryz.ntmps70
 go_wp2_with fail
 refine (CR.out _).mono ?_; rintro e w1 ⟨rfl, b1⟩
 have d1 : Below w.heap.size w w1 := below_step gr0 b1
 have B1 := Lib.hid d1
 have X1 : Bk6 w1 (w.heap.size) (.int .i64 y) (.int .i64 m) (.int .i64 d) (.int .i64 h) (.int .i64 i) (.int .i64 s) := by refine Bk6.of b1 (by simp <;> omega) (by intro j; simp [go_sem]) ?_ ?_ ?_ ?_ ?_ ?_ <;> simp [go_sem]
 clear b1 d1
 have tx := X1; obtain ⟨cX_b, cX_f, cX_0, cX_1, cX_2, cX_3, cX_4, cX_5⟩ := tx
 go_wp2_with fail
 clear cX_b cX_f cX_0 cX_1 cX_2 cX_3 cX_4 cX_5
 refine (CD.out _).mono ?_; rintro e w2 ⟨rfl, b2⟩
 have d2 : Below w1.heap.size w1 w2 := below_step gr0 b2
 have B2 := Lib.hid (below_step B1.out d2)
 have X2 := X1.keep d2
 clear X1 b2 d2 B1
 have tx := X2; obtain ⟨cX_b, cX_f, cX_0, cX_1, cX_2, cX_3, cX_4, cX_5⟩ := tx
 go_wp2_with fail
 clear cX_b cX_f cX_0 cX_1 cX_2 cX_3 cX_4 cX_5
 go_ret2
 exact ⟨rfl, (grB B2)⟩
end Go.Proofs.YtifgiclnofdnkaaGreatDoor
set_option linter.unusedVariables false
set_option linter.unusedSimpArgs false
namespace Go.Proofs.YtifgiclnofdnkaaGreatDoor
namespace Wd
end Wd
namespace Qy
abbrev Q := Int × List UInt8 × Int × Int × Int × Int
def Q0 : Q := (0, [], 0, 0, 0, 0)
def heads : List ByteArray := [⟨#[115, 121, 115]⟩, ⟨#[108, 111, 99, 97, 108]⟩, ⟨#[116, 111]⟩, ⟨#[97, 116]⟩, ⟨#[97, 100, 100]⟩, ⟨#[110, 97, 109, 101, 115]⟩, ⟨#[99, 111, 117, 110, 116]⟩]
def units : List ByteArray := [⟨#[121, 101, 97, 114, 115]⟩, ⟨#[109, 111, 110, 116, 104, 115]⟩, ⟨#[100, 97, 121, 115]⟩, ⟨#[115, 101, 99, 115]⟩]
def pols : List ByteArray := [⟨#[101, 97, 114, 108, 121]⟩, ⟨#[108, 97, 116, 101]⟩, ⟨#[114, 101, 106, 101, 99, 116]⟩]
def word (l : List ByteArray) (n : Int) : List UInt8 := if 1 ≤ n ∧ n ≤ l.length then (l.getD (n - 1).toNat ⟨#[]⟩).data.toList else []
def isT (s : List UInt8) : Bool := decide (9 ≤ s.length) && decide (s.getD (s.length - 9) 0 = 84)
def rs (s : List UInt8) : Int × Int := if Rd.form s then (if Rd.ok s then (St.sec (Rd.yv (Rd.hd s)) (Rd.pV (Rd.tl s) 0) (Rd.pV (Rd.tl s) 1) (Rd.pV (Rd.tl s) 2) (Rd.pV (Rd.tl s) 3) (Rd.pV (Rd.tl s) 4), 0) else (0, 1)) else (0, 4)
def sc (s : List UInt8) : Int × Int := if isT s then rs s else Num.rd s
def fst : List Int → Int
 | [] => 0
 | x :: r => if x ≠ 0 then x else fst r
def fin (w : List Int) (q : Q) : Q × Int := if fst w = 0 then (q, 0) else (Q0, fst w)
def yr (n : Int) : Prop := -32767 ≤ n ∧ n ≤ 32767
instance (n : Int) : Decidable (yr n) := by unfold yr; infer_instance
def rdK (k : Int) (r : List (List UInt8)) : Q × Int :=
 if k = 6 then (match r with
  | [] => ((6, [], 0, 0, 0, 0), 0)
  | _ => (Q0, 6))
 else if k = 1 ∨ k = 2 ∨ k = 4 then (match r with
  | [z, s] => fin [Lk.nm z, (sc s).2] (k, z, (sc s).1, 0, 0, 0)
  | l => (Q0, if l.length < 2 then 5 else 6))
 else if k = 3 then (match r with
  | [z, s, p] => fin [Lk.nm z, (sc s).2, (Wd.mat p pols).2] (k, z, (sc s).1, 0, 0, (Wd.mat p pols).1 + 1)
  | l => (Q0, if l.length < 3 then 5 else 6))
 else if k = 5 then (match r with
  | [z, s, n, u, p] => fin [Lk.nm z, (sc s).2, (Num.rd n).2, (Wd.mat u units).2, (Wd.mat p pols).2] (k, z, (sc s).1, (Num.rd n).1, (Wd.mat u units).1 + 1, (Wd.mat p pols).1 + 1)
  | l => (Q0, if l.length < 5 then 5 else 6))
 else (match r with
  | [z, a, b] => fin [Lk.nm z, (Num.rd a).2, (Num.rd b).2, (if yr (Num.rd a).1 ∧ yr (Num.rd b).1 then 0 else 1), (if (Num.rd a).1 ≤ (Num.rd b).1 then 0 else 14)] (k, z, (Num.rd a).1, (Num.rd b).1, 0, 0)
  | l => (Q0, if l.length < 3 then 5 else 6))
def rdF : List (List UInt8) → Q × Int
 | [] => (Q0, 0)
 | h :: r => if (Wd.mat h heads).2 ≠ 0 then (Q0, (Wd.mat h heads).2) else rdK ((Wd.mat h heads).1 + 1) r
theorem rdF_cons (h : List UInt8) (r : List (List UInt8)) : rdF (h :: r) = if (Wd.mat h heads).2 ≠ 0 then (Q0, (Wd.mat h heads).2) else rdK ((Wd.mat h heads).1 + 1) r := rfl
def rd (s : List UInt8) : Q × Int := if Ln.chk s ≠ 0 then (Q0, Ln.chk s) else if (Fd.of s).2 ≠ 0 then (Q0, (Fd.of s).2) else rdF (Fd.of s).1
def right : Q → Prop
 | (k, z, t, n, u, p) => (k = 0 ∧ z = [] ∧ t = 0 ∧ n = 0 ∧ u = 0 ∧ p = 0) ∨ (k = 6 ∧ z = [] ∧ t = 0 ∧ n = 0 ∧ u = 0 ∧ p = 0) ∨
  ((k = 1 ∨ k = 2 ∨ k = 4) ∧ Lk.nm z = 0 ∧ n = 0 ∧ u = 0 ∧ p = 0) ∨ (k = 3 ∧ Lk.nm z = 0 ∧ n = 0 ∧ u = 0 ∧ 1 ≤ p ∧ p ≤ 3) ∨
  (k = 5 ∧ Lk.nm z = 0 ∧ (1 ≤ u ∧ u ≤ 4) ∧ 1 ≤ p ∧ p ≤ 3) ∨ (k = 7 ∧ Lk.nm z = 0 ∧ u = 0 ∧ p = 0 ∧ yr t ∧ yr n ∧ t ≤ n)
instance (q : Q) : Decidable (right q) := by unfold right; infer_instance
def parts : Q → List (List UInt8)
 | (k, z, t, n, u, p) => if k = 1 ∨ k = 2 ∨ k = 4 then [word heads k, z, Lib.itoa t] else if k = 3 then [word heads k, z, Lib.itoa t, word pols p]
  else if k = 5 then [word heads k, z, Lib.itoa t, Lib.itoa n, word units u, word pols p] else if k = 7 then [word heads k, z, Lib.itoa t, Lib.itoa n] else [word heads k]
def sr : List (List UInt8) → List UInt8
 | [] => []
 | x :: r => 32 :: (x ++ sr r)
def sj : List (List UInt8) → List UInt8
 | [] => []
 | x :: r => x ++ sr r
def tx (q : Q) : List UInt8 × Int := if right q then (sj (parts q), 0) else ([], 4)
theorem jr_sr : ∀ (l : List (List UInt8)) (acc : List UInt8) (k : Nat), (∀ x ∈ l, Fd.tx x = (x, 0)) → Fd.jr acc (k + 1) l = (acc ++ sr l, 0)
 | [], acc, k, _ => by show (acc, (0 : Int)) = _; rw [show sr [] = [] from rfl, List.append_nil]
 | x :: l, acc, k, h => by
  have hx := h x (List.mem_cons_self ..)
  rw [Fd.jr_next _ _ _ _ (by rw [hx]), jr_sr l _ _ (fun y hy => h y (List.mem_cons_of_mem _ hy)), hx, if_neg (by omega)]
  show (acc ++ ([32] ++ x) ++ sr l, (0 : Int)) = (acc ++ (32 :: (x ++ sr l)), 0)
  simp
theorem jn_sj (l : List (List UInt8)) (h : ∀ x ∈ l, Fd.tx x = (x, 0)) (hl : l.length ≤ 16) : Fd.jn l = (sj l, 0) := by
 unfold Fd.jn
 rw [if_neg (by omega)]
 match l, h with
 | [], _ => rfl
 | x :: l, h =>
  have hx := h x (List.mem_cons_self ..)
  rw [Fd.jr_next _ _ _ _ (by rw [hx]), jr_sr l _ _ (fun y hy => h y (List.mem_cons_of_mem _ hy)), hx, if_pos rfl]
  rfl
theorem of_sj (l : List (List UInt8)) (h : ∀ x ∈ l, Fd.tx x = (x, 0)) (hl : l.length ≤ 16) : Fd.of (sj l) = (l, 0) := Fd.of_jn _ _ (jn_sj l h hl)
theorem tx_pl (l : List UInt8) (hne : l ≠ []) (g : ∀ c ∈ l, Fd.mkB c = false ∧ c ≠ 34) : Fd.tx l = (l, 0) := by
 unfold Fd.tx
 rw [if_neg, if_neg]
 ·
  rintro (e | e)
  ·
   exact hne e
  ·
   obtain ⟨c, hc, hb⟩ := List.any_eq_true.1 e
   rw [(g c hc).1] at hb; cases hb
 ·
  intro e
  have : (34 : UInt8) ∈ l := by simpa using e
  exact (g _ this).2 rfl
theorem gn_all (c : UInt8) (h : Lk.gnB c = true) : Fd.mkB c = false ∧ c ≠ 34 ∧ Ln.okB c = true := by
 have H : ∀ n : Fin 256, Lk.gnB (UInt8.ofNat n.1) = true → Fd.mkB (UInt8.ofNat n.1) = false ∧ UInt8.ofNat n.1 ≠ 34 ∧ Ln.okB (UInt8.ofNat n.1) = true := by decide +kernel
 have := H ⟨c.toNat, c.toNat_lt⟩
 simp only [UInt8.ofNat_toNat] at this
 exact this h
theorem nm_ok {z : List UInt8} (h : Lk.nm z = 0) : z.length ≤ 64 ∧ z ≠ [] ∧ ∀ c ∈ z, Lk.gnB c = true := by
 unfold Lk.nm at h
 by_cases hl : 64 < z.length
 ·
  rw [if_pos hl] at h; cases h
 ·
  rw [if_neg hl] at h
  by_cases hi : Lk.isN z = true
  ·
   refine ⟨by omega, ?_, ?_⟩
   ·
    rintro rfl; cases hi
   ·
    unfold Lk.isN at hi
    rw [Bool.and_eq_true] at hi
    exact List.all_eq_true.1 hi.1
  ·
   rw [if_neg hi] at h; cases h
def Pt (m : Nat) (x : List UInt8) : Prop := Fd.tx x = (x, 0) ∧ x.length ≤ m ∧ x.all Ln.okB = true
theorem pt_name {z : List UInt8} (h : Lk.nm z = 0) : Pt 64 z := by
 obtain ⟨a, b, c⟩ := nm_ok h
 exact ⟨tx_pl z b (fun x hx => ⟨(gn_all x (c x hx)).1, (gn_all x (c x hx)).2.1⟩), a, List.all_eq_true.2 (fun x hx => (gn_all x (c x hx)).2.2)⟩
theorem pt_num {n : Int} (h : An.bd n) : Pt 64 (Lib.itoa n) := by
 refine ⟨An.tx_num n, Nat.le_trans (Lib.itoa_length_le n h.1 h.2) (by decide), List.all_eq_true.2 (fun c hc => ?_)⟩
 rcases An.itoa_ch n c hc with rfl | hd
 ·
  decide
 ·
  have hd : 48 ≤ c.toNat ∧ c.toNat ≤ 57 := by simpa [Num.dig] using hd
  unfold Ln.okB
  simp; omega
theorem pt_head {k : Int} (h1 : 1 ≤ k) (h2 : k ≤ 7) : Pt 64 (word heads k) ∧ Wd.mat (word heads k) heads = (k - 1, 0) := by
 obtain rfl | rfl | rfl | rfl | rfl | rfl | rfl : k = 1 ∨ k = 2 ∨ k = 3 ∨ k = 4 ∨ k = 5 ∨ k = 6 ∨ k = 7 := by omega
 all_goals exact ⟨⟨by decide +kernel, by decide +kernel, by decide +kernel⟩, by decide +kernel⟩
theorem pt_unit {k : Int} (h1 : 1 ≤ k) (h2 : k ≤ 4) : Pt 64 (word units k) ∧ Wd.mat (word units k) units = (k - 1, 0) := by
 obtain rfl | rfl | rfl | rfl : k = 1 ∨ k = 2 ∨ k = 3 ∨ k = 4 := by omega
 all_goals exact ⟨⟨by decide +kernel, by decide +kernel, by decide +kernel⟩, by decide +kernel⟩
theorem pt_pol {k : Int} (h1 : 1 ≤ k) (h2 : k ≤ 3) : Pt 64 (word pols k) ∧ Wd.mat (word pols k) pols = (k - 1, 0) := by
 obtain rfl | rfl | rfl : k = 1 ∨ k = 2 ∨ k = 3 := by omega
 all_goals exact ⟨⟨by decide +kernel, by decide +kernel, by decide +kernel⟩, by decide +kernel⟩
theorem sr_pt : ∀ (l : List (List UInt8)), (∀ x ∈ l, Pt 64 x) → (sr l).length ≤ 65 * l.length ∧ (sr l).all Ln.okB = true
 | [], _ => ⟨Nat.le_refl _, rfl⟩
 | x :: l, h => by
  obtain ⟨a, b⟩ := sr_pt l (fun y hy => h y (List.mem_cons_of_mem _ hy))
  have hx := h x (List.mem_cons_self ..)
  refine ⟨?_, ?_⟩
  ·
   show (32 :: (x ++ sr l)).length ≤ _
   have := hx.2.1
   simp only [List.length_cons, List.length_append]; omega
  ·
   show (32 :: (x ++ sr l)).all Ln.okB = true
   rw [List.all_cons, List.all_append, hx.2.2, b]; decide
theorem rd_sj (l : List (List UInt8)) (h : ∀ x ∈ l, Pt 64 x) (hl : l.length ≤ 6) : rd (sj l) = rdF l := by
 have hc : Ln.chk (sj l) = 0 := by
  match l, h, hl with
  | [], _, _ => rfl
  | x :: l, h, hl =>
   obtain ⟨a, b⟩ := sr_pt l (fun y hy => h y (List.mem_cons_of_mem _ hy))
   have hx := h x (List.mem_cons_self ..)
   have := hx.2.1
   simp only [List.length_cons] at hl
   unfold Ln.chk
   rw [if_neg, if_pos]
   ·
    show (x ++ sr l).all Ln.okB = true
    rw [List.all_append, hx.2.2, b]; rfl
   ·
    show ¬ 511 < (x ++ sr l).length
    rw [List.length_append]; omega
 unfold rd
 rw [if_neg (by simp [hc]), of_sj l (fun x hx => (h x hx).1) (by omega), if_neg (by simp)]
theorem sc_num {n : Int} (h : An.bd n) : sc (Lib.itoa n) = (n, 0) := by
 have ht : isT (Lib.itoa n) = false := by
  unfold isT
  by_cases hl : 9 ≤ (Lib.itoa n).length
  ·
   have hg : (Lib.itoa n).getD ((Lib.itoa n).length - 9) 0 ≠ 84 := by
    have hi : (Lib.itoa n).length - 9 < (Lib.itoa n).length := by omega
    rw [List.getD_eq_getElem?_getD, List.getElem?_eq_getElem hi, Option.getD_some]
    intro e
    rcases An.itoa_ch n _ (List.getElem_mem hi) with h1 | h1
    ·
     rw [e] at h1; revert h1; decide
    ·
     rw [e] at h1; revert h1; decide
   rw [decide_eq_false hg, Bool.and_false]
  ·
   rw [decide_eq_false hl, Bool.false_and]
 unfold sc
 rw [ht]
 exact An.rd_num h.1 h.2
theorem fin_yes {w : List Int} {q : Q} (h : fst w = 0) : fin w q = (q, 0) := if_pos h
theorem back (q : Q) (ht : An.bd q.2.2.1) (hn : An.bd q.2.2.2.1) (h : right q) : rd (sj (parts q)) = (q, 0) := by
 obtain ⟨k, z, t, n, u, p⟩ := q
 have ht : An.bd t := ht
 have hn : An.bd n := hn
 rcases h with ⟨rfl, rfl, rfl, rfl, rfl, rfl⟩ | ⟨rfl, rfl, rfl, rfl, rfl, rfl⟩ | ⟨hk, hz, rfl, rfl, rfl⟩ | ⟨rfl, hz, rfl, rfl, p0, p1⟩ | ⟨rfl, hz, ⟨u0, u1⟩, p0, p1⟩ | ⟨rfl, hz, rfl, rfl, y0, y1, y2⟩
 ·
  decide +kernel
 ·
  decide +kernel
 ·
  obtain ⟨a, b⟩ := pt_head (k := k) (by omega) (by omega)
  have e : parts (k, z, t, 0, 0, 0) = [word heads k, z, Lib.itoa t] := if_pos hk
  rw [e, rd_sj _ (by intro x hx; simp at hx; rcases hx with rfl | rfl | rfl; exact a; exact pt_name hz; exact pt_num ht) (by simp), rdF_cons, b, if_neg (by simp)]
  show rdK (k - 1 + 1) _ = _
  rw [show k - 1 + 1 = k by omega]
  unfold rdK
  rw [if_neg (by omega), if_pos hk]
  show fin [Lk.nm z, (sc (Lib.itoa t)).2] (k, z, (sc (Lib.itoa t)).1, 0, 0, 0) = _
  rw [sc_num ht, hz]
  exact fin_yes rfl
 ·
  obtain ⟨a, b⟩ := pt_head (k := 3) (by omega) (by omega)
  obtain ⟨c, d⟩ := pt_pol p0 p1
  have e : parts (3, z, t, 0, 0, p) = [word heads 3, z, Lib.itoa t, word pols p] := rfl
  rw [e, rd_sj _ (by intro x hx; simp at hx; rcases hx with rfl | rfl | rfl | rfl; exact a; exact pt_name hz; exact pt_num ht; exact c) (by simp), rdF_cons, b, if_neg (by simp)]
  show fin [Lk.nm z, (sc (Lib.itoa t)).2, (Wd.mat (word pols p) pols).2] (3, z, (sc (Lib.itoa t)).1, 0, 0, (Wd.mat (word pols p) pols).1 + 1) = _
  rw [sc_num ht, hz, d]
  rw [fin_yes rfl]
  show ((3, z, t, 0, 0, p - 1 + 1), (0 : Int)) = _
  rw [show p - 1 + 1 = p by omega]
 ·
  obtain ⟨a, b⟩ := pt_head (k := 5) (by omega) (by omega)
  obtain ⟨c, d⟩ := pt_pol p0 p1
  obtain ⟨f, g⟩ := pt_unit u0 u1
  have e : parts (5, z, t, n, u, p) = [word heads 5, z, Lib.itoa t, Lib.itoa n, word units u, word pols p] := rfl
  rw [e, rd_sj _ (by intro x hx; simp at hx; rcases hx with rfl | rfl | rfl | rfl | rfl | rfl; exact a; exact pt_name hz; exact pt_num ht; exact pt_num hn; exact f; exact c) (by simp), rdF_cons, b, if_neg (by simp)]
  show fin [Lk.nm z, (sc (Lib.itoa t)).2, (Num.rd (Lib.itoa n)).2, (Wd.mat (word units u) units).2, (Wd.mat (word pols p) pols).2] (5, z, (sc (Lib.itoa t)).1, (Num.rd (Lib.itoa n)).1, (Wd.mat (word units u) units).1 + 1, (Wd.mat (word pols p) pols).1 + 1) = _
  rw [sc_num ht, hz, d, g, An.rd_num hn.1 hn.2]
  rw [fin_yes rfl]
  show ((5, z, t, n, u - 1 + 1, p - 1 + 1), (0 : Int)) = _
  rw [show p - 1 + 1 = p by omega, show u - 1 + 1 = u by omega]
 ·
  obtain ⟨a, b⟩ := pt_head (k := 7) (by omega) (by omega)
  have e : parts (7, z, t, n, 0, 0) = [word heads 7, z, Lib.itoa t, Lib.itoa n] := rfl
  rw [e, rd_sj _ (by intro x hx; simp at hx; rcases hx with rfl | rfl | rfl | rfl; exact a; exact pt_name hz; exact pt_num ht; exact pt_num hn) (by simp), rdF_cons, b, if_neg (by simp)]
  show fin [Lk.nm z, (Num.rd (Lib.itoa t)).2, (Num.rd (Lib.itoa n)).2, (if yr (Num.rd (Lib.itoa t)).1 ∧ yr (Num.rd (Lib.itoa n)).1 then 0 else 1), (if (Num.rd (Lib.itoa t)).1 ≤ (Num.rd (Lib.itoa n)).1 then 0 else 14)] (7, z, (Num.rd (Lib.itoa t)).1, (Num.rd (Lib.itoa n)).1, 0, 0) = _
  rw [An.rd_num ht.1 ht.2, An.rd_num hn.1 hn.2, hz]
  dsimp only
  rw [if_pos ⟨y0, y1⟩, if_pos y2]
  exact fin_yes rfl
end Qy
end Go.Proofs.YtifgiclnofdnkaaGreatDoor

/- Joined: ErH, AmD. -/
import Derived.Test.YtpggfhmnhbnefaaGreatDoorBe19
import Derived.Test.YtpggfhmnhbnefaaGreatDoorBe20
import Derived.Test.YtpggfhmnhbnefaaGreatDoorBe01
import Derived.Test.YtpggfhmnhbnefaaGreatDoorBe08
import Derived.Test.YtpggfhmnhbnefaaGreatDoorBe04
import Derived.Lib.QuietBelow
set_option linter.unusedVariables false
set_option linter.unusedSimpArgs false
namespace Go.Proofs.YtpggfhmnhbnefaaGreatDoor
open Go.RowKit Go.Sort
namespace Er
structure E where
 off : Int
 kind : Int
 save : Int
 rs : ByteArray
 fm : ByteArray
 u : U
def E0 : E := ⟨0, 0, 0, ⟨#[]⟩, ⟨#[]⟩, U0⟩
def E.v (e : E) : Value := ev e.off e.kind e.save e.rs e.fm e.u
def rl (f0 f1 f2 : ByteArray) (r : List ByteArray) : E := ⟨(am 54000 f0).1, (rk f1).1, (rk f1).2.1, (rk f1).2.2, f2, enV r⟩
def rd : List ByteArray → E × Int
 | f0 :: f1 :: f2 :: r => if r.length ≤ 4 then (if Ru.fst (rdW f0 f1 f2 r) = 0 then (rl f0 f1 f2 r, 0) else (E0, Ru.fst (rdW f0 f1 f2 r))) else (E0, 6)
 | _ => (E0, 5)
theorem rd_other (l : List ByteArray) (h : l.length < 3 ∨ 7 < l.length) : rd l = (E0, if l.length < 3 then 5 else 6) := by
 match l, h with
 | [], _ => rfl
 | [_], _ => rfl
 | [_, _], _ => rfl
 | _ :: _ :: _ :: r, h =>
  have h1 : ¬ r.length ≤ 4 := by simp at h; omega
  simp [rd, h1]
theorem rd_some (f0 f1 f2 : ByteArray) (r : List ByteArray) (h : r.length ≤ 4) : rd (f0 :: f1 :: f2 :: r) = if Ru.fst (rdW f0 f1 f2 r) = 0 then (rl f0 f1 f2 r, 0) else (E0, Ru.fst (rdW f0 f1 f2 r)) := by simp [rd, h]
theorem rd_no (l : List ByteArray) (h : (rd l).2 ≠ 0) : (rd l).1 = E0 := by
 by_cases h9 : l.length < 3 ∨ 7 < l.length
 ·
  rw [rd_other _ h9]
 ·
  match l, h9, h with
  | [], h9, _ => simp at h9
  | [_], h9, _ => simp at h9
  | [_, _], h9, _ => simp at h9
  | f0 :: f1 :: f2 :: r, h9, h =>
   rw [rd_some f0 f1 f2 r (by simp at h9; omega)] at h ⊢
   by_cases h0 : Ru.fst (rdW f0 f1 f2 r) = 0
   ·
    rw [if_pos h0] at h; exact absurd rfl h
   ·
    rw [if_neg h0]
end Er
set_option maxRecDepth 100000 in
theorem erread1_other (p : Nat) (v : Value) (l : List ByteArray) (w : World) (hc : w.cell? ⟨p, 0, none⟩ = some v) (S : StS w v l) (hl : l.length < 3 ∨ (7 < l.length ∧ l.length ≤ 1000000)) :
  Calls Tryz.prog 61 #[.pointer (some ⟨p, 0, none⟩)] w fun e w' => Below w.heap.size w w' ∧ (Er.rd l).2 ≠ 0 ∧ e = .panicked (gvP (Er.rd l).2) := by
 obtain ⟨A, c, rfl, -⟩ := S
 have hp : p < w.heap.size := World.block_lt_of_cell? _ _ hc
 have n1 : p ≠ w.heap.size := Nat.ne_of_lt hp
 rw [Er.rd_other _ (by omega)]
 obtain ⟨N, hN⟩ : ∃ N, N = l.length := ⟨_, rfl⟩
 rw [← hN] at hl hc ⊢
 clear hN
 by_cases h : N < 3
 ·
  rw [if_pos h]
  have g : ¬ 3 ≤ (N : Int) := by omega
  clear h hl
  go_enter Tryz.func61, Tryz.ntmps61
  go_wp2_with fail
  try rw [show decide ((3 : Int) ≤ (N : Int)) = false from decide_eq_false (by omega)]
  refine (need_no 5 _).mono ?_; rintro e w1 ⟨rfl, rfl⟩
  refine (show bodyPost _ _ _ (Exit.panic (gvP 5)) _ _ from ?_)
  simp only [bodyPost]
  exact ⟨trivial, (Below.refl _ _).alloc (Nat.le_refl _) _, by decide, by first | rfl | trivial⟩
 ·
  rw [if_neg h]
  have h2 : 7 < N ∧ N ≤ 1000000 := by omega
  have g : 3 ≤ (N : Int) := by omega
  have g2 : ¬ (N : Int) ≤ 7 := by omega
  clear h hl
  go_enter Tryz.func61, Tryz.ntmps61
  go_wp2_with fail
  try rw [show decide ((3 : Int) ≤ (N : Int)) = true from decide_eq_true (by omega)]
  refine (need_yes 5 _).mono ?_; rintro e w1 ⟨rfl, rfl⟩
  go_wp2_with fail
  try rw [show decide ((N : Int) ≤ 7) = false from decide_eq_false (by omega)]
  refine (need_no 6 _).mono ?_; rintro e w1 ⟨rfl, rfl⟩
  refine (show bodyPost _ _ _ (Exit.panic (gvP 6)) _ _ from ?_)
  simp only [bodyPost]
  exact ⟨trivial, (Below.refl _ _).alloc (Nat.le_refl _) _, by decide, by first | rfl | trivial⟩
set_option maxHeartbeats 4000000 in
set_option maxRecDepth 100000 in
theorem erread1_some (p : Nat) (A : Option Addr) (n c : Nat) (f0 f1 f2 : ByteArray) (r : List ByteArray) (hr : r.length ≤ 4) (hnc : n ≤ c) (w : World) (hc : w.cell? ⟨p, 0, none⟩ = some (.slice A n c)) (S : StS w (.slice A n c) (f0 :: f1 :: f2 :: r)) (hz : ∀ x ∈ f0 :: f1 :: f2 :: r, x.size ≤ 600) (tp : TypeId) (pp : Value) (y : Int) (L : Ru.Lv w tp pp y) :
  Calls Tryz.prog 61 #[.pointer (some ⟨p, 0, none⟩)] w fun e w' => Below w.heap.size w w' ∧ ((Ru.fst (Er.rdW f0 f1 f2 r) = 0 ∧ e = .returned (Er.rl f0 f1 f2 r).v) ∨ (Ru.fst (Er.rdW f0 f1 f2 r) ≠ 0 ∧ e = .panicked (gvP (Ru.fst (Er.rdW f0 f1 f2 r))))) := by
 have hn : n = r.length + 3 := by have := S.len; simpa using this
 obtain ⟨q, hq⟩ : ∃ q, A = some q := by
  obtain ⟨A', c', hv, hA⟩ := S
  cases hv
  obtain ⟨q', e, -⟩ := hA (by simp)
  exact ⟨q', e⟩
 subst hq
 have RN := Lib.hid (fun W (b : Below w.heap.size w W) => erread_any q n c f0 f1 f2 r hr hn hnc W (S.on b) hz tp pp y (L.on b))
 have hp : p < w.heap.size := World.block_lt_of_cell? _ _ hc
 have n1 : p ≠ w.heap.size := Nat.ne_of_lt hp
 have g1 : 3 ≤ (n : Int) := by omega
 have g2 : (n : Int) ≤ 7 := by omega
 clear hz L S
 have hrl : Er.rdV f0 f1 f2 r = (Er.rl f0 f1 f2 r).v := rfl
 rw [hrl] at RN
 clear hrl
 generalize Ru.fst (Er.rdW f0 f1 f2 r) = F at *
 generalize Er.rl f0 f1 f2 r = R at *
 clear hr hnc hn
 obtain ⟨off, kind, save, rs, fm, ⟨h, yy, m, k, wk, d, sec, base⟩⟩ := R
 unfold Er.E.v Er.ev at RN ⊢
 go_enter Tryz.func61, Tryz.ntmps61
 go_wp2_with fail
 try rw [show decide ((3 : Int) ≤ (n : Int)) = true from decide_eq_true (by omega)]
 refine (need_yes 5 _).mono ?_; rintro e w1 ⟨rfl, rfl⟩
 go_wp2_with fail
 try rw [show decide ((n : Int) ≤ 7) = true from decide_eq_true (by omega)]
 refine (need_yes 6 _).mono ?_; rintro e w1 ⟨rfl, rfl⟩
 go_wp2_with fail
 refine (RN.out _ ((Below.refl _ _).alloc (Nat.le_refl _) _)).mono ?_; rintro e w1 ⟨b1, ⟨h0, rfl⟩ | ⟨h0, rfl⟩⟩
 ·
  subst h0
  have B1 := Lib.hid (below_step ((Below.refl _ _).alloc (Nat.le_refl _) _) b1)
  have Q1 : Bk13 w1 (w.heap.size) (.int .i64 0) (.int .i64 0) (.int .i64 0) (.string ⟨#[]⟩) (.string ⟨#[]⟩) (.bool false) (.int .i64 0) (.int .i64 0) (.int .i64 0) (.int .i64 0) (.int .i64 0) (.int .i64 0) (.int .i64 0) := Bk13.of b1 (by simp) (by intro j; simp [go_sem]) (by simp [go_sem]) (by simp [go_sem]) (by simp [go_sem]) (by simp [go_sem]) (by simp [go_sem]) (by simp [go_sem]) (by simp [go_sem]) (by simp [go_sem]) (by simp [go_sem]) (by simp [go_sem]) (by simp [go_sem]) (by simp [go_sem]) (by simp [go_sem])
  clear b1
  have q_b := Q1.hb; have q_f := Q1.fz; have q_0 := Q1.k0; have q_1 := Q1.k1; have q_2 := Q1.k2; have q_3 := Q1.k3; have q_4 := Q1.k4; have q_5 := Q1.k5; have q_6 := Q1.k6; have q_7 := Q1.k7; have q_8 := Q1.k8; have q_9 := Q1.k9; have q_10 := Q1.k10; have q_11 := Q1.k11; have q_12 := Q1.k12
  go_wp2_with fail
  obtain ⟨W9, hW9⟩ : ∃ W9, W9 = (((((((((((((w1.setCell ⟨w.heap.size, 0, none⟩ (.int .i64 off)).setCell ⟨w.heap.size, 1, none⟩ (.int .i64 kind)).setCell ⟨w.heap.size, 2, none⟩ (.int .i64 save)).setCell ⟨w.heap.size, 3, none⟩ (.string rs)).setCell ⟨w.heap.size, 4, none⟩ (.string fm)).setCell ⟨w.heap.size, 5, none⟩ (.bool h)).setCell ⟨w.heap.size, 6, none⟩ (.int .i64 yy)).setCell ⟨w.heap.size, 7, none⟩ (.int .i64 m)).setCell ⟨w.heap.size, 8, none⟩ (.int .i64 k)).setCell ⟨w.heap.size, 9, none⟩ (.int .i64 wk)).setCell ⟨w.heap.size, 10, none⟩ (.int .i64 d)).setCell ⟨w.heap.size, 11, none⟩ (.int .i64 sec)).setCell ⟨w.heap.size, 12, none⟩ (.int .i64 base)) := ⟨_, rfl⟩
  rw [← hW9]
  have C := set13 Q1 hW9
  have d9 := below_set13 B1.out (Nat.le_refl _) hW9
  clear hW9 Q1 q_b q_f q_0 q_1 q_2 q_3 q_4 q_5 q_6 q_7 q_8 q_9 q_10 q_11 q_12
  have e0 := C.k0; have e1 := C.k1; have e2 := C.k2; have e3 := C.k3; have e4 := C.k4; have e5 := C.k5; have e6 := C.k6; have e7 := C.k7; have e8 := C.k8; have e9 := C.k9; have e10 := C.k10; have e11 := C.k11; have e12 := C.k12
  clear C
  exact bodyPost_ret (v := .agg #[.int .i64 off, .int .i64 kind, .int .i64 save, .string rs, .string fm, .bool h, .int .i64 yy, .int .i64 m, .int .i64 k, .int .i64 wk, .int .i64 d, .int .i64 sec, .int .i64 base]) (by simp [results, Tryz.results61, go_sem, e0, e1, e2, e3, e4, e5, e6, e7, e8, e9, e10, e11, e12]) rfl ⟨d9, rfl⟩
 ·
  refine (show bodyPost _ _ _ (Exit.panic (gvP F)) _ _ from ?_)
  simp only [bodyPost]
  exact ⟨trivial, below_step ((Below.refl _ _).alloc (Nat.le_refl _) _) b1, .inr ⟨h0, by first | rfl | trivial⟩⟩
set_option maxRecDepth 100000 in
theorem er_callFn (qs : Array Value) (W : World) : Sem.run Tryz.prog (callFunc 61 qs) W = .ok (.enter 61 qs) W := rfl
set_option maxHeartbeats 4000000 in
set_option maxRecDepth 100000 in
theorem erRead_any (A : Option Addr) (n c : Nat) (l : List ByteArray) (w : World) (S : StS w (.slice A n c) l) (hnc : n ≤ c) (hl : l.length ≤ 1000000) (hz : ∀ y ∈ l, y.size ≤ 600) (tp : TypeId) (pp : Value) (y : Int) (L : Ru.Lv w tp pp y) :
  Calls Tryz.prog 18 #[.slice A n c] w fun e w' => e = .returned (.tuple #[(Er.rd l).1.v, .int .i64 (Er.rd l).2]) ∧ Below w.heap.size w w' := by
 have C : ∀ p W, W.cell? ⟨p, 0, none⟩ = some (.slice A n c) → StS W (.slice A n c) l → Ru.Lv W tp pp y → Calls Tryz.prog 61 #[.pointer (some ⟨p, 0, none⟩)] W fun e w' => Below W.heap.size W w' ∧ (((Er.rd l).2 = 0 ∧ e = .returned (Er.rd l).1.v) ∨ ((Er.rd l).2 ≠ 0 ∧ e = .panicked (gvP (Er.rd l).2))) := fun p W hc hS hL => by
  by_cases h9 : l.length < 3 ∨ 7 < l.length
  ·
   exact (erread1_other p _ l W hc hS (by omega)).mono fun e w' ⟨h1, h2, h3⟩ => ⟨h1, .inr ⟨h2, h3⟩⟩
  ·
   match l, h9, hz, hS with
   | [], h9, _, _ => simp at h9
   | [_], h9, _, _ => simp at h9
   | [_, _], h9, _, _ => simp at h9
   | f0 :: f1 :: f2 :: r, h9, hz, hS =>
    have h4 : r.length ≤ 4 := by simp at h9; omega
    refine (erread1_some p A n c f0 f1 f2 r h4 hnc W hc hS hz tp pp y hL).mono ?_
    rintro e w' ⟨h1, ⟨h2, h3⟩ | ⟨h2, h3⟩⟩
    ·
     rw [Er.rd_some f0 f1 f2 r h4, if_pos h2]; exact ⟨h1, .inl ⟨rfl, h3⟩⟩
    ·
     rw [Er.rd_some f0 f1 f2 r h4, if_neg h2]; exact ⟨h1, .inr ⟨h2, h3⟩⟩
 have C := Lib.hid C
 have hno := Er.rd_no l
 have HS := Lib.hid S
 have HL := Lib.hid L
 clear S hz hl L hnc
 generalize Er.rd l = R at C hno ⊢
 obtain ⟨⟨off, kind, save, rs, fm, ⟨h, yy, m, k, wk, d, sec, base⟩⟩, why⟩ := R
 by_cases h0 : why = 0
 ·
  subst h0
  unfold Er.E.v Er.ev at C ⊢
  have T := Lib.hid (fun b W (hc : W.cell? ⟨b, 0, none⟩ = some (.slice A n c)) (hS : StS W (.slice A n c) l) (hL : Ru.Lv W tp pp y) => ercaught_yes 61 #[.pointer (some ⟨b, 0, none⟩)] (er_callFn _) off kind save rs fm h yy m k wk d sec base W (Lib.hid fun W' hB => (C.out b W' (fd_keep hc hB) (hS.on hB) (hL.on hB)).mono (by
   rintro e w' ⟨h1, ⟨-, h2⟩ | ⟨h2, -⟩⟩
   ·
    exact ⟨h2, h1⟩
   ·
    exact absurd rfl h2)))
  clear C hno
  go_enter Tryz.func18, Tryz.ntmps18
  go_wp2_with fail
  have b0 : Below w.heap.size w ((w.alloc (.cells #[.slice A n c] 22)).alloc (.cells #[.int .i64 0, .int .i64 0, .int .i64 0, .string ⟨#[]⟩, .string ⟨#[]⟩, .bool false, .int .i64 0, .int .i64 0, .int .i64 0, .int .i64 0, .int .i64 0, .int .i64 0, .int .i64 0] 43)) := ((Below.refl _ _).alloc (Nat.le_refl _) _).alloc (by simp) _
  refine (T.out w.heap.size _ (by simp [go_sem]) (HS.out.on b0) (HL.out.on b0)).mono ?_; rintro e w1 ⟨rfl, b1⟩
  have B1 := Lib.hid (below_step b0 b1)
  have Q1 : Bk13 w1 (w.heap.size + 1) (.int .i64 0) (.int .i64 0) (.int .i64 0) (.string ⟨#[]⟩) (.string ⟨#[]⟩) (.bool false) (.int .i64 0) (.int .i64 0) (.int .i64 0) (.int .i64 0) (.int .i64 0) (.int .i64 0) (.int .i64 0) := Bk13.of b1 (by simp) (by intro j; simp [go_sem]) (by simp [go_sem]) (by simp [go_sem]) (by simp [go_sem]) (by simp [go_sem]) (by simp [go_sem]) (by simp [go_sem]) (by simp [go_sem]) (by simp [go_sem]) (by simp [go_sem]) (by simp [go_sem]) (by simp [go_sem]) (by simp [go_sem]) (by simp [go_sem])
  clear b1 b0
  have q_b := Q1.hb; have q_f := Q1.fz; have q_0 := Q1.k0; have q_1 := Q1.k1; have q_2 := Q1.k2; have q_3 := Q1.k3; have q_4 := Q1.k4; have q_5 := Q1.k5; have q_6 := Q1.k6; have q_7 := Q1.k7; have q_8 := Q1.k8; have q_9 := Q1.k9; have q_10 := Q1.k10; have q_11 := Q1.k11; have q_12 := Q1.k12
  go_wp2_with fail
  obtain ⟨W9, hW9⟩ : ∃ W9, W9 = (((((((((((((w1.setCell ⟨w.heap.size + 1, 0, none⟩ (.int .i64 off)).setCell ⟨w.heap.size + 1, 1, none⟩ (.int .i64 kind)).setCell ⟨w.heap.size + 1, 2, none⟩ (.int .i64 save)).setCell ⟨w.heap.size + 1, 3, none⟩ (.string rs)).setCell ⟨w.heap.size + 1, 4, none⟩ (.string fm)).setCell ⟨w.heap.size + 1, 5, none⟩ (.bool h)).setCell ⟨w.heap.size + 1, 6, none⟩ (.int .i64 yy)).setCell ⟨w.heap.size + 1, 7, none⟩ (.int .i64 m)).setCell ⟨w.heap.size + 1, 8, none⟩ (.int .i64 k)).setCell ⟨w.heap.size + 1, 9, none⟩ (.int .i64 wk)).setCell ⟨w.heap.size + 1, 10, none⟩ (.int .i64 d)).setCell ⟨w.heap.size + 1, 11, none⟩ (.int .i64 sec)).setCell ⟨w.heap.size + 1, 12, none⟩ (.int .i64 base)) := ⟨_, rfl⟩
  rw [← hW9]
  have C := set13 Q1 hW9
  have d9 := below_set13 B1.out (Nat.le_succ _) hW9
  clear hW9 Q1 q_b q_f q_0 q_1 q_2 q_3 q_4 q_5 q_6 q_7 q_8 q_9 q_10 q_11 q_12
  have e0 := C.k0; have e1 := C.k1; have e2 := C.k2; have e3 := C.k3; have e4 := C.k4; have e5 := C.k5; have e6 := C.k6; have e7 := C.k7; have e8 := C.k8; have e9 := C.k9; have e10 := C.k10; have e11 := C.k11; have e12 := C.k12
  clear C
  exact bodyPost_ret (v := .tuple #[.agg #[.int .i64 off, .int .i64 kind, .int .i64 save, .string rs, .string fm, .bool h, .int .i64 yy, .int .i64 m, .int .i64 k, .int .i64 wk, .int .i64 d, .int .i64 sec, .int .i64 base], .int .i64 0]) (by simp [results, Tryz.results18, go_sem, e0, e1, e2, e3, e4, e5, e6, e7, e8, e9, e10, e11, e12]) rfl ⟨rfl, d9⟩
 ·
  have hxy := hno h0
  unfold Er.E0 Er.U0 at hxy
  injection hxy with h_0 h_1 h_2 h_3 h_4 h_5
  injection h_5 with h_6 h_7 h_8 h_9 h_10 h_11 h_12 h_13
  subst h_0; subst h_1; subst h_2; subst h_3; subst h_4; subst h_6; subst h_7; subst h_8; subst h_9; subst h_10; subst h_11; subst h_12; subst h_13
  unfold Er.E.v Er.ev at C ⊢
  have T := Lib.hid (fun b W (hc : W.cell? ⟨b, 0, none⟩ = some (.slice A n c)) (hS : StS W (.slice A n c) l) (hL : Ru.Lv W tp pp y) => ercaught_no 61 #[.pointer (some ⟨b, 0, none⟩)] (er_callFn _) 0 why W (Lib.hid fun W' hB => (C.out b W' (fd_keep hc hB) (hS.on hB) (hL.on hB)).mono (by
   rintro e w' ⟨h1, ⟨h2, -⟩ | ⟨-, h2⟩⟩
   ·
    exact absurd h2 h0
   ·
    exact ⟨h2, h1⟩)))
  clear C hno
  go_enter Tryz.func18, Tryz.ntmps18
  go_wp2_with fail
  have b0 : Below w.heap.size w ((w.alloc (.cells #[.slice A n c] 22)).alloc (.cells #[.int .i64 0, .int .i64 0, .int .i64 0, .string ⟨#[]⟩, .string ⟨#[]⟩, .bool false, .int .i64 0, .int .i64 0, .int .i64 0, .int .i64 0, .int .i64 0, .int .i64 0, .int .i64 0] 43)) := ((Below.refl _ _).alloc (Nat.le_refl _) _).alloc (by simp) _
  refine (T.out w.heap.size _ (by simp [go_sem]) (HS.out.on b0) (HL.out.on b0)).mono ?_; rintro e w1 ⟨rfl, b1⟩
  have B1 := Lib.hid (below_step b0 b1)
  have Q1 : Bk13 w1 (w.heap.size + 1) (.int .i64 0) (.int .i64 0) (.int .i64 0) (.string ⟨#[]⟩) (.string ⟨#[]⟩) (.bool false) (.int .i64 0) (.int .i64 0) (.int .i64 0) (.int .i64 0) (.int .i64 0) (.int .i64 0) (.int .i64 0) := Bk13.of b1 (by simp) (by intro j; simp [go_sem]) (by simp [go_sem]) (by simp [go_sem]) (by simp [go_sem]) (by simp [go_sem]) (by simp [go_sem]) (by simp [go_sem]) (by simp [go_sem]) (by simp [go_sem]) (by simp [go_sem]) (by simp [go_sem]) (by simp [go_sem]) (by simp [go_sem]) (by simp [go_sem])
  clear b1 b0
  have q_b := Q1.hb; have q_f := Q1.fz; have q_0 := Q1.k0; have q_1 := Q1.k1; have q_2 := Q1.k2; have q_3 := Q1.k3; have q_4 := Q1.k4; have q_5 := Q1.k5; have q_6 := Q1.k6; have q_7 := Q1.k7; have q_8 := Q1.k8; have q_9 := Q1.k9; have q_10 := Q1.k10; have q_11 := Q1.k11; have q_12 := Q1.k12
  go_wp2_with fail
  obtain ⟨W9, hW9⟩ : ∃ W9, W9 = (((((((((((((w1.setCell ⟨w.heap.size + 1, 0, none⟩ (.int .i64 0)).setCell ⟨w.heap.size + 1, 1, none⟩ (.int .i64 0)).setCell ⟨w.heap.size + 1, 2, none⟩ (.int .i64 0)).setCell ⟨w.heap.size + 1, 3, none⟩ (.string ⟨#[]⟩)).setCell ⟨w.heap.size + 1, 4, none⟩ (.string ⟨#[]⟩)).setCell ⟨w.heap.size + 1, 5, none⟩ (.bool false)).setCell ⟨w.heap.size + 1, 6, none⟩ (.int .i64 0)).setCell ⟨w.heap.size + 1, 7, none⟩ (.int .i64 0)).setCell ⟨w.heap.size + 1, 8, none⟩ (.int .i64 0)).setCell ⟨w.heap.size + 1, 9, none⟩ (.int .i64 0)).setCell ⟨w.heap.size + 1, 10, none⟩ (.int .i64 0)).setCell ⟨w.heap.size + 1, 11, none⟩ (.int .i64 0)).setCell ⟨w.heap.size + 1, 12, none⟩ (.int .i64 0)) := ⟨_, rfl⟩
  rw [← hW9]
  have C := set13 Q1 hW9
  have d9 := below_set13 B1.out (Nat.le_succ _) hW9
  clear hW9 Q1 q_b q_f q_0 q_1 q_2 q_3 q_4 q_5 q_6 q_7 q_8 q_9 q_10 q_11 q_12
  have e0 := C.k0; have e1 := C.k1; have e2 := C.k2; have e3 := C.k3; have e4 := C.k4; have e5 := C.k5; have e6 := C.k6; have e7 := C.k7; have e8 := C.k8; have e9 := C.k9; have e10 := C.k10; have e11 := C.k11; have e12 := C.k12
  clear C
  exact bodyPost_ret (v := .tuple #[.agg #[.int .i64 0, .int .i64 0, .int .i64 0, .string ⟨#[]⟩, .string ⟨#[]⟩, .bool false, .int .i64 0, .int .i64 0, .int .i64 0, .int .i64 0, .int .i64 0, .int .i64 0, .int .i64 0], .int .i64 why]) (by simp [results, Tryz.results18, go_sem, e0, e1, e2, e3, e4, e5, e6, e7, e8, e9, e10, e11, e12]) rfl ⟨rfl, d9⟩
namespace Am
def tI (n : Int) : ByteArray := ⟨(Lib.itoa n).toArray⟩
def dd (n : Int) : ByteArray := tI (n / 10) ++ tI (n % 10)
def wr (h m s : Int) : ByteArray := if s = 0 then tI h ++ ⟨#[58]⟩ ++ dd m else tI h ++ ⟨#[58]⟩ ++ dd m ++ (⟨#[58]⟩ ++ dd s)
theorem tI_size (n : Int) (h0 : -9223372036854775808 ≤ n) (h1 : n ≤ 9223372036854775807) : (tI n).size ≤ 21 := by
 unfold tI
 show (Lib.itoa n).toArray.size ≤ 21
 rw [List.size_toArray]
 exact Lib.itoa_length_le n h0 h1
theorem dd_size (n : Int) (h0 : 0 ≤ n) (h1 : n < 100) : (dd n).size ≤ 42 := by
 unfold dd
 rw [ByteArray.size_append]
 have := tI_size (n / 10) (by omega) (by omega); have := tI_size (n % 10) (by omega) (by omega)
 omega
end Am
theorem atI (n : Int) (h0 : -9223372036854775808 ≤ n) (h1 : n ≤ 9223372036854775807) : ∃ A, A = Am.tI n ∧ A.size ≤ 21 ∧ Hid (∀ W, Lib.TabIs Tryz.prog W "internal/strconv.uint64pow10" .u64 Lib.pow10Tab → Calls Tryz.prog 99 #[.int .i64 n] W fun e w' => e = .returned (.string A) ∧ Below W.heap.size W w') :=
 ⟨_, rfl, Am.tI_size n h0 h1, fun W T => text_any n W h0 h1 T⟩
set_option maxHeartbeats 2000000 in
set_option maxRecDepth 100000 in
theorem atwo_any (n : Int) (w : World) (n0 : 0 ≤ n) (n1 : n < 100) (htab : Lib.TabIs Tryz.prog w "internal/strconv.uint64pow10" .u64 Lib.pow10Tab) :
  Calls Tryz.prog 152 #[.int .i64 n] w fun e w' => e = .returned (.string (Am.dd n)) ∧ Below w.heap.size w w' := by
 have T0 := Lib.hid htab; clear htab
 obtain ⟨A, hA, zA, CA⟩ := atI (n / 10) (by omega) (by omega)
 obtain ⟨B', hB, zB, CB⟩ := atI (n % 10) (by omega) (by omega)
 have HR := Lib.hid (show Am.dd n = A ++ B' by unfold Am.dd; rw [hA, hB])
 generalize Am.dd n = ans at *
 clear hA hB
 go_enter Tryz.func152, Tryz.ntmps152
 go_wp2_with fail
 refine (CA.out _ T0.out).mono ?_; rintro e w1 ⟨rfl, b1⟩
 have d1 : Below w.heap.size w w1 := below_step gr0 b1
 have B1 := Lib.hid d1
 clear b1 d1
 go_wp2_with fail
 refine (CB.out _ (var_keep B1.out T0.out)).mono ?_; rintro e w2 ⟨rfl, b2⟩
 have d2 : Below w1.heap.size w1 w2 := below_step gr0 b2
 have B2 := Lib.hid (below_step B1.out d2)
 clear b2 d2 B1
 go_wp2_with fail
 go_ret
 exact ⟨by rw [HR.out]; rfl, B2.out⟩
theorem add_ (n : Int) (n0 : 0 ≤ n) (n1 : n < 100) : ∃ A, A = Am.dd n ∧ A.size ≤ 42 ∧ Hid (∀ W, Lib.TabIs Tryz.prog W "internal/strconv.uint64pow10" .u64 Lib.pow10Tab → Calls Tryz.prog 152 #[.int .i64 n] W fun e w' => e = .returned (.string A) ∧ Below W.heap.size W w') :=
 ⟨_, rfl, Am.dd_size n n0 n1, fun W T => atwo_any n W n0 n1 T⟩
set_option maxHeartbeats 4000000 in
set_option maxRecDepth 100000 in
theorem awrite_no (h m s : Int) (w : World) (h0 : 0 ≤ h) (h1 : h ≤ 1000000) (m0 : 0 ≤ m) (m1 : m < 60) (hs : s = 0) (htab : Lib.TabIs Tryz.prog w "internal/strconv.uint64pow10" .u64 Lib.pow10Tab) :
  Calls Tryz.prog 102 #[.agg #[.int .i64 h, .int .i64 m, .int .i64 s]] w fun e w' => e = .returned (.string (Am.wr h m s)) ∧ Below w.heap.size w w' := by
 have T0 := Lib.hid htab; clear htab
 obtain ⟨A, hA, zA, CA⟩ := atI h (by omega) (by omega)
 obtain ⟨D, hD, zD, CD⟩ := add_ m m0 (by omega)
 have HR := Lib.hid (show Am.wr h m s = A ++ ⟨#[58]⟩ ++ D by unfold Am.wr; rw [hA, hD, if_pos hs])
 generalize Am.wr h m s = ans at *
 have e1 : (A ++ ⟨#[58]⟩ : ByteArray).size = A.size + 1 := by rw [ByteArray.size_append]; rfl
 subst hs
 clear hA hD
 go_enter Tryz.func102, Tryz.ntmps102
 go_wp2_with fail
 refine wp_named ?_; intro w1 hw1
 have d1 : Below w.heap.size w w1 := by rw [hw1]; exact gr0
 have B1 := Lib.hid d1
 have X1 : Bk3 w1 (w.heap.size) (.int .i64 h) (.int .i64 m) (.int .i64 0) := by rw [hw1]; exact ⟨by simp <;> omega, by intro j; simp [go_sem], by simp [go_sem], by simp [go_sem], by simp [go_sem]⟩
 clear d1 hw1
 have T1 := Lib.hid (var_keep B1.out T0.out)
 have qX_0 := cell_regrown X1.k0
 have qX_1 := cell_regrown X1.k1
 have qX_2 := cell_regrown X1.k2
 refine wp_region_qb (w := w1) (by kernel_rfl) (by kernel_rfl) gr0 ?_
 repeat (any_goals (first | go_big_quiet_step (first | (go_at_call 99; exact Calls.regrown_of (CA.out _ (var_keep (below_regrown _ _ _) T1.out))) | (go_at_call 152; exact Calls.regrown_of (CD.out _ (var_keep (below_regrown _ _ _) T1.out)))) | quiet_step (first | (go_at_call 99; exact Calls.regrown_of (CA.out _ (var_keep (below_regrown _ _ _) T1.out))) | (go_at_call 152; exact Calls.regrown_of (CD.out _ (var_keep (below_regrown _ _ _) T1.out))))))
 refine wpQuiet_nil ?_
 intro w2 hq
 have b2 : Below w1.heap.size w1 w2 := by obtain ⟨p, hq⟩ := hq; rw [hq]; exact below_regrown _ _ _
 clear hq qX_0 qX_1 qX_2
 have d2 : Below w1.heap.size w1 w2 := below_step gr0 b2
 have B2 := Lib.hid (below_step B1.out d2)
 have X2 := X1.keep d2
 clear X1 b2 d2 B1
 have tx := X2; obtain ⟨cX_b, cX_f, cX_0, cX_1, cX_2⟩ := tx
 go_wp2_with fail
 clear cX_b cX_f cX_0 cX_1 cX_2
 go_ret
 exact ⟨by rw [HR.out]; rfl, B2.out⟩
set_option maxHeartbeats 4000000 in
set_option maxRecDepth 100000 in
theorem awrite_yes (h m s : Int) (w : World) (h0 : 0 ≤ h) (h1 : h ≤ 1000000) (m0 : 0 ≤ m) (m1 : m < 60) (s0 : 0 ≤ s) (s1 : s < 60) (hs : ¬ s = 0) (htab : Lib.TabIs Tryz.prog w "internal/strconv.uint64pow10" .u64 Lib.pow10Tab) :
  Calls Tryz.prog 102 #[.agg #[.int .i64 h, .int .i64 m, .int .i64 s]] w fun e w' => e = .returned (.string (Am.wr h m s)) ∧ Below w.heap.size w w' := by
 have T0 := Lib.hid htab; clear htab
 obtain ⟨A, hA, zA, CA⟩ := atI h (by omega) (by omega)
 obtain ⟨D, hD, zD, CD⟩ := add_ m m0 (by omega)
 obtain ⟨E, hE, zE, CE⟩ := add_ s s0 (by omega)
 have HR := Lib.hid (show Am.wr h m s = A ++ ⟨#[58]⟩ ++ D ++ (⟨#[58]⟩ ++ E) by unfold Am.wr; rw [hA, hD, hE, if_neg hs])
 generalize Am.wr h m s = ans at *
 have e1 : (A ++ ⟨#[58]⟩ : ByteArray).size = A.size + 1 := by rw [ByteArray.size_append]; rfl
 have e2 : (A ++ ⟨#[58]⟩ ++ D : ByteArray).size = A.size + 1 + D.size := by rw [ByteArray.size_append, e1]
 have e3 : (⟨#[58]⟩ ++ E : ByteArray).size = 1 + E.size := by rw [ByteArray.size_append]; rfl
 have g1 : (s == 0) = false := by rw [beq_eq_false_iff_ne]; exact hs
 have g2 : (s != 0) = true := by unfold bne; rw [g1]; rfl
 clear hA hD hE hs
 go_enter Tryz.func102, Tryz.ntmps102
 go_wp2_with fail
 refine wp_named ?_; intro w1 hw1
 have d1 : Below w.heap.size w w1 := by rw [hw1]; exact gr0
 have B1 := Lib.hid d1
 have X1 : Bk3 w1 (w.heap.size) (.int .i64 h) (.int .i64 m) (.int .i64 s) := by rw [hw1]; exact ⟨by simp <;> omega, by intro j; simp [go_sem], by simp [go_sem], by simp [go_sem], by simp [go_sem]⟩
 clear d1 hw1
 have T1 := Lib.hid (var_keep B1.out T0.out)
 have qX_0 := cell_regrown X1.k0
 have qX_1 := cell_regrown X1.k1
 have qX_2 := cell_regrown X1.k2
 refine wp_region_qb (w := w1) (by kernel_rfl) (by kernel_rfl) gr0 ?_
 repeat (any_goals (first | go_big_quiet_step (first | (go_at_call 99; exact Calls.regrown_of (CA.out _ (var_keep (below_regrown _ _ _) T1.out))) | (go_at_call 152; exact Calls.regrown_of (CD.out _ (var_keep (below_regrown _ _ _) T1.out)))) | quiet_step (first | (go_at_call 99; exact Calls.regrown_of (CA.out _ (var_keep (below_regrown _ _ _) T1.out))) | (go_at_call 152; exact Calls.regrown_of (CD.out _ (var_keep (below_regrown _ _ _) T1.out))))))
 refine wpQuiet_nil ?_
 intro w2 hq
 have b2 : Below w1.heap.size w1 w2 := by obtain ⟨p, hq⟩ := hq; rw [hq]; exact below_regrown _ _ _
 clear hq qX_0 qX_1 qX_2
 have d2 : Below w1.heap.size w1 w2 := below_step gr0 b2
 have B2 := Lib.hid (below_step B1.out d2)
 have X2 := X1.keep d2
 clear X1 b2 d2 B1
 have tx := X2; obtain ⟨cX_b, cX_f, cX_0, cX_1, cX_2⟩ := tx
 go_wp2_with fail
 clear cX_b cX_f cX_0 cX_1 cX_2
 refine (CE.out _ (var_keep B2.out T0.out)).mono ?_; rintro e w3 ⟨rfl, b3⟩
 have d3 : Below w2.heap.size w2 w3 := below_step gr0 b3
 have B3 := Lib.hid (below_step B2.out d3)
 have X3 := X2.keep d3
 clear X2 b3 d3 B2
 have tx := X3; obtain ⟨cX_b, cX_f, cX_0, cX_1, cX_2⟩ := tx
 go_wp2_with fail
 clear cX_b cX_f cX_0 cX_1 cX_2
 go_ret
 exact ⟨by rw [HR.out]; rfl, B3.out⟩
set_option maxHeartbeats 2000000 in
theorem asplit_any (n : Int) (w : World) (n0 : 0 ≤ n) (n1 : n ≤ 604799) :
  Calls Tryz.prog 103 #[.int .i64 n] w fun e w' => e = .returned (.agg #[.int .i64 (n / 3600), .int .i64 (n / 60 % 60), .int .i64 (n % 60)]) ∧ Below w.heap.size w w' := by
 go_enter Tryz.func103, Tryz.ntmps103
 go_wp2_with fail
 refine bodyPost_ret (v := .agg #[.int .i64 (n / 3600), .int .i64 (n / 60 % 60), .int .i64 (n % 60)]) (by simp [results, Tryz.results103, go_sem]) rfl ⟨rfl, ?_⟩
 exact (Below.refl _ _).alloc (Nat.le_refl _) _
end Go.Proofs.YtpggfhmnhbnefaaGreatDoor

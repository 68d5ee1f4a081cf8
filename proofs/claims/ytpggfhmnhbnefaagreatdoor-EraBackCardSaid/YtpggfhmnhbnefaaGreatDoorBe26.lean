/- Joined: ErO. -/
import Derived.Test.YtpggfhmnhbnefaaGreatDoorBe01
import Derived.Test.YtpggfhmnhbnefaaGreatDoorBe24
import Derived.Test.YtpggfhmnhbnefaaGreatDoorBe25
import Derived.StillTailTactics
import Derived.Laws.MakeOwn
set_option linter.unusedVariables false
set_option linter.unusedSimpArgs false
namespace Go.Proofs.YtpggfhmnhbnefaaGreatDoor
open Go.RowKit Go.Sort Go.Pairs
theorem ckE {W W' : World} {a : Addr} {v : Value} (k : Below W.heap.size W W') (h : W.cell? a = some v) : W'.cell? a = some v := (k.cell (World.block_lt_of_cell? _ _ h)).trans h
theorem keep22 {w W W' : World} {v1 v2 v3 : Value} {l1 l2 l3 : List ByteArray} {a0 a1 a2 a3 a4 a5 a6 a7 a8 a9 a10 a11 a12 a13 a14 a15 a16 a17 a18 a19 a20 a21 a22 a23 a24 a25 a26 a27 a28 a29 a30 a31 a32 a33 a34 : Addr} {u0 u1 u2 u3 u4 u5 u6 u7 u8 u9 u10 u11 u12 u13 u14 u15 u16 u17 u18 u19 u20 u21 u22 u23 u24 u25 u26 u27 u28 u29 u30 u31 u32 u33 u34 : Value} (k : Below W.heap.size W W')
  (h : Below w.heap.size w W ∧ StS W v1 l1 ∧ StS W v2 l2 ∧ StS W v3 l3 ∧ W.cell? a0 = some u0 ∧ W.cell? a1 = some u1 ∧ W.cell? a2 = some u2 ∧ W.cell? a3 = some u3 ∧ W.cell? a4 = some u4 ∧ W.cell? a5 = some u5 ∧ W.cell? a6 = some u6 ∧ W.cell? a7 = some u7 ∧ W.cell? a8 = some u8 ∧ W.cell? a9 = some u9 ∧ W.cell? a10 = some u10 ∧ W.cell? a11 = some u11 ∧ W.cell? a12 = some u12 ∧ W.cell? a13 = some u13 ∧ W.cell? a14 = some u14 ∧ W.cell? a15 = some u15 ∧ W.cell? a16 = some u16 ∧ W.cell? a17 = some u17 ∧ W.cell? a18 = some u18 ∧ W.cell? a19 = some u19 ∧ W.cell? a20 = some u20 ∧ W.cell? a21 = some u21 ∧ W.cell? a22 = some u22 ∧ W.cell? a23 = some u23 ∧ W.cell? a24 = some u24 ∧ W.cell? a25 = some u25 ∧ W.cell? a26 = some u26 ∧ W.cell? a27 = some u27 ∧ W.cell? a28 = some u28 ∧ W.cell? a29 = some u29 ∧ W.cell? a30 = some u30 ∧ W.cell? a31 = some u31 ∧ W.cell? a32 = some u32 ∧ W.cell? a33 = some u33 ∧ W.cell? a34 = some u34) :
  Below w.heap.size w W' ∧ StS W' v1 l1 ∧ StS W' v2 l2 ∧ StS W' v3 l3 ∧ W'.cell? a0 = some u0 ∧ W'.cell? a1 = some u1 ∧ W'.cell? a2 = some u2 ∧ W'.cell? a3 = some u3 ∧ W'.cell? a4 = some u4 ∧ W'.cell? a5 = some u5 ∧ W'.cell? a6 = some u6 ∧ W'.cell? a7 = some u7 ∧ W'.cell? a8 = some u8 ∧ W'.cell? a9 = some u9 ∧ W'.cell? a10 = some u10 ∧ W'.cell? a11 = some u11 ∧ W'.cell? a12 = some u12 ∧ W'.cell? a13 = some u13 ∧ W'.cell? a14 = some u14 ∧ W'.cell? a15 = some u15 ∧ W'.cell? a16 = some u16 ∧ W'.cell? a17 = some u17 ∧ W'.cell? a18 = some u18 ∧ W'.cell? a19 = some u19 ∧ W'.cell? a20 = some u20 ∧ W'.cell? a21 = some u21 ∧ W'.cell? a22 = some u22 ∧ W'.cell? a23 = some u23 ∧ W'.cell? a24 = some u24 ∧ W'.cell? a25 = some u25 ∧ W'.cell? a26 = some u26 ∧ W'.cell? a27 = some u27 ∧ W'.cell? a28 = some u28 ∧ W'.cell? a29 = some u29 ∧ W'.cell? a30 = some u30 ∧ W'.cell? a31 = some u31 ∧ W'.cell? a32 = some u32 ∧ W'.cell? a33 = some u33 ∧ W'.cell? a34 = some u34 := by
 obtain ⟨hb, h1, h2, h3, g0, g1, g2, g3, g4, g5, g6, g7, g8, g9, g10, g11, g12, g13, g14, g15, g16, g17, g18, g19, g20, g21, g22, g23, g24, g25, g26, g27, g28, g29, g30, g31, g32, g33, g34⟩ := h
 exact ⟨below_step hb k, h1.on k, h2.on k, h3.on k, ckE k g0, ckE k g1, ckE k g2, ckE k g3, ckE k g4, ckE k g5, ckE k g6, ckE k g7, ckE k g8, ckE k g9, ckE k g10, ckE k g11, ckE k g12, ckE k g13, ckE k g14, ckE k g15, ckE k g16, ckE k g17, ckE k g18, ckE k g19, ckE k g20, ckE k g21, ckE k g22, ckE k g23, ckE k g24, ckE k g25, ckE k g26, ckE k g27, ckE k g28, ckE k g29, ckE k g30, ckE k g31, ckE k g32, ckE k g33, ckE k g34⟩
theorem Bk7.src {W : World} {b : Nat} {f0 f1 f2 f3 f4 f5 f6 : ByteArray} (h : Bk7 W b (.string f0) (.string f1) (.string f2) (.string f3) (.string f4) (.string f5) (.string f6)) (j : Nat) (u : Value) (hj : ([f0, f1, f2, f3, f4, f5, f6].map Value.string)[j]? = some u) : W.cell? ((⟨b, 0, none⟩ : Addr).add j) = some u := by
 rw [show (⟨b, 0, none⟩ : Addr).add j = ⟨b, j, none⟩ by simp [Addr.add]; exact fun h => h.symm]
 match j, hj with
 | 0, hj => simp at hj; subst hj; exact h.k0
 | 1, hj => simp at hj; subst hj; exact h.k1
 | 2, hj => simp at hj; subst hj; exact h.k2
 | 3, hj => simp at hj; subst hj; exact h.k3
 | 4, hj => simp at hj; subst hj; exact h.k4
 | 5, hj => simp at hj; subst hj; exact h.k5
 | 6, hj => simp at hj; subst hj; exact h.k6
 | n + 7, hj => simp at hj
theorem Bk7.sts {W : World} {b : Nat} {f0 f1 f2 f3 f4 f5 f6 : ByteArray} (h : Bk7 W b (.string f0) (.string f1) (.string f2) (.string f3) (.string f4) (.string f5) (.string f6)) (c : Nat) : StS W (.slice (some ⟨b, 0, none⟩) 7 c) [f0, f1, f2, f3, f4, f5, f6] :=
 ⟨_, c, rfl, fun _ => ⟨_, rfl, h.hb, fun j u hj => h.src j u hj⟩⟩
theorem Bk7.sts2 {W : World} {b : Nat} {f0 f1 f2 f3 f4 f5 f6 : ByteArray} (h : Bk7 W b (.string f0) (.string f1) (.string f2) (.string f3) (.string f4) (.string f5) (.string f6)) (c : Nat) : StS W (.slice (some ⟨b, 0, none⟩) 2 c) [f0, f1] :=
 ⟨_, c, rfl, fun _ => ⟨_, rfl, h.hb, fun j u hj => h.src j u (by
  match j, hj with
  | 0, hj => exact hj
  | 1, hj => exact hj
  | n + 2, hj => simp at hj)⟩⟩
theorem StS.rowe (b : Nat) (W : World) (hb : b = W.heap.size) (l : List ByteArray) (t : TypeId) (c : Nat) : StS (W.alloc (.cells (l.map Value.string).toArray t)) (.slice (some ⟨b, 0, none⟩) l.length c) l := by
 subst hb
 exact ⟨_, _, rfl, fun _ => ⟨_, rfl, by simp, by
  intro j u hj
  rw [show (⟨W.heap.size, 0, none⟩ : Addr).add j = ⟨W.heap.size, j, none⟩ by simp [Addr.add]; exact fun h => h.symm]
  rw [Lib.cell_of_heap (heap_alloc_new W _)]
  simpa using hj⟩⟩
theorem erread_at (l : List ByteArray) (off kind save : Int) (rs fm : ByteArray) (h : Bool) (y m k wk d sec base : Int) (q : Int) (h0 : (Er.rd l).1.off = off ∧ (Er.rd l).1.kind = kind ∧ (Er.rd l).1.save = save ∧ (Er.rd l).1.rs = rs ∧ (Er.rd l).1.fm = fm ∧ (Er.rd l).1.u.h = h ∧ (Er.rd l).1.u.y = y ∧ (Er.rd l).1.u.m = m ∧ (Er.rd l).1.u.k = k ∧ (Er.rd l).1.u.wk = wk ∧ (Er.rd l).1.u.d = d ∧ (Er.rd l).1.u.sec = sec ∧ (Er.rd l).1.u.base = base ∧ (Er.rd l).2 = q) (hl : l.length ≤ 1000) (hz : ∀ x ∈ l, x.size ≤ 600) (A : Option Addr) (n c : Nat) (hnc : n ≤ c) (W : World) (S : StS W (.slice A n c) l) (tp : TypeId) (pp : Value) (z : Int) (L : Ru.Lv W tp pp z) :
  Calls Tryz.prog 18 #[.slice A n c] W fun e w' => e = .returned (.tuple #[.agg #[.int .i64 off, .int .i64 kind, .int .i64 save, .string rs, .string fm, .bool h, .int .i64 y, .int .i64 m, .int .i64 k, .int .i64 wk, .int .i64 d, .int .i64 sec, .int .i64 base], .int .i64 q]) ∧ Below W.heap.size W w' := by
 obtain ⟨rfl, rfl, rfl, rfl, rfl, rfl, rfl, rfl, rfl, rfl, rfl, rfl, rfl, rfl⟩ := h0
 exact erRead_any A n c l W S hnc (by omega) hz tp pp z L
theorem erfields_at (r : Er.E) (l : List ByteArray) (q : Int) (h : Er.fl r = (l.map (·.data.toList), q)) (hs : r.rs.size ≤ 600) (ht : r.fm.size ≤ 600) (y0 : -9223372036854775808 ≤ r.u.y) (y1 : r.u.y ≤ 9223372036854775807) (W : World) (tp : TypeId) (pp : Value) (z : Int) (L : Ru.Lv W tp pp z) :
  Calls Tryz.prog 20 #[r.v] W fun e w' => ∃ v, StS w' v l ∧ e = .returned (.tuple #[v, .int .i64 q]) ∧ Below W.heap.size W w' :=
 (erfields_any r.off r.kind r.save r.rs r.fm r.u.h r.u.y r.u.m r.u.k r.u.wk r.u.d r.u.sec r.u.base W hs ht y0 y1 tp pp z L).mono fun e w' a => by
  obtain ⟨v, l2, S, hl, he, hb⟩ := a.ans
  have h' : Er.fl ⟨r.off, r.kind, r.save, r.rs, r.fm, ⟨r.u.h, r.u.y, r.u.m, r.u.k, r.u.wk, r.u.d, r.u.sec, r.u.base⟩⟩ = (l.map (·.data.toList), q) := h
  rw [h'] at hl he
  exact ⟨v, by rw [← fd_bytes hl]; exact S, he, hb⟩
theorem erright_at (r : Er.E) (q : Bool) (h : r.ok = q) (hs : r.rs.size ≤ 600) (ht : r.fm.size ≤ 600) (y0 : -9223372036854775808 ≤ r.u.y) (y1 : r.u.y ≤ 9223372036854775807) (W : World) (tp : TypeId) (pp : Value) (z : Int) (L : Ru.Lv W tp pp z) : Calls Tryz.prog 22 #[r.v] W fun e w' => e = .returned (.bool q) ∧ Below W.heap.size W w' := by
 have := erright_any r.off r.kind r.save r.rs r.fm r.u.h r.u.y r.u.m r.u.k r.u.wk r.u.d r.u.sec r.u.base W z hs ht y0 y1 L.mx
 rw [show Er.ok r.off r.kind r.save r.rs r.fm r.u.h r.u.y r.u.m r.u.k r.u.wk r.u.d r.u.sec r.u.base = q from h] at this
 exact this
theorem gb_any (W : World) : Calls Tryz.prog 59 #[] W fun e w' => e = .returned (.agg #[.int .i64 0, .int .i64 1, .int .i64 3600, .string ⟨#[]⟩, .string ⟨#[66, 83, 84]⟩, .bool true, .int .i64 1971, .int .i64 10, .int .i64 0, .int .i64 0, .int .i64 31, .int .i64 7200, .int .i64 2]) ∧ Below W.heap.size W w' := by
 go_enter Tryz.func59, Tryz.ntmps59
 go_wp2_with fail
 exact bodyPost_ret (v := .agg #[.int .i64 0, .int .i64 1, .int .i64 3600, .string ⟨#[]⟩, .string ⟨#[66, 83, 84]⟩, .bool true, .int .i64 1971, .int .i64 10, .int .i64 0, .int .i64 0, .int .i64 31, .int .i64 7200, .int .i64 2]) (by simp [results, Tryz.results59, go_sem]) rfl ⟨rfl, by repeat (first | exact Below.refl _ _ | refine Below.setCell ?_ (by first | (simp; done) | (simp; omega) | omega) _ | refine Below.alloc ?_ (by first | (simp; done) | (simp; omega) | omega) _)⟩
set_option maxHeartbeats 8000000 in
set_option maxRecDepth 100000 in
theorem lives22 (w : World) (tp : TypeId) (pp : Value) (y : Int) (L : Ru.Lv w tp pp y) :
  Calls Tryz.prog 17 #[] w fun e w' => e = .returned (.bool true) ∧ Below w.heap.size w w' := by
 obtain ⟨i0, hi, hz0, hz1, hz2⟩ := fd_parts fd_info
 have HL := Lib.hid (fun W (b : Below w.heap.size w W) => L.on b)
 clear L
 have R1 := Lib.hid (erread_at [⟨#[48]⟩, ⟨#[49, 58, 48, 48]⟩, ⟨#[66, 83, 84]⟩, ⟨#[49, 57, 55, 49]⟩, ⟨#[79, 99, 116]⟩, ⟨#[51, 49]⟩, ⟨#[50, 58, 48, 48, 117]⟩] (0) (1) (3600) (⟨#[]⟩) (⟨#[66, 83, 84]⟩) (true) (1971) (10) (0) (0) (31) (7200) (2) 0 (by decide +kernel) (by decide) (by decide +kernel))
 have R2 := Lib.hid (erread_at [⟨#[49, 58, 48, 48]⟩, ⟨#[45]⟩, ⟨#[67, 69, 84]⟩, ⟨#[49, 57, 52, 54]⟩] (3600) (0) (0) (⟨#[]⟩) (⟨#[67, 69, 84]⟩) (true) (1946) (1) (0) (0) (1) (0) (0) 0 (by decide +kernel) (by decide) (by decide +kernel))
 have R3 := Lib.hid (erread_at [⟨#[45, 53, 58, 48, 48]⟩, ⟨#[85, 83]⟩, ⟨#[69, 37, 115, 84]⟩] ((-18000)) (2) (0) (⟨#[85, 83]⟩) (⟨#[69, 37, 115, 84]⟩) (false) (0) (0) (0) (0) (0) (0) (0) 0 (by decide +kernel) (by decide) (by decide +kernel))
 have R4 := Lib.hid (erread_at [⟨#[48]⟩, ⟨#[49, 58, 48, 48]⟩] (0) (0) (0) (⟨#[]⟩) (⟨#[]⟩) (false) (0) (0) (0) (0) (0) (0) (0) 5 (by decide +kernel) (by decide) (by decide +kernel))
 have R5 := Lib.hid (erread_at [⟨#[48]⟩, ⟨#[49, 58, 48, 48]⟩, ⟨#[66, 83, 84]⟩, ⟨#[49, 57, 55, 49]⟩, ⟨#[79, 99, 116]⟩, ⟨#[51, 49]⟩, ⟨#[50, 58, 48, 48, 117]⟩, ⟨#[120]⟩] (0) (0) (0) (⟨#[]⟩) (⟨#[]⟩) (false) (0) (0) (0) (0) (0) (0) (0) 6 (by decide +kernel) (by decide) (by decide +kernel))
 have R6 := Lib.hid (erread_at [⟨#[49, 54, 58, 48, 48]⟩, ⟨#[45, 53, 120]⟩, ⟨#[67, 69, 84]⟩] (0) (0) (0) (⟨#[]⟩) (⟨#[]⟩) (false) (0) (0) (0) (0) (0) (0) (0) 1 (by decide +kernel) (by decide) (by decide +kernel))
 have R7 := Lib.hid (erread_at [⟨#[49, 53, 58, 48, 48]⟩, ⟨#[45, 53, 120]⟩, ⟨#[67, 69, 84]⟩] (0) (0) (0) (⟨#[]⟩) (⟨#[]⟩) (false) (0) (0) (0) (0) (0) (0) (0) 2 (by decide +kernel) (by decide) (by decide +kernel))
 have R8 := Lib.hid (erread_at [⟨#[49, 53, 58, 48, 48]⟩, ⟨#[45, 120]⟩, ⟨#[67, 69, 84]⟩] (0) (0) (0) (⟨#[]⟩) (⟨#[]⟩) (false) (0) (0) (0) (0) (0) (0) (0) 10 (by decide +kernel) (by decide) (by decide +kernel))
 have R9 := Lib.hid (erread_at [⟨#[49, 53, 58, 48, 48]⟩, ⟨#[52, 58, 48, 48]⟩, ⟨#[67, 69, 84]⟩] (0) (0) (0) (⟨#[]⟩) (⟨#[]⟩) (false) (0) (0) (0) (0) (0) (0) (0) 1 (by decide +kernel) (by decide) (by decide +kernel))
 have R10 := Lib.hid (erread_at [⟨#[49, 53, 58, 48, 48]⟩, ⟨#[45]⟩, ⟨#[37]⟩, ⟨#[120]⟩] (0) (0) (0) (⟨#[]⟩) (⟨#[]⟩) (false) (0) (0) (0) (0) (0) (0) (0) 4 (by decide +kernel) (by decide) (by decide +kernel))
 have R11 := Lib.hid (erread_at [⟨#[49, 53, 58, 48, 48]⟩, ⟨#[45]⟩, ⟨#[67, 69, 84]⟩, ⟨#[51, 50, 55, 54, 55]⟩] (0) (0) (0) (⟨#[]⟩) (⟨#[]⟩) (false) (0) (0) (0) (0) (0) (0) (0) 1 (by decide +kernel) (by decide) (by decide +kernel))
 have R12 := Lib.hid (erread_at [⟨#[49, 53, 58, 48, 48]⟩, ⟨#[45]⟩, ⟨#[67, 69, 84]⟩, ⟨#[53]⟩, ⟨#[70, 101, 98]⟩, ⟨#[51, 48]⟩] (0) (0) (0) (⟨#[]⟩) (⟨#[]⟩) (false) (0) (0) (0) (0) (0) (0) (0) 1 (by decide +kernel) (by decide) (by decide +kernel))
 have G1 := Lib.hid (erfields_at (⟨0, 1, 3600, ⟨#[]⟩, ⟨#[66, 83, 84]⟩, ⟨true, 1971, 10, 0, 0, 31, 7200, 2⟩⟩ : Er.E) [⟨#[48]⟩, ⟨#[49, 58, 48, 48]⟩, ⟨#[66, 83, 84]⟩, ⟨#[49, 57, 55, 49]⟩, ⟨#[79, 99, 116]⟩, ⟨#[51, 49]⟩, ⟨#[50, 58, 48, 48, 117]⟩] 0 (by decide +kernel) (by decide) (by decide) (by decide) (by decide))
 have G2 := Lib.hid (erfields_at (⟨3600, 0, 0, ⟨#[]⟩, ⟨#[67, 69, 84]⟩, ⟨true, 1946, 1, 0, 0, 1, 0, 0⟩⟩ : Er.E) [⟨#[49, 58, 48, 48]⟩, ⟨#[45]⟩, ⟨#[67, 69, 84]⟩, ⟨#[49, 57, 52, 54]⟩] 0 (by decide +kernel) (by decide) (by decide) (by decide) (by decide))
 have G3 := Lib.hid (erfields_at (⟨0, 0, 0, ⟨#[]⟩, ⟨#[]⟩, ⟨false, 0, 0, 0, 0, 0, 0, 0⟩⟩ : Er.E) [] 4 (by decide +kernel) (by decide) (by decide) (by decide) (by decide))
 have X1 := Lib.hid (erright_at (⟨0, 1, 3600, ⟨#[]⟩, ⟨#[66, 83, 84]⟩, ⟨true, 1971, 10, 0, 0, 31, 7200, 2⟩⟩ : Er.E) true (by decide +kernel) (by decide) (by decide) (by decide) (by decide))
 have X2 := Lib.hid (erright_at (⟨0, 0, 0, ⟨#[]⟩, ⟨#[]⟩, ⟨false, 0, 0, 0, 0, 0, 0, 0⟩⟩ : Er.E) false (by decide +kernel) (by decide) (by decide) (by decide) (by decide))
 dsimp only [Er.E.v, Er.ev] at G1 G2 G3 X1 X2
 go_enter Tryz.func17, Tryz.ntmps17
 go_wp2_with fail
 refine (R1.out _ 7 7 (by decide) _ (StS.rowe w.heap.size w rfl [⟨#[48]⟩, ⟨#[49, 58, 48, 48]⟩, ⟨#[66, 83, 84]⟩, ⟨#[49, 57, 55, 49]⟩, ⟨#[79, 99, 116]⟩, ⟨#[51, 49]⟩, ⟨#[50, 58, 48, 48, 117]⟩] _ _) tp pp y (HL.out _ gr0)).mono ?_; rintro e w1 ⟨rfl, b1⟩
 have d1 : Below w.heap.size w w1 := below_step gr0 b1
 have B1 := Lib.hid d1
 have F1 : Bk7 w1 (w.heap.size) (.string ⟨#[48]⟩) (.string ⟨#[49, 58, 48, 48]⟩) (.string ⟨#[66, 83, 84]⟩) (.string ⟨#[49, 57, 55, 49]⟩) (.string ⟨#[79, 99, 116]⟩) (.string ⟨#[51, 49]⟩) (.string ⟨#[50, 58, 48, 48, 117]⟩) := by refine Bk7.of b1 (by simp <;> omega) (by intro j; simp [go_sem]) ?_ ?_ ?_ ?_ ?_ ?_ ?_ <;> simp [go_sem]
 clear b1 d1
 have tx := F1; obtain ⟨cF_b, cF_f, cF_0, cF_1, cF_2, cF_3, cF_4, cF_5, cF_6⟩ := tx
 go_wp2_with fail
 clear cF_b cF_f cF_0 cF_1 cF_2 cF_3 cF_4 cF_5 cF_6
 refine (gb_any _).mono ?_; rintro e w2 ⟨rfl, b2⟩
 have d2 : Below w1.heap.size w1 w2 := below_step gr0 b2
 have B2 := Lib.hid (below_step B1.out d2)
 have F2 := F1.keep d2
 have aA := B1.out.size
 have nAF := Nat.ne_of_lt F1.hb
 have oAF := Nat.ne_of_gt F1.hb
 have A2 : Bk13 w2 (w1.heap.size) (.int .i64 0) (.int .i64 1) (.int .i64 3600) (.string ⟨#[]⟩) (.string ⟨#[66, 83, 84]⟩) (.bool true) (.int .i64 1971) (.int .i64 10) (.int .i64 0) (.int .i64 0) (.int .i64 31) (.int .i64 7200) (.int .i64 2) := by refine Bk13.of b2 (by simp <;> omega) (by intro j; simp [go_sem]) ?_ ?_ ?_ ?_ ?_ ?_ ?_ ?_ ?_ ?_ ?_ ?_ ?_ <;> simp [go_sem]
 clear F1 b2 d2 B1
 have tx := F2; obtain ⟨cF_b, cF_f, cF_0, cF_1, cF_2, cF_3, cF_4, cF_5, cF_6⟩ := tx
 have tx := A2; obtain ⟨cA_b, cA_f, cA_0, cA_1, cA_2, cA_3, cA_4, cA_5, cA_6, cA_7, cA_8, cA_9, cA_10, cA_11, cA_12⟩ := tx
 go_wp2_with fail
 clear cF_b cF_f cF_0 cF_1 cF_2 cF_3 cF_4 cF_5 cF_6 cA_b cA_f cA_0 cA_1 cA_2 cA_3 cA_4 cA_5 cA_6 cA_7 cA_8 cA_9 cA_10 cA_11 cA_12
 refine (G1.out _ tp pp y (HL.out _ (below_step B2.out gr0))).mono ?_; rintro e w3 ⟨_, sV, rfl, b3⟩
 have SV_3 := Lib.hid sV; obtain ⟨AV, cV, rfl, -⟩ := sV
 have d3 : Below w2.heap.size w2 w3 := below_step gr0 b3
 have B3 := Lib.hid (below_step B2.out d3)
 have F3 := F2.keep d3
 have A3 := A2.keep d3
 clear F2 A2 b3 d3 B2
 have tx := F3; obtain ⟨cF_b, cF_f, cF_0, cF_1, cF_2, cF_3, cF_4, cF_5, cF_6⟩ := tx
 have tx := A3; obtain ⟨cA_b, cA_f, cA_0, cA_1, cA_2, cA_3, cA_4, cA_5, cA_6, cA_7, cA_8, cA_9, cA_10, cA_11, cA_12⟩ := tx
 go_wp2_with fail
 clear cF_b cF_f cF_0 cF_1 cF_2 cF_3 cF_4 cF_5 cF_6 cA_b cA_f cA_0 cA_1 cA_2 cA_3 cA_4 cA_5 cA_6 cA_7 cA_8 cA_9 cA_10 cA_11 cA_12
 refine (R2.out (some ⟨w3.heap.size, 0, none⟩) 4 4 (by decide) _ (StS.rowe (w3.heap.size) w3 rfl [⟨#[49, 58, 48, 48]⟩, ⟨#[45]⟩, ⟨#[67, 69, 84]⟩, ⟨#[49, 57, 52, 54]⟩] 9 4) tp pp y (HL.out _ (below_step B3.out gr0))).mono ?_; rintro e w4 ⟨rfl, b4⟩
 have d4 : Below w3.heap.size w3 w4 := below_step gr0 b4
 have B4 := Lib.hid (below_step B3.out d4)
 have SV_4 := Lib.hid (SV_3.out.on d4)
 have F4 := F3.keep d4
 have A4 := A3.keep d4
 clear SV_3 F3 A3 b4 d4 B3
 have tx := F4; obtain ⟨cF_b, cF_f, cF_0, cF_1, cF_2, cF_3, cF_4, cF_5, cF_6⟩ := tx
 have tx := A4; obtain ⟨cA_b, cA_f, cA_0, cA_1, cA_2, cA_3, cA_4, cA_5, cA_6, cA_7, cA_8, cA_9, cA_10, cA_11, cA_12⟩ := tx
 go_wp2_with fail
 clear cF_b cF_f cF_0 cF_1 cF_2 cF_3 cF_4 cF_5 cF_6 cA_b cA_f cA_0 cA_1 cA_2 cA_3 cA_4 cA_5 cA_6 cA_7 cA_8 cA_9 cA_10 cA_11 cA_12
 refine (G2.out _ tp pp y (HL.out _ (below_step B4.out gr0))).mono ?_; rintro e w5 ⟨_, sV2, rfl, b5⟩
 have SV2_5 := Lib.hid sV2; obtain ⟨AV2, cV2, rfl, -⟩ := sV2
 have d5 : Below w4.heap.size w4 w5 := below_step gr0 b5
 have B5 := Lib.hid (below_step B4.out d5)
 have SV_5 := Lib.hid (SV_4.out.on d5)
 have F5 := F4.keep d5
 have A5 := A4.keep d5
 have aC := B4.out.size
 have nCF := Nat.ne_of_lt F4.hb
 have oCF := Nat.ne_of_gt F4.hb
 have nCA := Nat.ne_of_lt A4.hb
 have oCA := Nat.ne_of_gt A4.hb
 have C5 : Bk13 w5 (w4.heap.size) (.int .i64 3600) (.int .i64 0) (.int .i64 0) (.string ⟨#[]⟩) (.string ⟨#[67, 69, 84]⟩) (.bool true) (.int .i64 1946) (.int .i64 1) (.int .i64 0) (.int .i64 0) (.int .i64 1) (.int .i64 0) (.int .i64 0) := by refine Bk13.of b5 (by simp <;> omega) (by intro j; simp [go_sem]) ?_ ?_ ?_ ?_ ?_ ?_ ?_ ?_ ?_ ?_ ?_ ?_ ?_ <;> simp [go_sem]
 clear SV_4 F4 A4 b5 d5 B4
 have tx := F5; obtain ⟨cF_b, cF_f, cF_0, cF_1, cF_2, cF_3, cF_4, cF_5, cF_6⟩ := tx
 have tx := A5; obtain ⟨cA_b, cA_f, cA_0, cA_1, cA_2, cA_3, cA_4, cA_5, cA_6, cA_7, cA_8, cA_9, cA_10, cA_11, cA_12⟩ := tx
 have tx := C5; obtain ⟨cC_b, cC_f, cC_0, cC_1, cC_2, cC_3, cC_4, cC_5, cC_6, cC_7, cC_8, cC_9, cC_10, cC_11, cC_12⟩ := tx
 go_wp2_with fail
 clear cF_b cF_f cF_0 cF_1 cF_2 cF_3 cF_4 cF_5 cF_6 cA_b cA_f cA_0 cA_1 cA_2 cA_3 cA_4 cA_5 cA_6 cA_7 cA_8 cA_9 cA_10 cA_11 cA_12 cC_b cC_f cC_0 cC_1 cC_2 cC_3 cC_4 cC_5 cC_6 cC_7 cC_8 cC_9 cC_10 cC_11 cC_12
 refine (R3.out (some ⟨w5.heap.size, 0, none⟩) 3 3 (by decide) _ (StS.rowe (w5.heap.size) w5 rfl [⟨#[45, 53, 58, 48, 48]⟩, ⟨#[85, 83]⟩, ⟨#[69, 37, 115, 84]⟩] 9 3) tp pp y (HL.out _ (below_step B5.out gr0))).mono ?_; rintro e w6 ⟨rfl, b6⟩
 have d6 : Below w5.heap.size w5 w6 := below_step gr0 b6
 have B6 := Lib.hid (below_step B5.out d6)
 have SV_6 := Lib.hid (SV_5.out.on d6)
 have SV2_6 := Lib.hid (SV2_5.out.on d6)
 have F6 := F5.keep d6
 have A6 := A5.keep d6
 have C6 := C5.keep d6
 clear SV_5 SV2_5 F5 A5 C5 b6 d6 B5
 have tx := F6; obtain ⟨cF_b, cF_f, cF_0, cF_1, cF_2, cF_3, cF_4, cF_5, cF_6⟩ := tx
 have tx := A6; obtain ⟨cA_b, cA_f, cA_0, cA_1, cA_2, cA_3, cA_4, cA_5, cA_6, cA_7, cA_8, cA_9, cA_10, cA_11, cA_12⟩ := tx
 have tx := C6; obtain ⟨cC_b, cC_f, cC_0, cC_1, cC_2, cC_3, cC_4, cC_5, cC_6, cC_7, cC_8, cC_9, cC_10, cC_11, cC_12⟩ := tx
 go_wp2_with fail
 clear cF_b cF_f cF_0 cF_1 cF_2 cF_3 cF_4 cF_5 cF_6 cA_b cA_f cA_0 cA_1 cA_2 cA_3 cA_4 cA_5 cA_6 cA_7 cA_8 cA_9 cA_10 cA_11 cA_12 cC_b cC_f cC_0 cC_1 cC_2 cC_3 cC_4 cC_5 cC_6 cC_7 cC_8 cC_9 cC_10 cC_11 cC_12
 refine (R4.out _ 2 7 (by decide) _ ((F6.keep gr0).sts2 _) tp pp y (HL.out _ (below_step B6.out gr0))).mono ?_; rintro e w7 ⟨rfl, b7⟩
 have d7 : Below w6.heap.size w6 w7 := below_step gr0 b7
 have B7 := Lib.hid (below_step B6.out d7)
 have SV_7 := Lib.hid (SV_6.out.on d7)
 have SV2_7 := Lib.hid (SV2_6.out.on d7)
 have F7 := F6.keep d7
 have A7 := A6.keep d7
 have C7 := C6.keep d7
 have aE := B6.out.size
 have nEF := Nat.ne_of_lt F6.hb
 have oEF := Nat.ne_of_gt F6.hb
 have nEA := Nat.ne_of_lt A6.hb
 have oEA := Nat.ne_of_gt A6.hb
 have nEC := Nat.ne_of_lt C6.hb
 have oEC := Nat.ne_of_gt C6.hb
 have E7 : Bk13 w7 (w6.heap.size) (.int .i64 (-18000)) (.int .i64 2) (.int .i64 0) (.string ⟨#[85, 83]⟩) (.string ⟨#[69, 37, 115, 84]⟩) (.bool false) (.int .i64 0) (.int .i64 0) (.int .i64 0) (.int .i64 0) (.int .i64 0) (.int .i64 0) (.int .i64 0) := by refine Bk13.of b7 (by simp <;> omega) (by intro j; simp [go_sem]) ?_ ?_ ?_ ?_ ?_ ?_ ?_ ?_ ?_ ?_ ?_ ?_ ?_ <;> simp [go_sem]
 clear SV_6 SV2_6 F6 A6 C6 b7 d7 B6
 go_upto_region 8 with (fail)
 refine wp_named ?_; intro w8 hw8
 have d8 : Below w7.heap.size w7 w8 := by rw [hw8]; exact gr0
 have B8 := Lib.hid (below_step B7.out d8)
 have SV_8 := Lib.hid (SV_7.out.on d8)
 have SV2_8 := Lib.hid (SV2_7.out.on d8)
 have F8 := F7.keep d8
 have A8 := A7.keep d8
 have C8 := C7.keep d8
 have E8 := E7.keep d8
 clear SV_7 SV2_7 F7 A7 C7 E7 d8 hw8 B7
 have O0 : (w8.alloc (.cells #[] 9)).ownsRow w8.heap.size 9 1 (.slice (some ⟨w8.heap.size, 0, none⟩) 0 0) 0 [] := World.ownsRow_made w8 #[] 0 (Nat.le_refl _) (by unfold maxLen; decide) rfl
 have hsrc2 := Bk7.src (F8.keep (show Below w8.heap.size w8 (w8.alloc (.cells #[] 9)) from (Below.refl _ _).alloc (Nat.le_refl _) _))
 have hz := B8.out.size
 have hone : ∀ u ∈ [⟨#[48]⟩, ⟨#[49, 58, 48, 48]⟩, ⟨#[66, 83, 84]⟩, ⟨#[49, 57, 55, 49]⟩, ⟨#[79, 99, 116]⟩, ⟨#[51, 49]⟩, ⟨#[50, 58, 48, 48, 117]⟩].map Value.string, u.oneCell' = true := by intro u hu; obtain ⟨z, -, rfl⟩ := List.mem_map.1 hu; rfl
 go_wp2_with (at_builtin; refine wpList_append_own _ rfl _ _ 22 rfl w8.heap.size 9 i0 (.string ⟨#[]⟩) 1 16 Tryz.underlying22 hi hz0 hz1 hz2 rfl (by decide) _ _ _ rfl O0 ⟨w.heap.size, 0, none⟩ 7 7 ([⟨#[48]⟩, ⟨#[49, 58, 48, 48]⟩, ⟨#[66, 83, 84]⟩, ⟨#[49, 57, 55, 49]⟩, ⟨#[79, 99, 116]⟩, ⟨#[51, 49]⟩, ⟨#[50, 58, 48, 48, 117]⟩].map Value.string) rfl rfl hsrc2 hone (by unfold maxLen; omega) (by omega) (by simp) ?_)
 intro v2 x2 own2 grow2 _
 have k2 : Below w8.heap.size w8 x2 := ((Below.refl _ _).alloc (Nat.le_refl _) _).trans (below_grown grow2 (by simp) (fun g hg => (O0.lt g hg).1))
 have hz2' := k2.size
 clear hsrc2 grow2 O0 hone
 go_wp2_with (at_builtin; refine wpList_append_own _ rfl _ _ 22 rfl w8.heap.size 9 i0 (.string ⟨#[]⟩) 1 16 Tryz.underlying22 hi hz0 hz1 hz2 rfl (by decide) _ _ _ rfl (own2.alloc _) ⟨x2.heap.size, 0, none⟩ 1 1 [.string ⟨#[120]⟩] rfl rfl (by intro j u hj; match j, hj with | 0, hj => (simp at hj; subst hj; simp [go_sem])) (by intro u hu; simp at hu; subst hu; rfl) (by unfold maxLen; omega) (by omega) (by simp; omega) ?_)
 intro v3 w60 own3 grow3 _
 have k3 : Below w8.heap.size x2 w60 := ((Below.refl _ _).alloc hz2' _).trans (below_grown grow3 (by simp; omega) (fun g hg => (own2.lt g hg).1))
 have hrm := own_room own3
 have S3 := Lib.hid (show StS w60 v3 [⟨#[48]⟩, ⟨#[49, 58, 48, 48]⟩, ⟨#[66, 83, 84]⟩, ⟨#[49, 57, 55, 49]⟩, ⟨#[79, 99, 116]⟩, ⟨#[51, 49]⟩, ⟨#[50, 58, 48, 48, 117]⟩, ⟨#[120]⟩] from Lst.own own3)
 have d6 : Below w8.heap.size w8 w60 := k2.trans k3
 have B60 := Lib.hid (below_step B8.out d6)
 have F60 := F8.keep d6
 have A60 := A8.keep d6
 have C60 := C8.keep d6
 have E60 := E8.keep d6
 have SV_8 := Lib.hid (SV_8.out.on d6)
 have SV2_8 := Lib.hid (SV2_8.out.on d6)
 obtain ⟨A9, c9, rfl, hnc9⟩ := hrm
 clear k2 k3 grow3 own2 own3 hz2' hz d6 F8 A8 C8 E8 B8
 have tx := F60; obtain ⟨cF_b, cF_f, cF_0, cF_1, cF_2, cF_3, cF_4, cF_5, cF_6⟩ := tx
 have tx := A60; obtain ⟨cA_b, cA_f, cA_0, cA_1, cA_2, cA_3, cA_4, cA_5, cA_6, cA_7, cA_8, cA_9, cA_10, cA_11, cA_12⟩ := tx
 have tx := C60; obtain ⟨cC_b, cC_f, cC_0, cC_1, cC_2, cC_3, cC_4, cC_5, cC_6, cC_7, cC_8, cC_9, cC_10, cC_11, cC_12⟩ := tx
 have tx := E60; obtain ⟨cE_b, cE_f, cE_0, cE_1, cE_2, cE_3, cE_4, cE_5, cE_6, cE_7, cE_8, cE_9, cE_10, cE_11, cE_12⟩ := tx
 go_wp2_with fail
 clear cF_b cF_f cF_0 cF_1 cF_2 cF_3 cF_4 cF_5 cF_6 cA_b cA_f cA_0 cA_1 cA_2 cA_3 cA_4 cA_5 cA_6 cA_7 cA_8 cA_9 cA_10 cA_11 cA_12 cC_b cC_f cC_0 cC_1 cC_2 cC_3 cC_4 cC_5 cC_6 cC_7 cC_8 cC_9 cC_10 cC_11 cC_12 cE_b cE_f cE_0 cE_1 cE_2 cE_3 cE_4 cE_5 cE_6 cE_7 cE_8 cE_9 cE_10 cE_11 cE_12
 refine (R5.out _ _ _ hnc9 _ S3.out tp pp y (HL.out _ (below_step B60.out gr0))).mono ?_; rintro e w61 ⟨rfl, b61⟩
 have d61 : Below w60.heap.size w60 w61 := below_step gr0 b61
 have B61 := Lib.hid (below_step B60.out d61)
 have SV_61 := Lib.hid (SV_8.out.on d61)
 have SV2_61 := Lib.hid (SV2_8.out.on d61)
 have F61 := F60.keep d61
 have A61 := A60.keep d61
 have C61 := C60.keep d61
 have E61 := E60.keep d61
 clear SV_8 SV2_8 F60 A60 C60 E60 b61 d61 B60
 have tx := F61; obtain ⟨cF_b, cF_f, cF_0, cF_1, cF_2, cF_3, cF_4, cF_5, cF_6⟩ := tx
 have tx := A61; obtain ⟨cA_b, cA_f, cA_0, cA_1, cA_2, cA_3, cA_4, cA_5, cA_6, cA_7, cA_8, cA_9, cA_10, cA_11, cA_12⟩ := tx
 have tx := C61; obtain ⟨cC_b, cC_f, cC_0, cC_1, cC_2, cC_3, cC_4, cC_5, cC_6, cC_7, cC_8, cC_9, cC_10, cC_11, cC_12⟩ := tx
 have tx := E61; obtain ⟨cE_b, cE_f, cE_0, cE_1, cE_2, cE_3, cE_4, cE_5, cE_6, cE_7, cE_8, cE_9, cE_10, cE_11, cE_12⟩ := tx
 go_wp2_with fail
 clear cF_b cF_f cF_0 cF_1 cF_2 cF_3 cF_4 cF_5 cF_6 cA_b cA_f cA_0 cA_1 cA_2 cA_3 cA_4 cA_5 cA_6 cA_7 cA_8 cA_9 cA_10 cA_11 cA_12 cC_b cC_f cC_0 cC_1 cC_2 cC_3 cC_4 cC_5 cC_6 cC_7 cC_8 cC_9 cC_10 cC_11 cC_12 cE_b cE_f cE_0 cE_1 cE_2 cE_3 cE_4 cE_5 cE_6 cE_7 cE_8 cE_9 cE_10 cE_11 cE_12
 refine (R6.out (some ⟨w61.heap.size + 1, 0, none⟩) 3 3 (by decide) _ (StS.rowe (w61.heap.size + 1) (w61.alloc (.cells _ 43)) (by simp) [⟨#[49, 54, 58, 48, 48]⟩, ⟨#[45, 53, 120]⟩, ⟨#[67, 69, 84]⟩] 9 3) tp pp y (HL.out _ (below_step B61.out gr0))).mono ?_; rintro e w62 ⟨rfl, b62⟩
 have d62 : Below w61.heap.size w61 w62 := below_step gr0 b62
 have B62 := Lib.hid (below_step B61.out d62)
 have SV_62 := Lib.hid (SV_61.out.on d62)
 have SV2_62 := Lib.hid (SV2_61.out.on d62)
 have F62 := F61.keep d62
 have A62 := A61.keep d62
 have C62 := C61.keep d62
 have E62 := E61.keep d62
 clear SV_61 SV2_61 F61 A61 C61 E61 b62 d62 B61
 have tx := F62; obtain ⟨cF_b, cF_f, cF_0, cF_1, cF_2, cF_3, cF_4, cF_5, cF_6⟩ := tx
 have tx := A62; obtain ⟨cA_b, cA_f, cA_0, cA_1, cA_2, cA_3, cA_4, cA_5, cA_6, cA_7, cA_8, cA_9, cA_10, cA_11, cA_12⟩ := tx
 have tx := C62; obtain ⟨cC_b, cC_f, cC_0, cC_1, cC_2, cC_3, cC_4, cC_5, cC_6, cC_7, cC_8, cC_9, cC_10, cC_11, cC_12⟩ := tx
 have tx := E62; obtain ⟨cE_b, cE_f, cE_0, cE_1, cE_2, cE_3, cE_4, cE_5, cE_6, cE_7, cE_8, cE_9, cE_10, cE_11, cE_12⟩ := tx
 go_wp2_with fail
 clear cF_b cF_f cF_0 cF_1 cF_2 cF_3 cF_4 cF_5 cF_6 cA_b cA_f cA_0 cA_1 cA_2 cA_3 cA_4 cA_5 cA_6 cA_7 cA_8 cA_9 cA_10 cA_11 cA_12 cC_b cC_f cC_0 cC_1 cC_2 cC_3 cC_4 cC_5 cC_6 cC_7 cC_8 cC_9 cC_10 cC_11 cC_12 cE_b cE_f cE_0 cE_1 cE_2 cE_3 cE_4 cE_5 cE_6 cE_7 cE_8 cE_9 cE_10 cE_11 cE_12
 refine (R7.out (some ⟨w62.heap.size + 1, 0, none⟩) 3 3 (by decide) _ (StS.rowe (w62.heap.size + 1) (w62.alloc (.cells _ 43)) (by simp) [⟨#[49, 53, 58, 48, 48]⟩, ⟨#[45, 53, 120]⟩, ⟨#[67, 69, 84]⟩] 9 3) tp pp y (HL.out _ (below_step B62.out gr0))).mono ?_; rintro e w63 ⟨rfl, b63⟩
 have d63 : Below w62.heap.size w62 w63 := below_step gr0 b63
 have B63 := Lib.hid (below_step B62.out d63)
 have SV_63 := Lib.hid (SV_62.out.on d63)
 have SV2_63 := Lib.hid (SV2_62.out.on d63)
 have F63 := F62.keep d63
 have A63 := A62.keep d63
 have C63 := C62.keep d63
 have E63 := E62.keep d63
 clear SV_62 SV2_62 F62 A62 C62 E62 b63 d63 B62
 have tx := F63; obtain ⟨cF_b, cF_f, cF_0, cF_1, cF_2, cF_3, cF_4, cF_5, cF_6⟩ := tx
 have tx := A63; obtain ⟨cA_b, cA_f, cA_0, cA_1, cA_2, cA_3, cA_4, cA_5, cA_6, cA_7, cA_8, cA_9, cA_10, cA_11, cA_12⟩ := tx
 have tx := C63; obtain ⟨cC_b, cC_f, cC_0, cC_1, cC_2, cC_3, cC_4, cC_5, cC_6, cC_7, cC_8, cC_9, cC_10, cC_11, cC_12⟩ := tx
 have tx := E63; obtain ⟨cE_b, cE_f, cE_0, cE_1, cE_2, cE_3, cE_4, cE_5, cE_6, cE_7, cE_8, cE_9, cE_10, cE_11, cE_12⟩ := tx
 go_wp2_with fail
 clear cF_b cF_f cF_0 cF_1 cF_2 cF_3 cF_4 cF_5 cF_6 cA_b cA_f cA_0 cA_1 cA_2 cA_3 cA_4 cA_5 cA_6 cA_7 cA_8 cA_9 cA_10 cA_11 cA_12 cC_b cC_f cC_0 cC_1 cC_2 cC_3 cC_4 cC_5 cC_6 cC_7 cC_8 cC_9 cC_10 cC_11 cC_12 cE_b cE_f cE_0 cE_1 cE_2 cE_3 cE_4 cE_5 cE_6 cE_7 cE_8 cE_9 cE_10 cE_11 cE_12
 refine (R8.out (some ⟨w63.heap.size + 1, 0, none⟩) 3 3 (by decide) _ (StS.rowe (w63.heap.size + 1) (w63.alloc (.cells _ 43)) (by simp) [⟨#[49, 53, 58, 48, 48]⟩, ⟨#[45, 120]⟩, ⟨#[67, 69, 84]⟩] 9 3) tp pp y (HL.out _ (below_step B63.out gr0))).mono ?_; rintro e w64 ⟨rfl, b64⟩
 have d64 : Below w63.heap.size w63 w64 := below_step gr0 b64
 have B64 := Lib.hid (below_step B63.out d64)
 have SV_64 := Lib.hid (SV_63.out.on d64)
 have SV2_64 := Lib.hid (SV2_63.out.on d64)
 have F64 := F63.keep d64
 have A64 := A63.keep d64
 have C64 := C63.keep d64
 have E64 := E63.keep d64
 clear SV_63 SV2_63 F63 A63 C63 E63 b64 d64 B63
 have tx := F64; obtain ⟨cF_b, cF_f, cF_0, cF_1, cF_2, cF_3, cF_4, cF_5, cF_6⟩ := tx
 have tx := A64; obtain ⟨cA_b, cA_f, cA_0, cA_1, cA_2, cA_3, cA_4, cA_5, cA_6, cA_7, cA_8, cA_9, cA_10, cA_11, cA_12⟩ := tx
 have tx := C64; obtain ⟨cC_b, cC_f, cC_0, cC_1, cC_2, cC_3, cC_4, cC_5, cC_6, cC_7, cC_8, cC_9, cC_10, cC_11, cC_12⟩ := tx
 have tx := E64; obtain ⟨cE_b, cE_f, cE_0, cE_1, cE_2, cE_3, cE_4, cE_5, cE_6, cE_7, cE_8, cE_9, cE_10, cE_11, cE_12⟩ := tx
 go_wp2_with fail
 clear cF_b cF_f cF_0 cF_1 cF_2 cF_3 cF_4 cF_5 cF_6 cA_b cA_f cA_0 cA_1 cA_2 cA_3 cA_4 cA_5 cA_6 cA_7 cA_8 cA_9 cA_10 cA_11 cA_12 cC_b cC_f cC_0 cC_1 cC_2 cC_3 cC_4 cC_5 cC_6 cC_7 cC_8 cC_9 cC_10 cC_11 cC_12 cE_b cE_f cE_0 cE_1 cE_2 cE_3 cE_4 cE_5 cE_6 cE_7 cE_8 cE_9 cE_10 cE_11 cE_12
 refine (R9.out (some ⟨w64.heap.size + 1, 0, none⟩) 3 3 (by decide) _ (StS.rowe (w64.heap.size + 1) (w64.alloc (.cells _ 43)) (by simp) [⟨#[49, 53, 58, 48, 48]⟩, ⟨#[52, 58, 48, 48]⟩, ⟨#[67, 69, 84]⟩] 9 3) tp pp y (HL.out _ (below_step B64.out gr0))).mono ?_; rintro e w65 ⟨rfl, b65⟩
 have d65 : Below w64.heap.size w64 w65 := below_step gr0 b65
 have B65 := Lib.hid (below_step B64.out d65)
 have SV_65 := Lib.hid (SV_64.out.on d65)
 have SV2_65 := Lib.hid (SV2_64.out.on d65)
 have F65 := F64.keep d65
 have A65 := A64.keep d65
 have C65 := C64.keep d65
 have E65 := E64.keep d65
 clear SV_64 SV2_64 F64 A64 C64 E64 b65 d65 B64
 have tx := F65; obtain ⟨cF_b, cF_f, cF_0, cF_1, cF_2, cF_3, cF_4, cF_5, cF_6⟩ := tx
 have tx := A65; obtain ⟨cA_b, cA_f, cA_0, cA_1, cA_2, cA_3, cA_4, cA_5, cA_6, cA_7, cA_8, cA_9, cA_10, cA_11, cA_12⟩ := tx
 have tx := C65; obtain ⟨cC_b, cC_f, cC_0, cC_1, cC_2, cC_3, cC_4, cC_5, cC_6, cC_7, cC_8, cC_9, cC_10, cC_11, cC_12⟩ := tx
 have tx := E65; obtain ⟨cE_b, cE_f, cE_0, cE_1, cE_2, cE_3, cE_4, cE_5, cE_6, cE_7, cE_8, cE_9, cE_10, cE_11, cE_12⟩ := tx
 go_wp2_with fail
 clear cF_b cF_f cF_0 cF_1 cF_2 cF_3 cF_4 cF_5 cF_6 cA_b cA_f cA_0 cA_1 cA_2 cA_3 cA_4 cA_5 cA_6 cA_7 cA_8 cA_9 cA_10 cA_11 cA_12 cC_b cC_f cC_0 cC_1 cC_2 cC_3 cC_4 cC_5 cC_6 cC_7 cC_8 cC_9 cC_10 cC_11 cC_12 cE_b cE_f cE_0 cE_1 cE_2 cE_3 cE_4 cE_5 cE_6 cE_7 cE_8 cE_9 cE_10 cE_11 cE_12
 refine (R10.out (some ⟨w65.heap.size + 1, 0, none⟩) 4 4 (by decide) _ (StS.rowe (w65.heap.size + 1) (w65.alloc (.cells _ 43)) (by simp) [⟨#[49, 53, 58, 48, 48]⟩, ⟨#[45]⟩, ⟨#[37]⟩, ⟨#[120]⟩] 9 4) tp pp y (HL.out _ (below_step B65.out gr0))).mono ?_; rintro e w66 ⟨rfl, b66⟩
 have d66 : Below w65.heap.size w65 w66 := below_step gr0 b66
 have B66 := Lib.hid (below_step B65.out d66)
 have SV_66 := Lib.hid (SV_65.out.on d66)
 have SV2_66 := Lib.hid (SV2_65.out.on d66)
 have F66 := F65.keep d66
 have A66 := A65.keep d66
 have C66 := C65.keep d66
 have E66 := E65.keep d66
 clear SV_65 SV2_65 F65 A65 C65 E65 b66 d66 B65
 have tx := F66; obtain ⟨cF_b, cF_f, cF_0, cF_1, cF_2, cF_3, cF_4, cF_5, cF_6⟩ := tx
 have tx := A66; obtain ⟨cA_b, cA_f, cA_0, cA_1, cA_2, cA_3, cA_4, cA_5, cA_6, cA_7, cA_8, cA_9, cA_10, cA_11, cA_12⟩ := tx
 have tx := C66; obtain ⟨cC_b, cC_f, cC_0, cC_1, cC_2, cC_3, cC_4, cC_5, cC_6, cC_7, cC_8, cC_9, cC_10, cC_11, cC_12⟩ := tx
 have tx := E66; obtain ⟨cE_b, cE_f, cE_0, cE_1, cE_2, cE_3, cE_4, cE_5, cE_6, cE_7, cE_8, cE_9, cE_10, cE_11, cE_12⟩ := tx
 go_wp2_with fail
 clear cF_b cF_f cF_0 cF_1 cF_2 cF_3 cF_4 cF_5 cF_6 cA_b cA_f cA_0 cA_1 cA_2 cA_3 cA_4 cA_5 cA_6 cA_7 cA_8 cA_9 cA_10 cA_11 cA_12 cC_b cC_f cC_0 cC_1 cC_2 cC_3 cC_4 cC_5 cC_6 cC_7 cC_8 cC_9 cC_10 cC_11 cC_12 cE_b cE_f cE_0 cE_1 cE_2 cE_3 cE_4 cE_5 cE_6 cE_7 cE_8 cE_9 cE_10 cE_11 cE_12
 refine (R11.out (some ⟨w66.heap.size + 1, 0, none⟩) 4 4 (by decide) _ (StS.rowe (w66.heap.size + 1) (w66.alloc (.cells _ 43)) (by simp) [⟨#[49, 53, 58, 48, 48]⟩, ⟨#[45]⟩, ⟨#[67, 69, 84]⟩, ⟨#[51, 50, 55, 54, 55]⟩] 9 4) tp pp y (HL.out _ (below_step B66.out gr0))).mono ?_; rintro e w67 ⟨rfl, b67⟩
 have d67 : Below w66.heap.size w66 w67 := below_step gr0 b67
 have B67 := Lib.hid (below_step B66.out d67)
 have SV_67 := Lib.hid (SV_66.out.on d67)
 have SV2_67 := Lib.hid (SV2_66.out.on d67)
 have F67 := F66.keep d67
 have A67 := A66.keep d67
 have C67 := C66.keep d67
 have E67 := E66.keep d67
 clear SV_66 SV2_66 F66 A66 C66 E66 b67 d67 B66
 have tx := F67; obtain ⟨cF_b, cF_f, cF_0, cF_1, cF_2, cF_3, cF_4, cF_5, cF_6⟩ := tx
 have tx := A67; obtain ⟨cA_b, cA_f, cA_0, cA_1, cA_2, cA_3, cA_4, cA_5, cA_6, cA_7, cA_8, cA_9, cA_10, cA_11, cA_12⟩ := tx
 have tx := C67; obtain ⟨cC_b, cC_f, cC_0, cC_1, cC_2, cC_3, cC_4, cC_5, cC_6, cC_7, cC_8, cC_9, cC_10, cC_11, cC_12⟩ := tx
 have tx := E67; obtain ⟨cE_b, cE_f, cE_0, cE_1, cE_2, cE_3, cE_4, cE_5, cE_6, cE_7, cE_8, cE_9, cE_10, cE_11, cE_12⟩ := tx
 go_wp2_with fail
 clear cF_b cF_f cF_0 cF_1 cF_2 cF_3 cF_4 cF_5 cF_6 cA_b cA_f cA_0 cA_1 cA_2 cA_3 cA_4 cA_5 cA_6 cA_7 cA_8 cA_9 cA_10 cA_11 cA_12 cC_b cC_f cC_0 cC_1 cC_2 cC_3 cC_4 cC_5 cC_6 cC_7 cC_8 cC_9 cC_10 cC_11 cC_12 cE_b cE_f cE_0 cE_1 cE_2 cE_3 cE_4 cE_5 cE_6 cE_7 cE_8 cE_9 cE_10 cE_11 cE_12
 refine (R12.out (some ⟨w67.heap.size + 1, 0, none⟩) 6 6 (by decide) _ (StS.rowe (w67.heap.size + 1) (w67.alloc (.cells _ 43)) (by simp) [⟨#[49, 53, 58, 48, 48]⟩, ⟨#[45]⟩, ⟨#[67, 69, 84]⟩, ⟨#[53]⟩, ⟨#[70, 101, 98]⟩, ⟨#[51, 48]⟩] 9 6) tp pp y (HL.out _ (below_step B67.out gr0))).mono ?_; rintro e w68 ⟨rfl, b68⟩
 have d68 : Below w67.heap.size w67 w68 := below_step gr0 b68
 have B68 := Lib.hid (below_step B67.out d68)
 have SV_68 := Lib.hid (SV_67.out.on d68)
 have SV2_68 := Lib.hid (SV2_67.out.on d68)
 have F68 := F67.keep d68
 have A68 := A67.keep d68
 have C68 := C67.keep d68
 have E68 := E67.keep d68
 clear SV_67 SV2_67 F67 A67 C67 E67 b68 d68 B67
 have tx := F68; obtain ⟨cF_b, cF_f, cF_0, cF_1, cF_2, cF_3, cF_4, cF_5, cF_6⟩ := tx
 have tx := A68; obtain ⟨cA_b, cA_f, cA_0, cA_1, cA_2, cA_3, cA_4, cA_5, cA_6, cA_7, cA_8, cA_9, cA_10, cA_11, cA_12⟩ := tx
 have tx := C68; obtain ⟨cC_b, cC_f, cC_0, cC_1, cC_2, cC_3, cC_4, cC_5, cC_6, cC_7, cC_8, cC_9, cC_10, cC_11, cC_12⟩ := tx
 have tx := E68; obtain ⟨cE_b, cE_f, cE_0, cE_1, cE_2, cE_3, cE_4, cE_5, cE_6, cE_7, cE_8, cE_9, cE_10, cE_11, cE_12⟩ := tx
 go_wp2_with fail
 clear cF_b cF_f cF_0 cF_1 cF_2 cF_3 cF_4 cF_5 cF_6 cA_b cA_f cA_0 cA_1 cA_2 cA_3 cA_4 cA_5 cA_6 cA_7 cA_8 cA_9 cA_10 cA_11 cA_12 cC_b cC_f cC_0 cC_1 cC_2 cC_3 cC_4 cC_5 cC_6 cC_7 cC_8 cC_9 cC_10 cC_11 cC_12 cE_b cE_f cE_0 cE_1 cE_2 cE_3 cE_4 cE_5 cE_6 cE_7 cE_8 cE_9 cE_10 cE_11 cE_12
 refine (G3.out _ tp pp y (HL.out _ (below_step B68.out gr0))).mono ?_; rintro e w69 ⟨_, sV3, rfl, b69⟩
 have SV3_69 := Lib.hid sV3; obtain ⟨AV3, cV3, rfl, -⟩ := sV3
 have d69 : Below w68.heap.size w68 w69 := below_step gr0 b69
 have B69 := Lib.hid (below_step B68.out d69)
 have SV_69 := Lib.hid (SV_68.out.on d69)
 have SV2_69 := Lib.hid (SV2_68.out.on d69)
 have F69 := F68.keep d69
 have A69 := A68.keep d69
 have C69 := C68.keep d69
 have E69 := E68.keep d69
 clear SV_68 SV2_68 F68 A68 C68 E68 b69 d69 B68
 clear SV3_69
 go_upto_region 17 with (fail)
 refine wp_named ?_; intro w70 hw70
 have d70 : Below w69.heap.size w69 w70 := by rw [hw70]; exact gr0
 have B70 := Lib.hid (below_step B69.out d70)
 have SV_70 := Lib.hid (SV_69.out.on d70)
 have SV2_70 := Lib.hid (SV2_69.out.on d70)
 have F70 := F69.keep d70
 have A70 := A69.keep d70
 have C70 := C69.keep d70
 have E70 := E69.keep d70
 clear SV_69 SV2_69 F69 A69 C69 E69 d70 hw70 B69
 obtain ⟨ba, hba⟩ : ∃ b, b = (w1.heap.size) := ⟨_, rfl⟩
 obtain ⟨bc, hbc⟩ : ∃ b, b = (w4.heap.size) := ⟨_, rfl⟩
 obtain ⟨be, hbe⟩ : ∃ b, b = (w6.heap.size) := ⟨_, rfl⟩
 have XA := A70; have XC := C70; have XE := E70
 rw [← hba] at XA; rw [← hbc] at XC; rw [← hbe] at XE
 have CC := Lib.hid (show (fun W => Below w.heap.size w W ∧ StS W (.slice AV 7 cV) [⟨#[48]⟩, ⟨#[49, 58, 48, 48]⟩, ⟨#[66, 83, 84]⟩, ⟨#[49, 57, 55, 49]⟩, ⟨#[79, 99, 116]⟩, ⟨#[51, 49]⟩, ⟨#[50, 58, 48, 48, 117]⟩] ∧ StS W (.slice (some ⟨w.heap.size, 0, none⟩) 7 7) [⟨#[48]⟩, ⟨#[49, 58, 48, 48]⟩, ⟨#[66, 83, 84]⟩, ⟨#[49, 57, 55, 49]⟩, ⟨#[79, 99, 116]⟩, ⟨#[51, 49]⟩, ⟨#[50, 58, 48, 48, 117]⟩] ∧ StS W (.slice AV2 4 cV2) [⟨#[49, 58, 48, 48]⟩, ⟨#[45]⟩, ⟨#[67, 69, 84]⟩, ⟨#[49, 57, 52, 54]⟩] ∧ W.cell? ⟨ba, 0, none⟩ = some (.int .i64 0) ∧ W.cell? ⟨ba, 1, none⟩ = some (.int .i64 1) ∧ W.cell? ⟨ba, 2, none⟩ = some (.int .i64 3600) ∧ W.cell? ⟨ba, 3, none⟩ = some (.string ⟨#[]⟩) ∧ W.cell? ⟨ba, 4, none⟩ = some (.string ⟨#[66, 83, 84]⟩) ∧ W.cell? ⟨ba, 5, none⟩ = some (.bool true) ∧ W.cell? ⟨ba, 6, none⟩ = some (.int .i64 1971) ∧ W.cell? ⟨ba, 7, none⟩ = some (.int .i64 10) ∧ W.cell? ⟨ba, 8, none⟩ = some (.int .i64 0) ∧ W.cell? ⟨ba, 9, none⟩ = some (.int .i64 0) ∧ W.cell? ⟨ba, 10, none⟩ = some (.int .i64 31) ∧ W.cell? ⟨ba, 11, none⟩ = some (.int .i64 7200) ∧ W.cell? ⟨ba, 12, none⟩ = some (.int .i64 2) ∧ W.cell? ⟨bc, 0, none⟩ = some (.int .i64 3600) ∧ W.cell? ⟨bc, 5, none⟩ = some (.bool true) ∧ W.cell? ⟨bc, 6, none⟩ = some (.int .i64 1946) ∧ W.cell? ⟨bc, 7, none⟩ = some (.int .i64 1) ∧ W.cell? ⟨bc, 8, none⟩ = some (.int .i64 0) ∧ W.cell? ⟨bc, 9, none⟩ = some (.int .i64 0) ∧ W.cell? ⟨bc, 10, none⟩ = some (.int .i64 1) ∧ W.cell? ⟨bc, 11, none⟩ = some (.int .i64 0) ∧ W.cell? ⟨bc, 12, none⟩ = some (.int .i64 0) ∧ W.cell? ⟨be, 0, none⟩ = some (.int .i64 (-18000)) ∧ W.cell? ⟨be, 1, none⟩ = some (.int .i64 2) ∧ W.cell? ⟨be, 2, none⟩ = some (.int .i64 0) ∧ W.cell? ⟨be, 3, none⟩ = some (.string ⟨#[85, 83]⟩) ∧ W.cell? ⟨be, 4, none⟩ = some (.string ⟨#[69, 37, 115, 84]⟩) ∧ W.cell? ⟨be, 5, none⟩ = some (.bool false) ∧ W.cell? ⟨be, 6, none⟩ = some (.int .i64 0) ∧ W.cell? ⟨be, 7, none⟩ = some (.int .i64 0) ∧ W.cell? ⟨be, 8, none⟩ = some (.int .i64 0) ∧ W.cell? ⟨be, 9, none⟩ = some (.int .i64 0) ∧ W.cell? ⟨be, 10, none⟩ = some (.int .i64 0) ∧ W.cell? ⟨be, 11, none⟩ = some (.int .i64 0) ∧ W.cell? ⟨be, 12, none⟩ = some (.int .i64 0)) w70 from ⟨B70.out, SV_70.out, F70.sts _, SV2_70.out, XA.k0, XA.k1, XA.k2, XA.k3, XA.k4, XA.k5, XA.k6, XA.k7, XA.k8, XA.k9, XA.k10, XA.k11, XA.k12, XC.k0, XC.k5, XC.k6, XC.k7, XC.k8, XC.k9, XC.k10, XC.k11, XC.k12, XE.k0, XE.k1, XE.k2, XE.k3, XE.k4, XE.k5, XE.k6, XE.k7, XE.k8, XE.k9, XE.k10, XE.k11, XE.k12⟩)
 clear XA XC XE A70 C70 E70 F70
 simp only [← hba, ← hbc, ← hbe]
 clear hba hbc hbe
 have F1 := Lib.hid (fun (v1 v2 : Value) (W : World) (h1 : StS W v1 [⟨#[48]⟩, ⟨#[49, 58, 48, 48]⟩, ⟨#[66, 83, 84]⟩, ⟨#[49, 57, 55, 49]⟩, ⟨#[79, 99, 116]⟩, ⟨#[51, 49]⟩, ⟨#[50, 58, 48, 48, 117]⟩]) (h2 : StS W v2 [⟨#[48]⟩, ⟨#[49, 58, 48, 48]⟩, ⟨#[66, 83, 84]⟩, ⟨#[49, 57, 55, 49]⟩, ⟨#[79, 99, 116]⟩, ⟨#[51, 49]⟩, ⟨#[50, 58, 48, 48, 117]⟩]) => same13_yes v1 v2 [⟨#[48]⟩, ⟨#[49, 58, 48, 48]⟩, ⟨#[66, 83, 84]⟩, ⟨#[49, 57, 55, 49]⟩, ⟨#[79, 99, 116]⟩, ⟨#[51, 49]⟩, ⟨#[50, 58, 48, 48, 117]⟩] W (by decide) h1 h2)
 have F2 := Lib.hid (fun (v1 v2 : Value) (W : World) (h1 : StS W v1 [⟨#[49, 58, 48, 48]⟩, ⟨#[45]⟩, ⟨#[67, 69, 84]⟩, ⟨#[49, 57, 52, 54]⟩]) (h2 : StS W v2 [⟨#[49, 58, 48, 48]⟩, ⟨#[45]⟩, ⟨#[67, 69, 84]⟩, ⟨#[49, 57, 52, 54]⟩]) => same13_yes v1 v2 [⟨#[49, 58, 48, 48]⟩, ⟨#[45]⟩, ⟨#[67, 69, 84]⟩, ⟨#[49, 57, 52, 54]⟩] W (by decide) h1 h2)
 simp only [List.append]
 refine wp_region_pairs (C := fun W => Below w.heap.size w W ∧ StS W (.slice AV 7 cV) [⟨#[48]⟩, ⟨#[49, 58, 48, 48]⟩, ⟨#[66, 83, 84]⟩, ⟨#[49, 57, 55, 49]⟩, ⟨#[79, 99, 116]⟩, ⟨#[51, 49]⟩, ⟨#[50, 58, 48, 48, 117]⟩] ∧ StS W (.slice (some ⟨w.heap.size, 0, none⟩) 7 7) [⟨#[48]⟩, ⟨#[49, 58, 48, 48]⟩, ⟨#[66, 83, 84]⟩, ⟨#[49, 57, 55, 49]⟩, ⟨#[79, 99, 116]⟩, ⟨#[51, 49]⟩, ⟨#[50, 58, 48, 48, 117]⟩] ∧ StS W (.slice AV2 4 cV2) [⟨#[49, 58, 48, 48]⟩, ⟨#[45]⟩, ⟨#[67, 69, 84]⟩, ⟨#[49, 57, 52, 54]⟩] ∧ W.cell? ⟨ba, 0, none⟩ = some (.int .i64 0) ∧ W.cell? ⟨ba, 1, none⟩ = some (.int .i64 1) ∧ W.cell? ⟨ba, 2, none⟩ = some (.int .i64 3600) ∧ W.cell? ⟨ba, 3, none⟩ = some (.string ⟨#[]⟩) ∧ W.cell? ⟨ba, 4, none⟩ = some (.string ⟨#[66, 83, 84]⟩) ∧ W.cell? ⟨ba, 5, none⟩ = some (.bool true) ∧ W.cell? ⟨ba, 6, none⟩ = some (.int .i64 1971) ∧ W.cell? ⟨ba, 7, none⟩ = some (.int .i64 10) ∧ W.cell? ⟨ba, 8, none⟩ = some (.int .i64 0) ∧ W.cell? ⟨ba, 9, none⟩ = some (.int .i64 0) ∧ W.cell? ⟨ba, 10, none⟩ = some (.int .i64 31) ∧ W.cell? ⟨ba, 11, none⟩ = some (.int .i64 7200) ∧ W.cell? ⟨ba, 12, none⟩ = some (.int .i64 2) ∧ W.cell? ⟨bc, 0, none⟩ = some (.int .i64 3600) ∧ W.cell? ⟨bc, 5, none⟩ = some (.bool true) ∧ W.cell? ⟨bc, 6, none⟩ = some (.int .i64 1946) ∧ W.cell? ⟨bc, 7, none⟩ = some (.int .i64 1) ∧ W.cell? ⟨bc, 8, none⟩ = some (.int .i64 0) ∧ W.cell? ⟨bc, 9, none⟩ = some (.int .i64 0) ∧ W.cell? ⟨bc, 10, none⟩ = some (.int .i64 1) ∧ W.cell? ⟨bc, 11, none⟩ = some (.int .i64 0) ∧ W.cell? ⟨bc, 12, none⟩ = some (.int .i64 0) ∧ W.cell? ⟨be, 0, none⟩ = some (.int .i64 (-18000)) ∧ W.cell? ⟨be, 1, none⟩ = some (.int .i64 2) ∧ W.cell? ⟨be, 2, none⟩ = some (.int .i64 0) ∧ W.cell? ⟨be, 3, none⟩ = some (.string ⟨#[85, 83]⟩) ∧ W.cell? ⟨be, 4, none⟩ = some (.string ⟨#[69, 37, 115, 84]⟩) ∧ W.cell? ⟨be, 5, none⟩ = some (.bool false) ∧ W.cell? ⟨be, 6, none⟩ = some (.int .i64 0) ∧ W.cell? ⟨be, 7, none⟩ = some (.int .i64 0) ∧ W.cell? ⟨be, 8, none⟩ = some (.int .i64 0) ∧ W.cell? ⟨be, 9, none⟩ = some (.int .i64 0) ∧ W.cell? ⟨be, 10, none⟩ = some (.int .i64 0) ∧ W.cell? ⟨be, 11, none⟩ = some (.int .i64 0) ∧ W.cell? ⟨be, 12, none⟩ = some (.int .i64 0)) (R := markR [(fun v _ => v = Value.agg #[Value.int IntKind.i64 0, Value.int IntKind.i64 1, Value.int IntKind.i64 3600, Value.string { data := #[] }, Value.string { data := #[66, 83, 84] }, Value.bool true, Value.int IntKind.i64 1971, Value.int IntKind.i64 10, Value.int IntKind.i64 0, Value.int IntKind.i64 0, Value.int IntKind.i64 31, Value.int IntKind.i64 7200, Value.int IntKind.i64 2]), (fun v _ => v = Value.agg #[Value.int IntKind.i64 0, Value.int IntKind.i64 1, Value.int IntKind.i64 3600, Value.string { data := #[] }, Value.string { data := #[66, 83, 84] }, Value.bool true, Value.int IntKind.i64 1971, Value.int IntKind.i64 10, Value.int IntKind.i64 0, Value.int IntKind.i64 0, Value.int IntKind.i64 31, Value.int IntKind.i64 7200, Value.int IntKind.i64 2]), (fun v _ => v = Value.bool true), (fun v _ => v = Value.bool true), (fun v _ => v = Value.int IntKind.i64 0), (fun v _ => v = Value.bool true), (fun v _ => v = Value.bool true), (fun v _ => v = Value.bool true), (fun v _ => v = Value.slice AV 7 cV), (fun v _ => v = Value.slice (some { block := w.heap.size, off := 0 }) 7 7), (fun v _ => v = Value.bool true), (fun v _ => v = Value.bool true), (fun v _ => v = Value.bool true), (fun v _ => v = Value.int IntKind.i64 0), (fun v _ => v = Value.bool true), (fun v _ => v = Value.bool true), (fun v _ => v = Value.bool true), (fun v _ => v = Value.pointer (some { block := bc, off := 0 })), (fun v _ => v = Value.int IntKind.i64 3600), (fun v _ => v = Value.bool true), (fun v _ => v = Value.bool true), (fun v _ => v = Value.bool true), (fun v _ => v = Value.pointer (some { block := bc, off := 5 })), (fun v _ => v = Value.agg #[Value.bool true, Value.int IntKind.i64 1946, Value.int IntKind.i64 1, Value.int IntKind.i64 0, Value.int IntKind.i64 0, Value.int IntKind.i64 1, Value.int IntKind.i64 0, Value.int IntKind.i64 0]), (fun v _ => v = Value.agg #[Value.int IntKind.i64 0, Value.int IntKind.i64 0, Value.int IntKind.i64 1]), (fun v _ => v = Value.agg #[Value.bool true, Value.int IntKind.i64 1946, Value.int IntKind.i64 1, Value.int IntKind.i64 0, Value.int IntKind.i64 0, Value.int IntKind.i64 1, Value.int IntKind.i64 0, Value.int IntKind.i64 0]), (fun v _ => v = Value.bool true), (fun v _ => v = Value.bool true), (fun v _ => v = Value.bool true), (fun v _ => v = Value.int IntKind.i64 0), (fun v _ => v = Value.bool true), (fun v _ => v = Value.bool true), (fun v _ => v = Value.bool true), (fun v _ => v = Value.slice AV2 4 cV2), (fun v W => ∃ u, v = Value.slice (some ⟨u, 0, none⟩) 4 4 ∧ StS W v [⟨#[49, 58, 48, 48]⟩, ⟨#[45]⟩, ⟨#[67, 69, 84]⟩, ⟨#[49, 57, 52, 54]⟩]), (fun v _ => v = Value.bool true), (fun v _ => v = Value.bool true), (fun v _ => v = Value.bool true), (fun v _ => v = Value.int IntKind.i64 0), (fun v _ => v = Value.bool true), (fun v _ => v = Value.bool true), (fun v _ => v = Value.bool true), (fun v _ => v = Value.agg #[Value.int IntKind.i64 (-18000), Value.int IntKind.i64 2, Value.int IntKind.i64 0, Value.string { data := #[85, 83] }, Value.string { data := #[69, 37, 115, 84] }, Value.bool false, Value.int IntKind.i64 0, Value.int IntKind.i64 0, Value.int IntKind.i64 0, Value.int IntKind.i64 0, Value.int IntKind.i64 0, Value.int IntKind.i64 0, Value.int IntKind.i64 0]), (fun v _ => v = Value.agg #[Value.int IntKind.i64 (-18000), Value.int IntKind.i64 2, Value.int IntKind.i64 0, Value.string { data := #[85, 83] }, Value.string { data := #[69, 37, 115, 84] }, Value.bool false, Value.int IntKind.i64 0, Value.int IntKind.i64 0, Value.int IntKind.i64 0, Value.int IntKind.i64 0, Value.int IntKind.i64 0, Value.int IntKind.i64 0, Value.int IntKind.i64 0]), (fun v _ => v = Value.bool true), (fun v _ => v = Value.bool true), (fun v _ => v = Value.bool true), (fun v _ => v = Value.int IntKind.i64 0), (fun v _ => v = Value.bool true), (fun v _ => v = Value.bool true), (fun v _ => v = Value.bool true), (fun v _ => v = Value.int IntKind.i64 5), (fun v _ => v = Value.bool true), (fun v _ => v = Value.bool true), (fun v _ => v = Value.bool true), (fun v _ => v = Value.int IntKind.i64 6), (fun v _ => v = Value.bool true), (fun v _ => v = Value.bool true), (fun v _ => v = Value.bool true), (fun v _ => v = Value.int IntKind.i64 1), (fun v _ => v = Value.bool true), (fun v _ => v = Value.bool true), (fun v _ => v = Value.bool true), (fun v _ => v = Value.int IntKind.i64 2), (fun v _ => v = Value.bool true), (fun v _ => v = Value.bool true), (fun v _ => v = Value.bool true), (fun v _ => v = Value.int IntKind.i64 10), (fun v _ => v = Value.bool true), (fun v _ => v = Value.bool true), (fun v _ => v = Value.bool true), (fun v _ => v = Value.int IntKind.i64 1), (fun v _ => v = Value.bool true), (fun v _ => v = Value.bool true), (fun v _ => v = Value.bool true), (fun v _ => v = Value.int IntKind.i64 4), (fun v _ => v = Value.bool true), (fun v _ => v = Value.bool true), (fun v _ => v = Value.bool true), (fun v _ => v = Value.int IntKind.i64 1), (fun v _ => v = Value.bool true), (fun v _ => v = Value.bool true), (fun v _ => v = Value.bool true), (fun v _ => v = Value.int IntKind.i64 1), (fun v _ => v = Value.bool true), (fun v _ => v = Value.bool true), (fun v _ => v = Value.bool true), (fun v _ => v = Value.int IntKind.i64 4), (fun v _ => v = Value.bool true), (fun v _ => v = Value.bool true), (fun v _ => v = Value.bool true), (fun v _ => v = Value.agg #[Value.int IntKind.i64 0, Value.int IntKind.i64 1, Value.int IntKind.i64 3600, Value.string { data := #[] }, Value.string { data := #[66, 83, 84] }, Value.bool true, Value.int IntKind.i64 1971, Value.int IntKind.i64 10, Value.int IntKind.i64 0, Value.int IntKind.i64 0, Value.int IntKind.i64 31, Value.int IntKind.i64 7200, Value.int IntKind.i64 2]), (fun v _ => v = Value.bool true), (fun v _ => v = Value.bool true), (fun v _ => v = Value.bool true), (fun v _ => v = Value.agg #[Value.int IntKind.i64 0, Value.int IntKind.i64 0, Value.int IntKind.i64 0, Value.string { data := #[] }, Value.string { data := #[] }, Value.bool false, Value.int IntKind.i64 0, Value.int IntKind.i64 0, Value.int IntKind.i64 0, Value.int IntKind.i64 0, Value.int IntKind.i64 0, Value.int IntKind.i64 0, Value.int IntKind.i64 0]), (fun v _ => v = Value.bool false), (fun v _ => v = Value.bool true), (fun v _ => v = Value.bool true), (fun v _ => v = Value.bool true)]) (G := fun W W' => Below W.heap.size W W') (by rfl) ?hbeg ⟨by kernel_rfl, by kernel_rfl, by kernel_rfl, ?hkeep, ?hstab, Obs.all ?hobs, ?hlast⟩
 case hbeg =>
  try dsimp only
  exact keep22 ((Below.refl _ _).drew) CC.out
 case hkeep =>
  intro w' w'' hC hG
  try dsimp only at hC hG ⊢
  exact keep22 hG hC
 case hstab =>
  refine StableL.all ?_
  repeat (first | exact trivial | refine ⟨(by first | exact (fun _ _ _ _ h => h) | (exact fun v W W' hG h => by obtain ⟨u, hv, hs⟩ := h; exact ⟨u, hv, hs.on hG⟩)), ?_⟩)
 case hobs =>
  refine Obs.cons (k' := 1) rfl ?_ ?_
  ·
   intro fa W hW hSame hRR KK hKK
   try dsimp only at hW
   have fb2 := hSame.base 2 (by kernel_rfl)
   simp only [List.getElem?_toArray, List.getElem?_cons_succ, List.getElem?_cons_zero] at fb2
   replace hKK := kq (Value.agg #[Value.int IntKind.i64 0, Value.int IntKind.i64 1, Value.int IntKind.i64 3600, Value.string { data := #[] }, Value.string { data := #[66, 83, 84] }, Value.bool true, Value.int IntKind.i64 1971, Value.int IntKind.i64 10, Value.int IntKind.i64 0, Value.int IntKind.i64 0, Value.int IntKind.i64 31, Value.int IntKind.i64 7200, Value.int IntKind.i64 2]) hKK
   clear hSame hRR
   rw [if_pos (wanted_plain rfl)]
   go_simp
   refine hKK _ _ ?_ ?_
   ·
    exact grP
   ·
    exact rfl
  refine Obs.cons (k' := 2) rfl ?_ ?_
  ·
   intro fa W hW hSame hRR KK hKK
   try dsimp only at hW
   replace hKK := kq (Value.agg #[Value.int IntKind.i64 0, Value.int IntKind.i64 1, Value.int IntKind.i64 3600, Value.string { data := #[] }, Value.string { data := #[66, 83, 84] }, Value.bool true, Value.int IntKind.i64 1971, Value.int IntKind.i64 10, Value.int IntKind.i64 0, Value.int IntKind.i64 0, Value.int IntKind.i64 31, Value.int IntKind.i64 7200, Value.int IntKind.i64 2]) hKK
   clear hSame hRR
   rw [if_pos (wanted_plain rfl)]
   go_simp
   first
    | (go_at_call 59; refine (gb_any _).mono ?_; rintro e w' ⟨rfl, hb⟩)
    | (go_at_call 12; first
      | ((with_reducible refine (F1.out _ _ _ hW.2.1 hW.2.2.1).mono ?_); rintro e w' ⟨rfl, hb⟩)
      | ((with_reducible refine (F2.out _ _ _ hW.2.2.2.1 fm34).mono ?_); rintro e w' ⟨rfl, hb⟩))
    | (go_at_call 22; first
      | ((with_reducible refine (X1.out _ tp pp y (HL.out _ hW.1)).mono ?_); rintro e w' ⟨rfl, hb⟩)
      | ((with_reducible refine (X2.out _ tp pp y (HL.out _ hW.1)).mono ?_); rintro e w' ⟨rfl, hb⟩))
   try dsimp only
   refine hKK _ _ ?_ ?_
   ·
    exact grP
   ·
    exact rfl
  refine Obs.cons (k' := 3) rfl ?_ ?_
  ·
   intro fa W hW hSame hRR KK hKK
   try dsimp only at hW
   obtain ⟨fv0, ft0, (rfl : fv0 = Value.agg #[Value.int IntKind.i64 0, Value.int IntKind.i64 1, Value.int IntKind.i64 3600, Value.string { data := #[] }, Value.string { data := #[66, 83, 84] }, Value.bool true, Value.int IntKind.i64 1971, Value.int IntKind.i64 10, Value.int IntKind.i64 0, Value.int IntKind.i64 0, Value.int IntKind.i64 31, Value.int IntKind.i64 7200, Value.int IntKind.i64 2])⟩ := hRR 0 _ 113 rfl rfl (by kernel_rfl)
   obtain ⟨fv1, ft1, (rfl : fv1 = Value.agg #[Value.int IntKind.i64 0, Value.int IntKind.i64 1, Value.int IntKind.i64 3600, Value.string { data := #[] }, Value.string { data := #[66, 83, 84] }, Value.bool true, Value.int IntKind.i64 1971, Value.int IntKind.i64 10, Value.int IntKind.i64 0, Value.int IntKind.i64 0, Value.int IntKind.i64 31, Value.int IntKind.i64 7200, Value.int IntKind.i64 2])⟩ := hRR 1 _ 114 rfl rfl (by kernel_rfl)
   replace hKK := kq (Value.bool true) hKK
   clear hSame hRR
   rw [if_pos (wanted_plain rfl)]
   go_simp
   refine hKK _ _ ?_ ?_
   ·
    exact grP
   ·
    exact rfl
  refine Obs.cons (k' := 4) rfl ?_ ?_
  ·
   intro fa W hW hSame hRR KK hKK
   try dsimp only at hW
   obtain ⟨fv2, ft2, (rfl : fv2 = Value.bool true)⟩ := hRR 2 _ 115 rfl rfl (by kernel_rfl)
   replace hKK := kq (Value.bool true) hKK
   clear hSame hRR
   rw [if_pos (wanted_plain rfl)]
   go_simp
   refine hKK _ _ ?_ ?_
   ·
    exact grP
   ·
    exact rfl
  refine Obs.cons (k' := 5) rfl ?_ ?_
  ·
   intro fa W hW hSame hRR KK hKK
   try dsimp only at hW
   obtain ⟨fv3, ft3, (rfl : fv3 = Value.bool true)⟩ := hRR 3 _ 116 rfl rfl (by kernel_rfl)
   have fb3 := hSame.base 3 (by kernel_rfl)
   simp only [List.getElem?_toArray, List.getElem?_cons_succ, List.getElem?_cons_zero] at fb3
   replace hKK := kq (Value.int IntKind.i64 0) hKK
   clear hSame hRR
   rw [wanted_guard rfl rfl rfl ft3]
   first | rw [if_pos (by rfl)] | rw [if_neg (by decide)]
   go_simp
   refine hKK _ _ ?_ ?_
   ·
    exact grP
   ·
    exact rfl
  refine Obs.cons (k' := 6) rfl ?_ ?_
  ·
   intro fa W hW hSame hRR KK hKK
   try dsimp only at hW
   obtain ⟨fv4, ft4, (rfl : fv4 = Value.int IntKind.i64 0)⟩ := hRR 4 _ 117 rfl rfl (by kernel_rfl)
   obtain ⟨fv3, ft3, (rfl : fv3 = Value.bool true)⟩ := hRR 3 _ 116 rfl rfl (by kernel_rfl)
   replace hKK := kq (Value.bool true) hKK
   clear hSame hRR
   rw [wanted_guard rfl rfl rfl ft3]
   first | rw [if_pos (by rfl)] | rw [if_neg (by decide)]
   go_simp
   refine hKK _ _ ?_ ?_
   ·
    exact grP
   ·
    exact rfl
  refine Obs.cons (k' := 7) rfl ?_ ?_
  ·
   intro fa W hW hSame hRR KK hKK
   try dsimp only at hW
   obtain ⟨fv3, ft3, (rfl : fv3 = Value.bool true)⟩ := hRR 3 _ 116 rfl rfl (by kernel_rfl)
   obtain ⟨fv5, ft5, (rfl : fv5 = Value.bool true)⟩ := hRR 5 _ 118 rfl rfl (by kernel_rfl)
   replace hKK := kq (Value.bool true) hKK
   clear hSame hRR
   rw [if_pos (wanted_plain rfl)]
   go_simp
   refine hKK _ _ ?_ ?_
   ·
    exact grP
   ·
    exact rfl
  refine Obs.cons (k' := 8) rfl ?_ ?_
  ·
   intro fa W hW hSame hRR KK hKK
   try dsimp only at hW
   obtain ⟨fv6, ft6, (rfl : fv6 = Value.bool true)⟩ := hRR 6 _ 119 rfl rfl (by kernel_rfl)
   replace hKK := kq (Value.bool true) hKK
   clear hSame hRR
   rw [if_pos (wanted_plain rfl)]
   go_simp
   refine hKK _ _ ?_ ?_
   ·
    exact grP
   ·
    exact rfl
  refine Obs.cons (k' := 9) rfl ?_ ?_
  ·
   intro fa W hW hSame hRR KK hKK
   try dsimp only at hW
   obtain ⟨fv7, ft7, (rfl : fv7 = Value.bool true)⟩ := hRR 7 _ 120 rfl rfl (by kernel_rfl)
   have fb4 := hSame.base 4 (by kernel_rfl)
   simp only [List.getElem?_toArray, List.getElem?_cons_succ, List.getElem?_cons_zero] at fb4
   replace hKK := kq (Value.slice AV 7 cV) hKK
   clear hSame hRR
   rw [wanted_guard rfl rfl rfl ft7]
   first | rw [if_pos (by rfl)] | rw [if_neg (by decide)]
   go_simp
   refine hKK _ _ ?_ ?_
   ·
    exact grP
   ·
    exact rfl
  refine Obs.cons (k' := 10) rfl ?_ ?_
  ·
   intro fa W hW hSame hRR KK hKK
   try dsimp only at hW
   obtain ⟨fv7, ft7, (rfl : fv7 = Value.bool true)⟩ := hRR 7 _ 120 rfl rfl (by kernel_rfl)
   have fb1 := hSame.base 1 (by kernel_rfl)
   simp only [List.getElem?_toArray, List.getElem?_cons_succ, List.getElem?_cons_zero] at fb1
   replace hKK := kq (Value.slice (some { block := w.heap.size, off := 0 }) 7 7) hKK
   clear hSame hRR
   rw [wanted_guard rfl rfl rfl ft7]
   first | rw [if_pos (by rfl)] | rw [if_neg (by decide)]
   go_simp
   refine hKK _ _ ?_ ?_
   ·
    exact grP
   ·
    exact rfl
  refine Obs.cons (k' := 11) rfl ?_ ?_
  ·
   intro fa W hW hSame hRR KK hKK
   try dsimp only at hW
   obtain ⟨fv8, ft8, (rfl : fv8 = Value.slice AV 7 cV)⟩ := hRR 8 _ 121 rfl rfl (by kernel_rfl)
   obtain ⟨fv9, ft9, (rfl : fv9 = Value.slice (some { block := w.heap.size, off := 0 }) 7 7)⟩ := hRR 9 _ 122 rfl rfl (by kernel_rfl)
   obtain ⟨fv7, ft7, (rfl : fv7 = Value.bool true)⟩ := hRR 7 _ 120 rfl rfl (by kernel_rfl)
   replace hKK := kq (Value.bool true) hKK
   clear hSame hRR
   rw [wanted_guard rfl rfl rfl ft7]
   first | rw [if_pos (by rfl)] | rw [if_neg (by decide)]
   go_simp
   first
    | (go_at_call 59; refine (gb_any _).mono ?_; rintro e w' ⟨rfl, hb⟩)
    | (go_at_call 12; first
      | ((with_reducible refine (F1.out _ _ _ hW.2.1 hW.2.2.1).mono ?_); rintro e w' ⟨rfl, hb⟩)
      | ((with_reducible refine (F2.out _ _ _ hW.2.2.2.1 fm34).mono ?_); rintro e w' ⟨rfl, hb⟩))
    | (go_at_call 22; first
      | ((with_reducible refine (X1.out _ tp pp y (HL.out _ hW.1)).mono ?_); rintro e w' ⟨rfl, hb⟩)
      | ((with_reducible refine (X2.out _ tp pp y (HL.out _ hW.1)).mono ?_); rintro e w' ⟨rfl, hb⟩))
   try dsimp only
   refine hKK _ _ ?_ ?_
   ·
    exact grP
   ·
    exact rfl
  refine Obs.cons (k' := 12) rfl ?_ ?_
  ·
   intro fa W hW hSame hRR KK hKK
   try dsimp only at hW
   obtain ⟨fv7, ft7, (rfl : fv7 = Value.bool true)⟩ := hRR 7 _ 120 rfl rfl (by kernel_rfl)
   obtain ⟨fv10, ft10, (rfl : fv10 = Value.bool true)⟩ := hRR 10 _ 123 rfl rfl (by kernel_rfl)
   replace hKK := kq (Value.bool true) hKK
   clear hSame hRR
   rw [if_pos (wanted_plain rfl)]
   go_simp
   refine hKK _ _ ?_ ?_
   ·
    exact grP
   ·
    exact rfl
  refine Obs.cons (k' := 13) rfl ?_ ?_
  ·
   intro fa W hW hSame hRR KK hKK
   try dsimp only at hW
   obtain ⟨fv11, ft11, (rfl : fv11 = Value.bool true)⟩ := hRR 11 _ 124 rfl rfl (by kernel_rfl)
   replace hKK := kq (Value.bool true) hKK
   clear hSame hRR
   rw [if_pos (wanted_plain rfl)]
   go_simp
   refine hKK _ _ ?_ ?_
   ·
    exact grP
   ·
    exact rfl
  refine Obs.cons (k' := 14) rfl ?_ ?_
  ·
   intro fa W hW hSame hRR KK hKK
   try dsimp only at hW
   obtain ⟨fv12, ft12, (rfl : fv12 = Value.bool true)⟩ := hRR 12 _ 125 rfl rfl (by kernel_rfl)
   have fb5 := hSame.base 5 (by kernel_rfl)
   simp only [List.getElem?_toArray, List.getElem?_cons_succ, List.getElem?_cons_zero] at fb5
   replace hKK := kq (Value.int IntKind.i64 0) hKK
   clear hSame hRR
   rw [wanted_guard rfl rfl rfl ft12]
   first | rw [if_pos (by rfl)] | rw [if_neg (by decide)]
   go_simp
   refine hKK _ _ ?_ ?_
   ·
    exact grP
   ·
    exact rfl
  refine Obs.cons (k' := 15) rfl ?_ ?_
  ·
   intro fa W hW hSame hRR KK hKK
   try dsimp only at hW
   obtain ⟨fv13, ft13, (rfl : fv13 = Value.int IntKind.i64 0)⟩ := hRR 13 _ 126 rfl rfl (by kernel_rfl)
   obtain ⟨fv12, ft12, (rfl : fv12 = Value.bool true)⟩ := hRR 12 _ 125 rfl rfl (by kernel_rfl)
   replace hKK := kq (Value.bool true) hKK
   clear hSame hRR
   rw [wanted_guard rfl rfl rfl ft12]
   first | rw [if_pos (by rfl)] | rw [if_neg (by decide)]
   go_simp
   refine hKK _ _ ?_ ?_
   ·
    exact grP
   ·
    exact rfl
  refine Obs.cons (k' := 16) rfl ?_ ?_
  ·
   intro fa W hW hSame hRR KK hKK
   try dsimp only at hW
   obtain ⟨fv12, ft12, (rfl : fv12 = Value.bool true)⟩ := hRR 12 _ 125 rfl rfl (by kernel_rfl)
   obtain ⟨fv14, ft14, (rfl : fv14 = Value.bool true)⟩ := hRR 14 _ 127 rfl rfl (by kernel_rfl)
   replace hKK := kq (Value.bool true) hKK
   clear hSame hRR
   rw [if_pos (wanted_plain rfl)]
   go_simp
   refine hKK _ _ ?_ ?_
   ·
    exact grP
   ·
    exact rfl
  refine Obs.cons (k' := 17) rfl ?_ ?_
  ·
   intro fa W hW hSame hRR KK hKK
   try dsimp only at hW
   obtain ⟨fv15, ft15, (rfl : fv15 = Value.bool true)⟩ := hRR 15 _ 128 rfl rfl (by kernel_rfl)
   replace hKK := kq (Value.bool true) hKK
   clear hSame hRR
   rw [if_pos (wanted_plain rfl)]
   go_simp
   refine hKK _ _ ?_ ?_
   ·
    exact grP
   ·
    exact rfl
  refine Obs.cons (k' := 18) rfl ?_ ?_
  ·
   intro fa W hW hSame hRR KK hKK
   try dsimp only at hW
   obtain ⟨fv16, ft16, (rfl : fv16 = Value.bool true)⟩ := hRR 16 _ 129 rfl rfl (by kernel_rfl)
   have fb6 := hSame.base 6 (by kernel_rfl)
   simp only [List.getElem?_toArray, List.getElem?_cons_succ, List.getElem?_cons_zero] at fb6
   replace hKK := kq (Value.pointer (some { block := bc, off := 0 })) hKK
   clear hSame hRR
   rw [wanted_guard rfl rfl rfl ft16]
   first | rw [if_pos (by rfl)] | rw [if_neg (by decide)]
   go_simp
   refine hKK _ _ ?_ ?_
   ·
    exact grP
   ·
    exact rfl
  refine Obs.cons (k' := 19) rfl ?_ ?_
  ·
   intro fa W hW hSame hRR KK hKK
   try dsimp only at hW
   obtain ⟨fv17, ft17, (rfl : fv17 = Value.pointer (some { block := bc, off := 0 }))⟩ := hRR 17 _ 130 rfl rfl (by kernel_rfl)
   obtain ⟨fv16, ft16, (rfl : fv16 = Value.bool true)⟩ := hRR 16 _ 129 rfl rfl (by kernel_rfl)
   replace hKK := kq (Value.int IntKind.i64 3600) hKK
   clear hSame hRR
   rw [wanted_guard rfl rfl rfl ft16]
   first | rw [if_pos (by rfl)] | rw [if_neg (by decide)]
   go_simp
   refine hKK _ _ ?_ ?_
   ·
    exact grP
   ·
    exact rfl
  refine Obs.cons (k' := 20) rfl ?_ ?_
  ·
   intro fa W hW hSame hRR KK hKK
   try dsimp only at hW
   obtain ⟨fv18, ft18, (rfl : fv18 = Value.int IntKind.i64 3600)⟩ := hRR 18 _ 131 rfl rfl (by kernel_rfl)
   obtain ⟨fv16, ft16, (rfl : fv16 = Value.bool true)⟩ := hRR 16 _ 129 rfl rfl (by kernel_rfl)
   replace hKK := kq (Value.bool true) hKK
   clear hSame hRR
   rw [wanted_guard rfl rfl rfl ft16]
   first | rw [if_pos (by rfl)] | rw [if_neg (by decide)]
   go_simp
   refine hKK _ _ ?_ ?_
   ·
    exact grP
   ·
    exact rfl
  refine Obs.cons (k' := 21) rfl ?_ ?_
  ·
   intro fa W hW hSame hRR KK hKK
   try dsimp only at hW
   obtain ⟨fv16, ft16, (rfl : fv16 = Value.bool true)⟩ := hRR 16 _ 129 rfl rfl (by kernel_rfl)
   obtain ⟨fv19, ft19, (rfl : fv19 = Value.bool true)⟩ := hRR 19 _ 132 rfl rfl (by kernel_rfl)
   replace hKK := kq (Value.bool true) hKK
   clear hSame hRR
   rw [if_pos (wanted_plain rfl)]
   go_simp
   refine hKK _ _ ?_ ?_
   ·
    exact grP
   ·
    exact rfl
  refine Obs.cons (k' := 22) rfl ?_ ?_
  ·
   intro fa W hW hSame hRR KK hKK
   try dsimp only at hW
   obtain ⟨fv20, ft20, (rfl : fv20 = Value.bool true)⟩ := hRR 20 _ 133 rfl rfl (by kernel_rfl)
   replace hKK := kq (Value.bool true) hKK
   clear hSame hRR
   rw [if_pos (wanted_plain rfl)]
   go_simp
   refine hKK _ _ ?_ ?_
   ·
    exact grP
   ·
    exact rfl
  refine Obs.cons (k' := 23) rfl ?_ ?_
  ·
   intro fa W hW hSame hRR KK hKK
   try dsimp only at hW
   obtain ⟨fv21, ft21, (rfl : fv21 = Value.bool true)⟩ := hRR 21 _ 134 rfl rfl (by kernel_rfl)
   have fb6 := hSame.base 6 (by kernel_rfl)
   simp only [List.getElem?_toArray, List.getElem?_cons_succ, List.getElem?_cons_zero] at fb6
   replace hKK := kq (Value.pointer (some { block := bc, off := 5 })) hKK
   clear hSame hRR
   rw [wanted_guard rfl rfl rfl ft21]
   first | rw [if_pos (by rfl)] | rw [if_neg (by decide)]
   go_simp
   refine hKK _ _ ?_ ?_
   ·
    exact grP
   ·
    exact rfl
  refine Obs.cons (k' := 24) rfl ?_ ?_
  ·
   intro fa W hW hSame hRR KK hKK
   try dsimp only at hW
   obtain ⟨fv22, ft22, (rfl : fv22 = Value.pointer (some { block := bc, off := 5 }))⟩ := hRR 22 _ 135 rfl rfl (by kernel_rfl)
   obtain ⟨fv21, ft21, (rfl : fv21 = Value.bool true)⟩ := hRR 21 _ 134 rfl rfl (by kernel_rfl)
   replace hKK := kq (Value.agg #[Value.bool true, Value.int IntKind.i64 1946, Value.int IntKind.i64 1, Value.int IntKind.i64 0, Value.int IntKind.i64 0, Value.int IntKind.i64 1, Value.int IntKind.i64 0, Value.int IntKind.i64 0]) hKK
   clear hSame hRR
   rw [wanted_guard rfl rfl rfl ft21]
   first | rw [if_pos (by rfl)] | rw [if_neg (by decide)]
   go_simp
   refine hKK _ _ ?_ ?_
   ·
    exact grP
   ·
    exact rfl
  refine Obs.cons (k' := 25) rfl ?_ ?_
  ·
   intro fa W hW hSame hRR KK hKK
   try dsimp only at hW
   obtain ⟨fv21, ft21, (rfl : fv21 = Value.bool true)⟩ := hRR 21 _ 134 rfl rfl (by kernel_rfl)
   replace hKK := kq (Value.agg #[Value.int IntKind.i64 0, Value.int IntKind.i64 0, Value.int IntKind.i64 1]) hKK
   clear hSame hRR
   rw [wanted_guard rfl rfl rfl ft21]
   first | rw [if_pos (by rfl)] | rw [if_neg (by decide)]
   go_simp
   refine hKK _ _ ?_ ?_
   ·
    exact grP
   ·
    exact rfl
  refine Obs.cons (k' := 26) rfl ?_ ?_
  ·
   intro fa W hW hSame hRR KK hKK
   try dsimp only at hW
   obtain ⟨fv24, ft24, (rfl : fv24 = Value.agg #[Value.int IntKind.i64 0, Value.int IntKind.i64 0, Value.int IntKind.i64 1])⟩ := hRR 24 _ 137 rfl rfl (by kernel_rfl)
   obtain ⟨fv21, ft21, (rfl : fv21 = Value.bool true)⟩ := hRR 21 _ 134 rfl rfl (by kernel_rfl)
   replace hKK := kq (Value.agg #[Value.bool true, Value.int IntKind.i64 1946, Value.int IntKind.i64 1, Value.int IntKind.i64 0, Value.int IntKind.i64 0, Value.int IntKind.i64 1, Value.int IntKind.i64 0, Value.int IntKind.i64 0]) hKK
   clear hSame hRR
   rw [wanted_guard rfl rfl rfl ft21]
   first | rw [if_pos (by rfl)] | rw [if_neg (by decide)]
   go_simp
   refine hKK _ _ ?_ ?_
   ·
    exact grP
   ·
    exact rfl
  refine Obs.cons (k' := 27) rfl ?_ ?_
  ·
   intro fa W hW hSame hRR KK hKK
   try dsimp only at hW
   obtain ⟨fv23, ft23, (rfl : fv23 = Value.agg #[Value.bool true, Value.int IntKind.i64 1946, Value.int IntKind.i64 1, Value.int IntKind.i64 0, Value.int IntKind.i64 0, Value.int IntKind.i64 1, Value.int IntKind.i64 0, Value.int IntKind.i64 0])⟩ := hRR 23 _ 136 rfl rfl (by kernel_rfl)
   obtain ⟨fv25, ft25, (rfl : fv25 = Value.agg #[Value.bool true, Value.int IntKind.i64 1946, Value.int IntKind.i64 1, Value.int IntKind.i64 0, Value.int IntKind.i64 0, Value.int IntKind.i64 1, Value.int IntKind.i64 0, Value.int IntKind.i64 0])⟩ := hRR 25 _ 138 rfl rfl (by kernel_rfl)
   obtain ⟨fv21, ft21, (rfl : fv21 = Value.bool true)⟩ := hRR 21 _ 134 rfl rfl (by kernel_rfl)
   replace hKK := kq (Value.bool true) hKK
   clear hSame hRR
   rw [wanted_guard rfl rfl rfl ft21]
   first | rw [if_pos (by rfl)] | rw [if_neg (by decide)]
   go_simp
   refine hKK _ _ ?_ ?_
   ·
    exact grP
   ·
    exact rfl
  refine Obs.cons (k' := 28) rfl ?_ ?_
  ·
   intro fa W hW hSame hRR KK hKK
   try dsimp only at hW
   obtain ⟨fv21, ft21, (rfl : fv21 = Value.bool true)⟩ := hRR 21 _ 134 rfl rfl (by kernel_rfl)
   obtain ⟨fv26, ft26, (rfl : fv26 = Value.bool true)⟩ := hRR 26 _ 139 rfl rfl (by kernel_rfl)
   replace hKK := kq (Value.bool true) hKK
   clear hSame hRR
   rw [if_pos (wanted_plain rfl)]
   go_simp
   refine hKK _ _ ?_ ?_
   ·
    exact grP
   ·
    exact rfl
  refine Obs.cons (k' := 29) rfl ?_ ?_
  ·
   intro fa W hW hSame hRR KK hKK
   try dsimp only at hW
   obtain ⟨fv27, ft27, (rfl : fv27 = Value.bool true)⟩ := hRR 27 _ 140 rfl rfl (by kernel_rfl)
   replace hKK := kq (Value.bool true) hKK
   clear hSame hRR
   rw [if_pos (wanted_plain rfl)]
   go_simp
   refine hKK _ _ ?_ ?_
   ·
    exact grP
   ·
    exact rfl
  refine Obs.cons (k' := 30) rfl ?_ ?_
  ·
   intro fa W hW hSame hRR KK hKK
   try dsimp only at hW
   obtain ⟨fv28, ft28, (rfl : fv28 = Value.bool true)⟩ := hRR 28 _ 141 rfl rfl (by kernel_rfl)
   have fb7 := hSame.base 7 (by kernel_rfl)
   simp only [List.getElem?_toArray, List.getElem?_cons_succ, List.getElem?_cons_zero] at fb7
   replace hKK := kq (Value.int IntKind.i64 0) hKK
   clear hSame hRR
   rw [wanted_guard rfl rfl rfl ft28]
   first | rw [if_pos (by rfl)] | rw [if_neg (by decide)]
   go_simp
   refine hKK _ _ ?_ ?_
   ·
    exact grP
   ·
    exact rfl
  refine Obs.cons (k' := 31) rfl ?_ ?_
  ·
   intro fa W hW hSame hRR KK hKK
   try dsimp only at hW
   obtain ⟨fv29, ft29, (rfl : fv29 = Value.int IntKind.i64 0)⟩ := hRR 29 _ 142 rfl rfl (by kernel_rfl)
   obtain ⟨fv28, ft28, (rfl : fv28 = Value.bool true)⟩ := hRR 28 _ 141 rfl rfl (by kernel_rfl)
   replace hKK := kq (Value.bool true) hKK
   clear hSame hRR
   rw [wanted_guard rfl rfl rfl ft28]
   first | rw [if_pos (by rfl)] | rw [if_neg (by decide)]
   go_simp
   refine hKK _ _ ?_ ?_
   ·
    exact grP
   ·
    exact rfl
  refine Obs.cons (k' := 32) rfl ?_ ?_
  ·
   intro fa W hW hSame hRR KK hKK
   try dsimp only at hW
   obtain ⟨fv28, ft28, (rfl : fv28 = Value.bool true)⟩ := hRR 28 _ 141 rfl rfl (by kernel_rfl)
   obtain ⟨fv30, ft30, (rfl : fv30 = Value.bool true)⟩ := hRR 30 _ 143 rfl rfl (by kernel_rfl)
   replace hKK := kq (Value.bool true) hKK
   clear hSame hRR
   rw [if_pos (wanted_plain rfl)]
   go_simp
   refine hKK _ _ ?_ ?_
   ·
    exact grP
   ·
    exact rfl
  refine Obs.cons (k' := 33) rfl ?_ ?_
  ·
   intro fa W hW hSame hRR KK hKK
   try dsimp only at hW
   obtain ⟨fv31, ft31, (rfl : fv31 = Value.bool true)⟩ := hRR 31 _ 144 rfl rfl (by kernel_rfl)
   replace hKK := kq (Value.bool true) hKK
   clear hSame hRR
   rw [if_pos (wanted_plain rfl)]
   go_simp
   refine hKK _ _ ?_ ?_
   ·
    exact grP
   ·
    exact rfl
  refine Obs.cons (k' := 34) rfl ?_ ?_
  ·
   intro fa W hW hSame hRR KK hKK
   try dsimp only at hW
   obtain ⟨fv32, ft32, (rfl : fv32 = Value.bool true)⟩ := hRR 32 _ 145 rfl rfl (by kernel_rfl)
   have fb8 := hSame.base 8 (by kernel_rfl)
   simp only [List.getElem?_toArray, List.getElem?_cons_succ, List.getElem?_cons_zero] at fb8
   replace hKK := kq (Value.slice AV2 4 cV2) hKK
   clear hSame hRR
   rw [wanted_guard rfl rfl rfl ft32]
   first | rw [if_pos (by rfl)] | rw [if_neg (by decide)]
   go_simp
   refine hKK _ _ ?_ ?_
   ·
    exact grP
   ·
    exact rfl
  refine Obs.cons (k' := 35) rfl ?_ ?_
  ·
   intro fa W hW hSame hRR KK hKK
   try dsimp only at hW
   obtain ⟨fv32, ft32, (rfl : fv32 = Value.bool true)⟩ := hRR 32 _ 145 rfl rfl (by kernel_rfl)
   replace hKK : ∀ v w', Go.RowKit.Below W.heap.size W w' → (fun v W => ∃ u, v = Value.slice (some ⟨u, 0, none⟩) 4 4 ∧ StS W v [⟨#[49, 58, 48, 48]⟩, ⟨#[45]⟩, ⟨#[67, 69, 84]⟩, ⟨#[49, 57, 52, 54]⟩]) v w' → KK (Act.put fa _ v) w' := fun v w' h1 h2 => hKK v w' h1 h2
   clear hSame hRR
   rw [wanted_guard rfl rfl rfl ft32]
   first | rw [if_pos (by rfl)] | rw [if_neg (by decide)]
   go_simp
   refine hKK _ _ ?_ ?_
   ·
    exact grP
   ·
    try dsimp only
    first | exact trivial | exact rfl | (first | exact ⟨_, rfl, StS.rowe _ _ rfl [⟨#[49, 58, 48, 48]⟩, ⟨#[45]⟩, ⟨#[67, 69, 84]⟩, ⟨#[49, 57, 52, 54]⟩] _ _⟩)
  refine Obs.cons (k' := 36) rfl ?_ ?_
  ·
   intro fa W hW hSame hRR KK hKK
   try dsimp only at hW
   obtain ⟨fv33, ft33, (rfl : fv33 = Value.slice AV2 4 cV2)⟩ := hRR 33 _ 146 rfl rfl (by kernel_rfl)
   obtain ⟨fv34, ft34, fm34⟩ := hRR 34 _ 147 rfl rfl (by kernel_rfl)
   replace fm34 : (fun v W => ∃ u, v = Value.slice (some ⟨u, 0, none⟩) 4 4 ∧ StS W v [⟨#[49, 58, 48, 48]⟩, ⟨#[45]⟩, ⟨#[67, 69, 84]⟩, ⟨#[49, 57, 52, 54]⟩]) fv34 W := fm34
   try dsimp only at fm34
   first | subst fm34 | obtain ⟨_, rfl, fm34⟩ := fm34
   obtain ⟨fv32, ft32, (rfl : fv32 = Value.bool true)⟩ := hRR 32 _ 145 rfl rfl (by kernel_rfl)
   replace hKK := kq (Value.bool true) hKK
   clear hSame hRR
   rw [wanted_guard rfl rfl rfl ft32]
   first | rw [if_pos (by rfl)] | rw [if_neg (by decide)]
   go_simp
   first
    | (go_at_call 59; refine (gb_any _).mono ?_; rintro e w' ⟨rfl, hb⟩)
    | (go_at_call 12; first
      | ((with_reducible refine (F1.out _ _ _ hW.2.1 hW.2.2.1).mono ?_); rintro e w' ⟨rfl, hb⟩)
      | ((with_reducible refine (F2.out _ _ _ hW.2.2.2.1 fm34).mono ?_); rintro e w' ⟨rfl, hb⟩))
    | (go_at_call 22; first
      | ((with_reducible refine (X1.out _ tp pp y (HL.out _ hW.1)).mono ?_); rintro e w' ⟨rfl, hb⟩)
      | ((with_reducible refine (X2.out _ tp pp y (HL.out _ hW.1)).mono ?_); rintro e w' ⟨rfl, hb⟩))
   try dsimp only
   refine hKK _ _ ?_ ?_
   ·
    exact grP
   ·
    exact rfl
  refine Obs.cons (k' := 37) rfl ?_ ?_
  ·
   intro fa W hW hSame hRR KK hKK
   try dsimp only at hW
   obtain ⟨fv32, ft32, (rfl : fv32 = Value.bool true)⟩ := hRR 32 _ 145 rfl rfl (by kernel_rfl)
   obtain ⟨fv35, ft35, (rfl : fv35 = Value.bool true)⟩ := hRR 35 _ 148 rfl rfl (by kernel_rfl)
   replace hKK := kq (Value.bool true) hKK
   clear hSame hRR
   rw [if_pos (wanted_plain rfl)]
   go_simp
   refine hKK _ _ ?_ ?_
   ·
    exact grP
   ·
    exact rfl
  refine Obs.cons (k' := 38) rfl ?_ ?_
  ·
   intro fa W hW hSame hRR KK hKK
   try dsimp only at hW
   obtain ⟨fv36, ft36, (rfl : fv36 = Value.bool true)⟩ := hRR 36 _ 149 rfl rfl (by kernel_rfl)
   replace hKK := kq (Value.bool true) hKK
   clear hSame hRR
   rw [if_pos (wanted_plain rfl)]
   go_simp
   refine hKK _ _ ?_ ?_
   ·
    exact grP
   ·
    exact rfl
  refine Obs.cons (k' := 39) rfl ?_ ?_
  ·
   intro fa W hW hSame hRR KK hKK
   try dsimp only at hW
   obtain ⟨fv37, ft37, (rfl : fv37 = Value.bool true)⟩ := hRR 37 _ 150 rfl rfl (by kernel_rfl)
   have fb9 := hSame.base 9 (by kernel_rfl)
   simp only [List.getElem?_toArray, List.getElem?_cons_succ, List.getElem?_cons_zero] at fb9
   replace hKK := kq (Value.int IntKind.i64 0) hKK
   clear hSame hRR
   rw [wanted_guard rfl rfl rfl ft37]
   first | rw [if_pos (by rfl)] | rw [if_neg (by decide)]
   go_simp
   refine hKK _ _ ?_ ?_
   ·
    exact grP
   ·
    exact rfl
  refine Obs.cons (k' := 40) rfl ?_ ?_
  ·
   intro fa W hW hSame hRR KK hKK
   try dsimp only at hW
   obtain ⟨fv38, ft38, (rfl : fv38 = Value.int IntKind.i64 0)⟩ := hRR 38 _ 151 rfl rfl (by kernel_rfl)
   obtain ⟨fv37, ft37, (rfl : fv37 = Value.bool true)⟩ := hRR 37 _ 150 rfl rfl (by kernel_rfl)
   replace hKK := kq (Value.bool true) hKK
   clear hSame hRR
   rw [wanted_guard rfl rfl rfl ft37]
   first | rw [if_pos (by rfl)] | rw [if_neg (by decide)]
   go_simp
   refine hKK _ _ ?_ ?_
   ·
    exact grP
   ·
    exact rfl
  refine Obs.cons (k' := 41) rfl ?_ ?_
  ·
   intro fa W hW hSame hRR KK hKK
   try dsimp only at hW
   obtain ⟨fv37, ft37, (rfl : fv37 = Value.bool true)⟩ := hRR 37 _ 150 rfl rfl (by kernel_rfl)
   obtain ⟨fv39, ft39, (rfl : fv39 = Value.bool true)⟩ := hRR 39 _ 152 rfl rfl (by kernel_rfl)
   replace hKK := kq (Value.bool true) hKK
   clear hSame hRR
   rw [if_pos (wanted_plain rfl)]
   go_simp
   refine hKK _ _ ?_ ?_
   ·
    exact grP
   ·
    exact rfl
  refine Obs.cons (k' := 42) rfl ?_ ?_
  ·
   intro fa W hW hSame hRR KK hKK
   try dsimp only at hW
   obtain ⟨fv40, ft40, (rfl : fv40 = Value.bool true)⟩ := hRR 40 _ 153 rfl rfl (by kernel_rfl)
   replace hKK := kq (Value.bool true) hKK
   clear hSame hRR
   rw [if_pos (wanted_plain rfl)]
   go_simp
   refine hKK _ _ ?_ ?_
   ·
    exact grP
   ·
    exact rfl
  refine Obs.cons (k' := 43) rfl ?_ ?_
  ·
   intro fa W hW hSame hRR KK hKK
   try dsimp only at hW
   obtain ⟨fv41, ft41, (rfl : fv41 = Value.bool true)⟩ := hRR 41 _ 154 rfl rfl (by kernel_rfl)
   have fb10 := hSame.base 10 (by kernel_rfl)
   simp only [List.getElem?_toArray, List.getElem?_cons_succ, List.getElem?_cons_zero] at fb10
   replace hKK := kq (Value.agg #[Value.int IntKind.i64 (-18000), Value.int IntKind.i64 2, Value.int IntKind.i64 0, Value.string { data := #[85, 83] }, Value.string { data := #[69, 37, 115, 84] }, Value.bool false, Value.int IntKind.i64 0, Value.int IntKind.i64 0, Value.int IntKind.i64 0, Value.int IntKind.i64 0, Value.int IntKind.i64 0, Value.int IntKind.i64 0, Value.int IntKind.i64 0]) hKK
   clear hSame hRR
   rw [wanted_guard rfl rfl rfl ft41]
   first | rw [if_pos (by rfl)] | rw [if_neg (by decide)]
   go_simp
   refine hKK _ _ ?_ ?_
   ·
    exact grP
   ·
    exact rfl
  refine Obs.cons (k' := 44) rfl ?_ ?_
  ·
   intro fa W hW hSame hRR KK hKK
   try dsimp only at hW
   obtain ⟨fv41, ft41, (rfl : fv41 = Value.bool true)⟩ := hRR 41 _ 154 rfl rfl (by kernel_rfl)
   replace hKK := kq (Value.agg #[Value.int IntKind.i64 (-18000), Value.int IntKind.i64 2, Value.int IntKind.i64 0, Value.string { data := #[85, 83] }, Value.string { data := #[69, 37, 115, 84] }, Value.bool false, Value.int IntKind.i64 0, Value.int IntKind.i64 0, Value.int IntKind.i64 0, Value.int IntKind.i64 0, Value.int IntKind.i64 0, Value.int IntKind.i64 0, Value.int IntKind.i64 0]) hKK
   clear hSame hRR
   rw [wanted_guard rfl rfl rfl ft41]
   first | rw [if_pos (by rfl)] | rw [if_neg (by decide)]
   go_simp
   refine hKK _ _ ?_ ?_
   ·
    exact grP
   ·
    exact rfl
  refine Obs.cons (k' := 45) rfl ?_ ?_
  ·
   intro fa W hW hSame hRR KK hKK
   try dsimp only at hW
   obtain ⟨fv42, ft42, (rfl : fv42 = Value.agg #[Value.int IntKind.i64 (-18000), Value.int IntKind.i64 2, Value.int IntKind.i64 0, Value.string { data := #[85, 83] }, Value.string { data := #[69, 37, 115, 84] }, Value.bool false, Value.int IntKind.i64 0, Value.int IntKind.i64 0, Value.int IntKind.i64 0, Value.int IntKind.i64 0, Value.int IntKind.i64 0, Value.int IntKind.i64 0, Value.int IntKind.i64 0])⟩ := hRR 42 _ 155 rfl rfl (by kernel_rfl)
   obtain ⟨fv43, ft43, (rfl : fv43 = Value.agg #[Value.int IntKind.i64 (-18000), Value.int IntKind.i64 2, Value.int IntKind.i64 0, Value.string { data := #[85, 83] }, Value.string { data := #[69, 37, 115, 84] }, Value.bool false, Value.int IntKind.i64 0, Value.int IntKind.i64 0, Value.int IntKind.i64 0, Value.int IntKind.i64 0, Value.int IntKind.i64 0, Value.int IntKind.i64 0, Value.int IntKind.i64 0])⟩ := hRR 43 _ 156 rfl rfl (by kernel_rfl)
   obtain ⟨fv41, ft41, (rfl : fv41 = Value.bool true)⟩ := hRR 41 _ 154 rfl rfl (by kernel_rfl)
   replace hKK := kq (Value.bool true) hKK
   clear hSame hRR
   rw [wanted_guard rfl rfl rfl ft41]
   first | rw [if_pos (by rfl)] | rw [if_neg (by decide)]
   go_simp
   refine hKK _ _ ?_ ?_
   ·
    exact grP
   ·
    exact rfl
  refine Obs.cons (k' := 46) rfl ?_ ?_
  ·
   intro fa W hW hSame hRR KK hKK
   try dsimp only at hW
   obtain ⟨fv41, ft41, (rfl : fv41 = Value.bool true)⟩ := hRR 41 _ 154 rfl rfl (by kernel_rfl)
   obtain ⟨fv44, ft44, (rfl : fv44 = Value.bool true)⟩ := hRR 44 _ 157 rfl rfl (by kernel_rfl)
   replace hKK := kq (Value.bool true) hKK
   clear hSame hRR
   rw [if_pos (wanted_plain rfl)]
   go_simp
   refine hKK _ _ ?_ ?_
   ·
    exact grP
   ·
    exact rfl
  refine Obs.cons (k' := 47) rfl ?_ ?_
  ·
   intro fa W hW hSame hRR KK hKK
   try dsimp only at hW
   obtain ⟨fv45, ft45, (rfl : fv45 = Value.bool true)⟩ := hRR 45 _ 158 rfl rfl (by kernel_rfl)
   replace hKK := kq (Value.bool true) hKK
   clear hSame hRR
   rw [if_pos (wanted_plain rfl)]
   go_simp
   refine hKK _ _ ?_ ?_
   ·
    exact grP
   ·
    exact rfl
  refine Obs.cons (k' := 48) rfl ?_ ?_
  ·
   intro fa W hW hSame hRR KK hKK
   try dsimp only at hW
   obtain ⟨fv46, ft46, (rfl : fv46 = Value.bool true)⟩ := hRR 46 _ 159 rfl rfl (by kernel_rfl)
   have fb11 := hSame.base 11 (by kernel_rfl)
   simp only [List.getElem?_toArray, List.getElem?_cons_succ, List.getElem?_cons_zero] at fb11
   replace hKK := kq (Value.int IntKind.i64 0) hKK
   clear hSame hRR
   rw [wanted_guard rfl rfl rfl ft46]
   first | rw [if_pos (by rfl)] | rw [if_neg (by decide)]
   go_simp
   refine hKK _ _ ?_ ?_
   ·
    exact grP
   ·
    exact rfl
  refine Obs.cons (k' := 49) rfl ?_ ?_
  ·
   intro fa W hW hSame hRR KK hKK
   try dsimp only at hW
   obtain ⟨fv47, ft47, (rfl : fv47 = Value.int IntKind.i64 0)⟩ := hRR 47 _ 160 rfl rfl (by kernel_rfl)
   obtain ⟨fv46, ft46, (rfl : fv46 = Value.bool true)⟩ := hRR 46 _ 159 rfl rfl (by kernel_rfl)
   replace hKK := kq (Value.bool true) hKK
   clear hSame hRR
   rw [wanted_guard rfl rfl rfl ft46]
   first | rw [if_pos (by rfl)] | rw [if_neg (by decide)]
   go_simp
   refine hKK _ _ ?_ ?_
   ·
    exact grP
   ·
    exact rfl
  refine Obs.cons (k' := 50) rfl ?_ ?_
  ·
   intro fa W hW hSame hRR KK hKK
   try dsimp only at hW
   obtain ⟨fv46, ft46, (rfl : fv46 = Value.bool true)⟩ := hRR 46 _ 159 rfl rfl (by kernel_rfl)
   obtain ⟨fv48, ft48, (rfl : fv48 = Value.bool true)⟩ := hRR 48 _ 161 rfl rfl (by kernel_rfl)
   replace hKK := kq (Value.bool true) hKK
   clear hSame hRR
   rw [if_pos (wanted_plain rfl)]
   go_simp
   refine hKK _ _ ?_ ?_
   ·
    exact grP
   ·
    exact rfl
  refine Obs.cons (k' := 51) rfl ?_ ?_
  ·
   intro fa W hW hSame hRR KK hKK
   try dsimp only at hW
   obtain ⟨fv49, ft49, (rfl : fv49 = Value.bool true)⟩ := hRR 49 _ 162 rfl rfl (by kernel_rfl)
   replace hKK := kq (Value.bool true) hKK
   clear hSame hRR
   rw [if_pos (wanted_plain rfl)]
   go_simp
   refine hKK _ _ ?_ ?_
   ·
    exact grP
   ·
    exact rfl
  refine Obs.cons (k' := 52) rfl ?_ ?_
  ·
   intro fa W hW hSame hRR KK hKK
   try dsimp only at hW
   obtain ⟨fv50, ft50, (rfl : fv50 = Value.bool true)⟩ := hRR 50 _ 163 rfl rfl (by kernel_rfl)
   have fb13 := hSame.base 13 (by kernel_rfl)
   simp only [List.getElem?_toArray, List.getElem?_cons_succ, List.getElem?_cons_zero] at fb13
   replace hKK := kq (Value.int IntKind.i64 5) hKK
   clear hSame hRR
   rw [wanted_guard rfl rfl rfl ft50]
   first | rw [if_pos (by rfl)] | rw [if_neg (by decide)]
   go_simp
   refine hKK _ _ ?_ ?_
   ·
    exact grP
   ·
    exact rfl
  refine Obs.cons (k' := 53) rfl ?_ ?_
  ·
   intro fa W hW hSame hRR KK hKK
   try dsimp only at hW
   obtain ⟨fv51, ft51, (rfl : fv51 = Value.int IntKind.i64 5)⟩ := hRR 51 _ 164 rfl rfl (by kernel_rfl)
   obtain ⟨fv50, ft50, (rfl : fv50 = Value.bool true)⟩ := hRR 50 _ 163 rfl rfl (by kernel_rfl)
   replace hKK := kq (Value.bool true) hKK
   clear hSame hRR
   rw [wanted_guard rfl rfl rfl ft50]
   first | rw [if_pos (by rfl)] | rw [if_neg (by decide)]
   go_simp
   refine hKK _ _ ?_ ?_
   ·
    exact grP
   ·
    exact rfl
  refine Obs.cons (k' := 54) rfl ?_ ?_
  ·
   intro fa W hW hSame hRR KK hKK
   try dsimp only at hW
   obtain ⟨fv50, ft50, (rfl : fv50 = Value.bool true)⟩ := hRR 50 _ 163 rfl rfl (by kernel_rfl)
   obtain ⟨fv52, ft52, (rfl : fv52 = Value.bool true)⟩ := hRR 52 _ 165 rfl rfl (by kernel_rfl)
   replace hKK := kq (Value.bool true) hKK
   clear hSame hRR
   rw [if_pos (wanted_plain rfl)]
   go_simp
   refine hKK _ _ ?_ ?_
   ·
    exact grP
   ·
    exact rfl
  refine Obs.cons (k' := 55) rfl ?_ ?_
  ·
   intro fa W hW hSame hRR KK hKK
   try dsimp only at hW
   obtain ⟨fv53, ft53, (rfl : fv53 = Value.bool true)⟩ := hRR 53 _ 166 rfl rfl (by kernel_rfl)
   replace hKK := kq (Value.bool true) hKK
   clear hSame hRR
   rw [if_pos (wanted_plain rfl)]
   go_simp
   refine hKK _ _ ?_ ?_
   ·
    exact grP
   ·
    exact rfl
  refine Obs.cons (k' := 56) rfl ?_ ?_
  ·
   intro fa W hW hSame hRR KK hKK
   try dsimp only at hW
   obtain ⟨fv54, ft54, (rfl : fv54 = Value.bool true)⟩ := hRR 54 _ 167 rfl rfl (by kernel_rfl)
   have fb15 := hSame.base 15 (by kernel_rfl)
   simp only [List.getElem?_toArray, List.getElem?_cons_succ, List.getElem?_cons_zero] at fb15
   replace hKK := kq (Value.int IntKind.i64 6) hKK
   clear hSame hRR
   rw [wanted_guard rfl rfl rfl ft54]
   first | rw [if_pos (by rfl)] | rw [if_neg (by decide)]
   go_simp
   refine hKK _ _ ?_ ?_
   ·
    exact grP
   ·
    exact rfl
  refine Obs.cons (k' := 57) rfl ?_ ?_
  ·
   intro fa W hW hSame hRR KK hKK
   try dsimp only at hW
   obtain ⟨fv55, ft55, (rfl : fv55 = Value.int IntKind.i64 6)⟩ := hRR 55 _ 168 rfl rfl (by kernel_rfl)
   obtain ⟨fv54, ft54, (rfl : fv54 = Value.bool true)⟩ := hRR 54 _ 167 rfl rfl (by kernel_rfl)
   replace hKK := kq (Value.bool true) hKK
   clear hSame hRR
   rw [wanted_guard rfl rfl rfl ft54]
   first | rw [if_pos (by rfl)] | rw [if_neg (by decide)]
   go_simp
   refine hKK _ _ ?_ ?_
   ·
    exact grP
   ·
    exact rfl
  refine Obs.cons (k' := 58) rfl ?_ ?_
  ·
   intro fa W hW hSame hRR KK hKK
   try dsimp only at hW
   obtain ⟨fv54, ft54, (rfl : fv54 = Value.bool true)⟩ := hRR 54 _ 167 rfl rfl (by kernel_rfl)
   obtain ⟨fv56, ft56, (rfl : fv56 = Value.bool true)⟩ := hRR 56 _ 169 rfl rfl (by kernel_rfl)
   replace hKK := kq (Value.bool true) hKK
   clear hSame hRR
   rw [if_pos (wanted_plain rfl)]
   go_simp
   refine hKK _ _ ?_ ?_
   ·
    exact grP
   ·
    exact rfl
  refine Obs.cons (k' := 59) rfl ?_ ?_
  ·
   intro fa W hW hSame hRR KK hKK
   try dsimp only at hW
   obtain ⟨fv57, ft57, (rfl : fv57 = Value.bool true)⟩ := hRR 57 _ 170 rfl rfl (by kernel_rfl)
   replace hKK := kq (Value.bool true) hKK
   clear hSame hRR
   rw [if_pos (wanted_plain rfl)]
   go_simp
   refine hKK _ _ ?_ ?_
   ·
    exact grP
   ·
    exact rfl
  refine Obs.cons (k' := 60) rfl ?_ ?_
  ·
   intro fa W hW hSame hRR KK hKK
   try dsimp only at hW
   obtain ⟨fv58, ft58, (rfl : fv58 = Value.bool true)⟩ := hRR 58 _ 171 rfl rfl (by kernel_rfl)
   have fb17 := hSame.base 17 (by kernel_rfl)
   simp only [List.getElem?_toArray, List.getElem?_cons_succ, List.getElem?_cons_zero] at fb17
   replace hKK := kq (Value.int IntKind.i64 1) hKK
   clear hSame hRR
   rw [wanted_guard rfl rfl rfl ft58]
   first | rw [if_pos (by rfl)] | rw [if_neg (by decide)]
   go_simp
   refine hKK _ _ ?_ ?_
   ·
    exact grP
   ·
    exact rfl
  refine Obs.cons (k' := 61) rfl ?_ ?_
  ·
   intro fa W hW hSame hRR KK hKK
   try dsimp only at hW
   obtain ⟨fv59, ft59, (rfl : fv59 = Value.int IntKind.i64 1)⟩ := hRR 59 _ 172 rfl rfl (by kernel_rfl)
   obtain ⟨fv58, ft58, (rfl : fv58 = Value.bool true)⟩ := hRR 58 _ 171 rfl rfl (by kernel_rfl)
   replace hKK := kq (Value.bool true) hKK
   clear hSame hRR
   rw [wanted_guard rfl rfl rfl ft58]
   first | rw [if_pos (by rfl)] | rw [if_neg (by decide)]
   go_simp
   refine hKK _ _ ?_ ?_
   ·
    exact grP
   ·
    exact rfl
  refine Obs.cons (k' := 62) rfl ?_ ?_
  ·
   intro fa W hW hSame hRR KK hKK
   try dsimp only at hW
   obtain ⟨fv58, ft58, (rfl : fv58 = Value.bool true)⟩ := hRR 58 _ 171 rfl rfl (by kernel_rfl)
   obtain ⟨fv60, ft60, (rfl : fv60 = Value.bool true)⟩ := hRR 60 _ 173 rfl rfl (by kernel_rfl)
   replace hKK := kq (Value.bool true) hKK
   clear hSame hRR
   rw [if_pos (wanted_plain rfl)]
   go_simp
   refine hKK _ _ ?_ ?_
   ·
    exact grP
   ·
    exact rfl
  refine Obs.cons (k' := 63) rfl ?_ ?_
  ·
   intro fa W hW hSame hRR KK hKK
   try dsimp only at hW
   obtain ⟨fv61, ft61, (rfl : fv61 = Value.bool true)⟩ := hRR 61 _ 174 rfl rfl (by kernel_rfl)
   replace hKK := kq (Value.bool true) hKK
   clear hSame hRR
   rw [if_pos (wanted_plain rfl)]
   go_simp
   refine hKK _ _ ?_ ?_
   ·
    exact grP
   ·
    exact rfl
  refine Obs.cons (k' := 64) rfl ?_ ?_
  ·
   intro fa W hW hSame hRR KK hKK
   try dsimp only at hW
   obtain ⟨fv62, ft62, (rfl : fv62 = Value.bool true)⟩ := hRR 62 _ 175 rfl rfl (by kernel_rfl)
   have fb19 := hSame.base 19 (by kernel_rfl)
   simp only [List.getElem?_toArray, List.getElem?_cons_succ, List.getElem?_cons_zero] at fb19
   replace hKK := kq (Value.int IntKind.i64 2) hKK
   clear hSame hRR
   rw [wanted_guard rfl rfl rfl ft62]
   first | rw [if_pos (by rfl)] | rw [if_neg (by decide)]
   go_simp
   refine hKK _ _ ?_ ?_
   ·
    exact grP
   ·
    exact rfl
  refine Obs.cons (k' := 65) rfl ?_ ?_
  ·
   intro fa W hW hSame hRR KK hKK
   try dsimp only at hW
   obtain ⟨fv63, ft63, (rfl : fv63 = Value.int IntKind.i64 2)⟩ := hRR 63 _ 176 rfl rfl (by kernel_rfl)
   obtain ⟨fv62, ft62, (rfl : fv62 = Value.bool true)⟩ := hRR 62 _ 175 rfl rfl (by kernel_rfl)
   replace hKK := kq (Value.bool true) hKK
   clear hSame hRR
   rw [wanted_guard rfl rfl rfl ft62]
   first | rw [if_pos (by rfl)] | rw [if_neg (by decide)]
   go_simp
   refine hKK _ _ ?_ ?_
   ·
    exact grP
   ·
    exact rfl
  refine Obs.cons (k' := 66) rfl ?_ ?_
  ·
   intro fa W hW hSame hRR KK hKK
   try dsimp only at hW
   obtain ⟨fv62, ft62, (rfl : fv62 = Value.bool true)⟩ := hRR 62 _ 175 rfl rfl (by kernel_rfl)
   obtain ⟨fv64, ft64, (rfl : fv64 = Value.bool true)⟩ := hRR 64 _ 177 rfl rfl (by kernel_rfl)
   replace hKK := kq (Value.bool true) hKK
   clear hSame hRR
   rw [if_pos (wanted_plain rfl)]
   go_simp
   refine hKK _ _ ?_ ?_
   ·
    exact grP
   ·
    exact rfl
  refine Obs.cons (k' := 67) rfl ?_ ?_
  ·
   intro fa W hW hSame hRR KK hKK
   try dsimp only at hW
   obtain ⟨fv65, ft65, (rfl : fv65 = Value.bool true)⟩ := hRR 65 _ 178 rfl rfl (by kernel_rfl)
   replace hKK := kq (Value.bool true) hKK
   clear hSame hRR
   rw [if_pos (wanted_plain rfl)]
   go_simp
   refine hKK _ _ ?_ ?_
   ·
    exact grP
   ·
    exact rfl
  refine Obs.cons (k' := 68) rfl ?_ ?_
  ·
   intro fa W hW hSame hRR KK hKK
   try dsimp only at hW
   obtain ⟨fv66, ft66, (rfl : fv66 = Value.bool true)⟩ := hRR 66 _ 179 rfl rfl (by kernel_rfl)
   have fb21 := hSame.base 21 (by kernel_rfl)
   simp only [List.getElem?_toArray, List.getElem?_cons_succ, List.getElem?_cons_zero] at fb21
   replace hKK := kq (Value.int IntKind.i64 10) hKK
   clear hSame hRR
   rw [wanted_guard rfl rfl rfl ft66]
   first | rw [if_pos (by rfl)] | rw [if_neg (by decide)]
   go_simp
   refine hKK _ _ ?_ ?_
   ·
    exact grP
   ·
    exact rfl
  refine Obs.cons (k' := 69) rfl ?_ ?_
  ·
   intro fa W hW hSame hRR KK hKK
   try dsimp only at hW
   obtain ⟨fv67, ft67, (rfl : fv67 = Value.int IntKind.i64 10)⟩ := hRR 67 _ 180 rfl rfl (by kernel_rfl)
   obtain ⟨fv66, ft66, (rfl : fv66 = Value.bool true)⟩ := hRR 66 _ 179 rfl rfl (by kernel_rfl)
   replace hKK := kq (Value.bool true) hKK
   clear hSame hRR
   rw [wanted_guard rfl rfl rfl ft66]
   first | rw [if_pos (by rfl)] | rw [if_neg (by decide)]
   go_simp
   refine hKK _ _ ?_ ?_
   ·
    exact grP
   ·
    exact rfl
  refine Obs.cons (k' := 70) rfl ?_ ?_
  ·
   intro fa W hW hSame hRR KK hKK
   try dsimp only at hW
   obtain ⟨fv66, ft66, (rfl : fv66 = Value.bool true)⟩ := hRR 66 _ 179 rfl rfl (by kernel_rfl)
   obtain ⟨fv68, ft68, (rfl : fv68 = Value.bool true)⟩ := hRR 68 _ 181 rfl rfl (by kernel_rfl)
   replace hKK := kq (Value.bool true) hKK
   clear hSame hRR
   rw [if_pos (wanted_plain rfl)]
   go_simp
   refine hKK _ _ ?_ ?_
   ·
    exact grP
   ·
    exact rfl
  refine Obs.cons (k' := 71) rfl ?_ ?_
  ·
   intro fa W hW hSame hRR KK hKK
   try dsimp only at hW
   obtain ⟨fv69, ft69, (rfl : fv69 = Value.bool true)⟩ := hRR 69 _ 182 rfl rfl (by kernel_rfl)
   replace hKK := kq (Value.bool true) hKK
   clear hSame hRR
   rw [if_pos (wanted_plain rfl)]
   go_simp
   refine hKK _ _ ?_ ?_
   ·
    exact grP
   ·
    exact rfl
  refine Obs.cons (k' := 72) rfl ?_ ?_
  ·
   intro fa W hW hSame hRR KK hKK
   try dsimp only at hW
   obtain ⟨fv70, ft70, (rfl : fv70 = Value.bool true)⟩ := hRR 70 _ 183 rfl rfl (by kernel_rfl)
   have fb23 := hSame.base 23 (by kernel_rfl)
   simp only [List.getElem?_toArray, List.getElem?_cons_succ, List.getElem?_cons_zero] at fb23
   replace hKK := kq (Value.int IntKind.i64 1) hKK
   clear hSame hRR
   rw [wanted_guard rfl rfl rfl ft70]
   first | rw [if_pos (by rfl)] | rw [if_neg (by decide)]
   go_simp
   refine hKK _ _ ?_ ?_
   ·
    exact grP
   ·
    exact rfl
  refine Obs.cons (k' := 73) rfl ?_ ?_
  ·
   intro fa W hW hSame hRR KK hKK
   try dsimp only at hW
   obtain ⟨fv71, ft71, (rfl : fv71 = Value.int IntKind.i64 1)⟩ := hRR 71 _ 184 rfl rfl (by kernel_rfl)
   obtain ⟨fv70, ft70, (rfl : fv70 = Value.bool true)⟩ := hRR 70 _ 183 rfl rfl (by kernel_rfl)
   replace hKK := kq (Value.bool true) hKK
   clear hSame hRR
   rw [wanted_guard rfl rfl rfl ft70]
   first | rw [if_pos (by rfl)] | rw [if_neg (by decide)]
   go_simp
   refine hKK _ _ ?_ ?_
   ·
    exact grP
   ·
    exact rfl
  refine Obs.cons (k' := 74) rfl ?_ ?_
  ·
   intro fa W hW hSame hRR KK hKK
   try dsimp only at hW
   obtain ⟨fv70, ft70, (rfl : fv70 = Value.bool true)⟩ := hRR 70 _ 183 rfl rfl (by kernel_rfl)
   obtain ⟨fv72, ft72, (rfl : fv72 = Value.bool true)⟩ := hRR 72 _ 185 rfl rfl (by kernel_rfl)
   replace hKK := kq (Value.bool true) hKK
   clear hSame hRR
   rw [if_pos (wanted_plain rfl)]
   go_simp
   refine hKK _ _ ?_ ?_
   ·
    exact grP
   ·
    exact rfl
  refine Obs.cons (k' := 75) rfl ?_ ?_
  ·
   intro fa W hW hSame hRR KK hKK
   try dsimp only at hW
   obtain ⟨fv73, ft73, (rfl : fv73 = Value.bool true)⟩ := hRR 73 _ 186 rfl rfl (by kernel_rfl)
   replace hKK := kq (Value.bool true) hKK
   clear hSame hRR
   rw [if_pos (wanted_plain rfl)]
   go_simp
   refine hKK _ _ ?_ ?_
   ·
    exact grP
   ·
    exact rfl
  refine Obs.cons (k' := 76) rfl ?_ ?_
  ·
   intro fa W hW hSame hRR KK hKK
   try dsimp only at hW
   obtain ⟨fv74, ft74, (rfl : fv74 = Value.bool true)⟩ := hRR 74 _ 187 rfl rfl (by kernel_rfl)
   have fb25 := hSame.base 25 (by kernel_rfl)
   simp only [List.getElem?_toArray, List.getElem?_cons_succ, List.getElem?_cons_zero] at fb25
   replace hKK := kq (Value.int IntKind.i64 4) hKK
   clear hSame hRR
   rw [wanted_guard rfl rfl rfl ft74]
   first | rw [if_pos (by rfl)] | rw [if_neg (by decide)]
   go_simp
   refine hKK _ _ ?_ ?_
   ·
    exact grP
   ·
    exact rfl
  refine Obs.cons (k' := 77) rfl ?_ ?_
  ·
   intro fa W hW hSame hRR KK hKK
   try dsimp only at hW
   obtain ⟨fv75, ft75, (rfl : fv75 = Value.int IntKind.i64 4)⟩ := hRR 75 _ 188 rfl rfl (by kernel_rfl)
   obtain ⟨fv74, ft74, (rfl : fv74 = Value.bool true)⟩ := hRR 74 _ 187 rfl rfl (by kernel_rfl)
   replace hKK := kq (Value.bool true) hKK
   clear hSame hRR
   rw [wanted_guard rfl rfl rfl ft74]
   first | rw [if_pos (by rfl)] | rw [if_neg (by decide)]
   go_simp
   refine hKK _ _ ?_ ?_
   ·
    exact grP
   ·
    exact rfl
  refine Obs.cons (k' := 78) rfl ?_ ?_
  ·
   intro fa W hW hSame hRR KK hKK
   try dsimp only at hW
   obtain ⟨fv74, ft74, (rfl : fv74 = Value.bool true)⟩ := hRR 74 _ 187 rfl rfl (by kernel_rfl)
   obtain ⟨fv76, ft76, (rfl : fv76 = Value.bool true)⟩ := hRR 76 _ 189 rfl rfl (by kernel_rfl)
   replace hKK := kq (Value.bool true) hKK
   clear hSame hRR
   rw [if_pos (wanted_plain rfl)]
   go_simp
   refine hKK _ _ ?_ ?_
   ·
    exact grP
   ·
    exact rfl
  refine Obs.cons (k' := 79) rfl ?_ ?_
  ·
   intro fa W hW hSame hRR KK hKK
   try dsimp only at hW
   obtain ⟨fv77, ft77, (rfl : fv77 = Value.bool true)⟩ := hRR 77 _ 190 rfl rfl (by kernel_rfl)
   replace hKK := kq (Value.bool true) hKK
   clear hSame hRR
   rw [if_pos (wanted_plain rfl)]
   go_simp
   refine hKK _ _ ?_ ?_
   ·
    exact grP
   ·
    exact rfl
  refine Obs.cons (k' := 80) rfl ?_ ?_
  ·
   intro fa W hW hSame hRR KK hKK
   try dsimp only at hW
   obtain ⟨fv78, ft78, (rfl : fv78 = Value.bool true)⟩ := hRR 78 _ 191 rfl rfl (by kernel_rfl)
   have fb27 := hSame.base 27 (by kernel_rfl)
   simp only [List.getElem?_toArray, List.getElem?_cons_succ, List.getElem?_cons_zero] at fb27
   replace hKK := kq (Value.int IntKind.i64 1) hKK
   clear hSame hRR
   rw [wanted_guard rfl rfl rfl ft78]
   first | rw [if_pos (by rfl)] | rw [if_neg (by decide)]
   go_simp
   refine hKK _ _ ?_ ?_
   ·
    exact grP
   ·
    exact rfl
  refine Obs.cons (k' := 81) rfl ?_ ?_
  ·
   intro fa W hW hSame hRR KK hKK
   try dsimp only at hW
   obtain ⟨fv79, ft79, (rfl : fv79 = Value.int IntKind.i64 1)⟩ := hRR 79 _ 192 rfl rfl (by kernel_rfl)
   obtain ⟨fv78, ft78, (rfl : fv78 = Value.bool true)⟩ := hRR 78 _ 191 rfl rfl (by kernel_rfl)
   replace hKK := kq (Value.bool true) hKK
   clear hSame hRR
   rw [wanted_guard rfl rfl rfl ft78]
   first | rw [if_pos (by rfl)] | rw [if_neg (by decide)]
   go_simp
   refine hKK _ _ ?_ ?_
   ·
    exact grP
   ·
    exact rfl
  refine Obs.cons (k' := 82) rfl ?_ ?_
  ·
   intro fa W hW hSame hRR KK hKK
   try dsimp only at hW
   obtain ⟨fv78, ft78, (rfl : fv78 = Value.bool true)⟩ := hRR 78 _ 191 rfl rfl (by kernel_rfl)
   obtain ⟨fv80, ft80, (rfl : fv80 = Value.bool true)⟩ := hRR 80 _ 193 rfl rfl (by kernel_rfl)
   replace hKK := kq (Value.bool true) hKK
   clear hSame hRR
   rw [if_pos (wanted_plain rfl)]
   go_simp
   refine hKK _ _ ?_ ?_
   ·
    exact grP
   ·
    exact rfl
  refine Obs.cons (k' := 83) rfl ?_ ?_
  ·
   intro fa W hW hSame hRR KK hKK
   try dsimp only at hW
   obtain ⟨fv81, ft81, (rfl : fv81 = Value.bool true)⟩ := hRR 81 _ 194 rfl rfl (by kernel_rfl)
   replace hKK := kq (Value.bool true) hKK
   clear hSame hRR
   rw [if_pos (wanted_plain rfl)]
   go_simp
   refine hKK _ _ ?_ ?_
   ·
    exact grP
   ·
    exact rfl
  refine Obs.cons (k' := 84) rfl ?_ ?_
  ·
   intro fa W hW hSame hRR KK hKK
   try dsimp only at hW
   obtain ⟨fv82, ft82, (rfl : fv82 = Value.bool true)⟩ := hRR 82 _ 195 rfl rfl (by kernel_rfl)
   have fb29 := hSame.base 29 (by kernel_rfl)
   simp only [List.getElem?_toArray, List.getElem?_cons_succ, List.getElem?_cons_zero] at fb29
   replace hKK := kq (Value.int IntKind.i64 1) hKK
   clear hSame hRR
   rw [wanted_guard rfl rfl rfl ft82]
   first | rw [if_pos (by rfl)] | rw [if_neg (by decide)]
   go_simp
   refine hKK _ _ ?_ ?_
   ·
    exact grP
   ·
    exact rfl
  refine Obs.cons (k' := 85) rfl ?_ ?_
  ·
   intro fa W hW hSame hRR KK hKK
   try dsimp only at hW
   obtain ⟨fv83, ft83, (rfl : fv83 = Value.int IntKind.i64 1)⟩ := hRR 83 _ 196 rfl rfl (by kernel_rfl)
   obtain ⟨fv82, ft82, (rfl : fv82 = Value.bool true)⟩ := hRR 82 _ 195 rfl rfl (by kernel_rfl)
   replace hKK := kq (Value.bool true) hKK
   clear hSame hRR
   rw [wanted_guard rfl rfl rfl ft82]
   first | rw [if_pos (by rfl)] | rw [if_neg (by decide)]
   go_simp
   refine hKK _ _ ?_ ?_
   ·
    exact grP
   ·
    exact rfl
  refine Obs.cons (k' := 86) rfl ?_ ?_
  ·
   intro fa W hW hSame hRR KK hKK
   try dsimp only at hW
   obtain ⟨fv82, ft82, (rfl : fv82 = Value.bool true)⟩ := hRR 82 _ 195 rfl rfl (by kernel_rfl)
   obtain ⟨fv84, ft84, (rfl : fv84 = Value.bool true)⟩ := hRR 84 _ 197 rfl rfl (by kernel_rfl)
   replace hKK := kq (Value.bool true) hKK
   clear hSame hRR
   rw [if_pos (wanted_plain rfl)]
   go_simp
   refine hKK _ _ ?_ ?_
   ·
    exact grP
   ·
    exact rfl
  refine Obs.cons (k' := 87) rfl ?_ ?_
  ·
   intro fa W hW hSame hRR KK hKK
   try dsimp only at hW
   obtain ⟨fv85, ft85, (rfl : fv85 = Value.bool true)⟩ := hRR 85 _ 198 rfl rfl (by kernel_rfl)
   replace hKK := kq (Value.bool true) hKK
   clear hSame hRR
   rw [if_pos (wanted_plain rfl)]
   go_simp
   refine hKK _ _ ?_ ?_
   ·
    exact grP
   ·
    exact rfl
  refine Obs.cons (k' := 88) rfl ?_ ?_
  ·
   intro fa W hW hSame hRR KK hKK
   try dsimp only at hW
   obtain ⟨fv86, ft86, (rfl : fv86 = Value.bool true)⟩ := hRR 86 _ 199 rfl rfl (by kernel_rfl)
   have fb31 := hSame.base 31 (by kernel_rfl)
   simp only [List.getElem?_toArray, List.getElem?_cons_succ, List.getElem?_cons_zero] at fb31
   replace hKK := kq (Value.int IntKind.i64 4) hKK
   clear hSame hRR
   rw [wanted_guard rfl rfl rfl ft86]
   first | rw [if_pos (by rfl)] | rw [if_neg (by decide)]
   go_simp
   refine hKK _ _ ?_ ?_
   ·
    exact grP
   ·
    exact rfl
  refine Obs.cons (k' := 89) rfl ?_ ?_
  ·
   intro fa W hW hSame hRR KK hKK
   try dsimp only at hW
   obtain ⟨fv87, ft87, (rfl : fv87 = Value.int IntKind.i64 4)⟩ := hRR 87 _ 200 rfl rfl (by kernel_rfl)
   obtain ⟨fv86, ft86, (rfl : fv86 = Value.bool true)⟩ := hRR 86 _ 199 rfl rfl (by kernel_rfl)
   replace hKK := kq (Value.bool true) hKK
   clear hSame hRR
   rw [wanted_guard rfl rfl rfl ft86]
   first | rw [if_pos (by rfl)] | rw [if_neg (by decide)]
   go_simp
   refine hKK _ _ ?_ ?_
   ·
    exact grP
   ·
    exact rfl
  refine Obs.cons (k' := 90) rfl ?_ ?_
  ·
   intro fa W hW hSame hRR KK hKK
   try dsimp only at hW
   obtain ⟨fv86, ft86, (rfl : fv86 = Value.bool true)⟩ := hRR 86 _ 199 rfl rfl (by kernel_rfl)
   obtain ⟨fv88, ft88, (rfl : fv88 = Value.bool true)⟩ := hRR 88 _ 201 rfl rfl (by kernel_rfl)
   replace hKK := kq (Value.bool true) hKK
   clear hSame hRR
   rw [if_pos (wanted_plain rfl)]
   go_simp
   refine hKK _ _ ?_ ?_
   ·
    exact grP
   ·
    exact rfl
  refine Obs.cons (k' := 91) rfl ?_ ?_
  ·
   intro fa W hW hSame hRR KK hKK
   try dsimp only at hW
   obtain ⟨fv89, ft89, (rfl : fv89 = Value.bool true)⟩ := hRR 89 _ 202 rfl rfl (by kernel_rfl)
   replace hKK := kq (Value.bool true) hKK
   clear hSame hRR
   rw [if_pos (wanted_plain rfl)]
   go_simp
   refine hKK _ _ ?_ ?_
   ·
    exact grP
   ·
    exact rfl
  refine Obs.cons (k' := 92) rfl ?_ ?_
  ·
   intro fa W hW hSame hRR KK hKK
   try dsimp only at hW
   obtain ⟨fv90, ft90, (rfl : fv90 = Value.bool true)⟩ := hRR 90 _ 203 rfl rfl (by kernel_rfl)
   have fb2 := hSame.base 2 (by kernel_rfl)
   simp only [List.getElem?_toArray, List.getElem?_cons_succ, List.getElem?_cons_zero] at fb2
   replace hKK := kq (Value.agg #[Value.int IntKind.i64 0, Value.int IntKind.i64 1, Value.int IntKind.i64 3600, Value.string { data := #[] }, Value.string { data := #[66, 83, 84] }, Value.bool true, Value.int IntKind.i64 1971, Value.int IntKind.i64 10, Value.int IntKind.i64 0, Value.int IntKind.i64 0, Value.int IntKind.i64 31, Value.int IntKind.i64 7200, Value.int IntKind.i64 2]) hKK
   clear hSame hRR
   rw [wanted_guard rfl rfl rfl ft90]
   first | rw [if_pos (by rfl)] | rw [if_neg (by decide)]
   go_simp
   refine hKK _ _ ?_ ?_
   ·
    exact grP
   ·
    exact rfl
  refine Obs.cons (k' := 93) rfl ?_ ?_
  ·
   intro fa W hW hSame hRR KK hKK
   try dsimp only at hW
   obtain ⟨fv91, ft91, (rfl : fv91 = Value.agg #[Value.int IntKind.i64 0, Value.int IntKind.i64 1, Value.int IntKind.i64 3600, Value.string { data := #[] }, Value.string { data := #[66, 83, 84] }, Value.bool true, Value.int IntKind.i64 1971, Value.int IntKind.i64 10, Value.int IntKind.i64 0, Value.int IntKind.i64 0, Value.int IntKind.i64 31, Value.int IntKind.i64 7200, Value.int IntKind.i64 2])⟩ := hRR 91 _ 204 rfl rfl (by kernel_rfl)
   obtain ⟨fv90, ft90, (rfl : fv90 = Value.bool true)⟩ := hRR 90 _ 203 rfl rfl (by kernel_rfl)
   replace hKK := kq (Value.bool true) hKK
   clear hSame hRR
   rw [wanted_guard rfl rfl rfl ft90]
   first | rw [if_pos (by rfl)] | rw [if_neg (by decide)]
   go_simp
   first
    | (go_at_call 59; refine (gb_any _).mono ?_; rintro e w' ⟨rfl, hb⟩)
    | (go_at_call 12; first
      | ((with_reducible refine (F1.out _ _ _ hW.2.1 hW.2.2.1).mono ?_); rintro e w' ⟨rfl, hb⟩)
      | ((with_reducible refine (F2.out _ _ _ hW.2.2.2.1 fm34).mono ?_); rintro e w' ⟨rfl, hb⟩))
    | (go_at_call 22; first
      | ((with_reducible refine (X1.out _ tp pp y (HL.out _ hW.1)).mono ?_); rintro e w' ⟨rfl, hb⟩)
      | ((with_reducible refine (X2.out _ tp pp y (HL.out _ hW.1)).mono ?_); rintro e w' ⟨rfl, hb⟩))
   try dsimp only
   refine hKK _ _ ?_ ?_
   ·
    exact grP
   ·
    exact rfl
  refine Obs.cons (k' := 94) rfl ?_ ?_
  ·
   intro fa W hW hSame hRR KK hKK
   try dsimp only at hW
   obtain ⟨fv90, ft90, (rfl : fv90 = Value.bool true)⟩ := hRR 90 _ 203 rfl rfl (by kernel_rfl)
   obtain ⟨fv92, ft92, (rfl : fv92 = Value.bool true)⟩ := hRR 92 _ 205 rfl rfl (by kernel_rfl)
   replace hKK := kq (Value.bool true) hKK
   clear hSame hRR
   rw [if_pos (wanted_plain rfl)]
   go_simp
   refine hKK _ _ ?_ ?_
   ·
    exact grP
   ·
    exact rfl
  refine Obs.cons (k' := 95) rfl ?_ ?_
  ·
   intro fa W hW hSame hRR KK hKK
   try dsimp only at hW
   obtain ⟨fv93, ft93, (rfl : fv93 = Value.bool true)⟩ := hRR 93 _ 206 rfl rfl (by kernel_rfl)
   replace hKK := kq (Value.bool true) hKK
   clear hSame hRR
   rw [if_pos (wanted_plain rfl)]
   go_simp
   refine hKK _ _ ?_ ?_
   ·
    exact grP
   ·
    exact rfl
  refine Obs.cons (k' := 96) rfl ?_ ?_
  ·
   intro fa W hW hSame hRR KK hKK
   try dsimp only at hW
   obtain ⟨fv94, ft94, (rfl : fv94 = Value.bool true)⟩ := hRR 94 _ 207 rfl rfl (by kernel_rfl)
   replace hKK := kq (Value.agg #[Value.int IntKind.i64 0, Value.int IntKind.i64 0, Value.int IntKind.i64 0, Value.string { data := #[] }, Value.string { data := #[] }, Value.bool false, Value.int IntKind.i64 0, Value.int IntKind.i64 0, Value.int IntKind.i64 0, Value.int IntKind.i64 0, Value.int IntKind.i64 0, Value.int IntKind.i64 0, Value.int IntKind.i64 0]) hKK
   clear hSame hRR
   rw [wanted_guard rfl rfl rfl ft94]
   first | rw [if_pos (by rfl)] | rw [if_neg (by decide)]
   go_simp
   refine hKK _ _ ?_ ?_
   ·
    exact grP
   ·
    exact rfl
  refine Obs.cons (k' := 97) rfl ?_ ?_
  ·
   intro fa W hW hSame hRR KK hKK
   try dsimp only at hW
   obtain ⟨fv95, ft95, (rfl : fv95 = Value.agg #[Value.int IntKind.i64 0, Value.int IntKind.i64 0, Value.int IntKind.i64 0, Value.string { data := #[] }, Value.string { data := #[] }, Value.bool false, Value.int IntKind.i64 0, Value.int IntKind.i64 0, Value.int IntKind.i64 0, Value.int IntKind.i64 0, Value.int IntKind.i64 0, Value.int IntKind.i64 0, Value.int IntKind.i64 0])⟩ := hRR 95 _ 208 rfl rfl (by kernel_rfl)
   obtain ⟨fv94, ft94, (rfl : fv94 = Value.bool true)⟩ := hRR 94 _ 207 rfl rfl (by kernel_rfl)
   replace hKK := kq (Value.bool false) hKK
   clear hSame hRR
   rw [wanted_guard rfl rfl rfl ft94]
   first | rw [if_pos (by rfl)] | rw [if_neg (by decide)]
   go_simp
   first
    | (go_at_call 59; refine (gb_any _).mono ?_; rintro e w' ⟨rfl, hb⟩)
    | (go_at_call 12; first
      | ((with_reducible refine (F1.out _ _ _ hW.2.1 hW.2.2.1).mono ?_); rintro e w' ⟨rfl, hb⟩)
      | ((with_reducible refine (F2.out _ _ _ hW.2.2.2.1 fm34).mono ?_); rintro e w' ⟨rfl, hb⟩))
    | (go_at_call 22; first
      | ((with_reducible refine (X1.out _ tp pp y (HL.out _ hW.1)).mono ?_); rintro e w' ⟨rfl, hb⟩)
      | ((with_reducible refine (X2.out _ tp pp y (HL.out _ hW.1)).mono ?_); rintro e w' ⟨rfl, hb⟩))
   try dsimp only
   refine hKK _ _ ?_ ?_
   ·
    exact grP
   ·
    exact rfl
  refine Obs.cons (k' := 98) rfl ?_ ?_
  ·
   intro fa W hW hSame hRR KK hKK
   try dsimp only at hW
   obtain ⟨fv96, ft96, (rfl : fv96 = Value.bool false)⟩ := hRR 96 _ 209 rfl rfl (by kernel_rfl)
   obtain ⟨fv94, ft94, (rfl : fv94 = Value.bool true)⟩ := hRR 94 _ 207 rfl rfl (by kernel_rfl)
   replace hKK := kq (Value.bool true) hKK
   clear hSame hRR
   rw [wanted_guard rfl rfl rfl ft94]
   first | rw [if_pos (by rfl)] | rw [if_neg (by decide)]
   go_simp
   refine hKK _ _ ?_ ?_
   ·
    exact grP
   ·
    exact rfl
  refine Obs.cons (k' := 99) rfl ?_ ?_
  ·
   intro fa W hW hSame hRR KK hKK
   try dsimp only at hW
   obtain ⟨fv94, ft94, (rfl : fv94 = Value.bool true)⟩ := hRR 94 _ 207 rfl rfl (by kernel_rfl)
   obtain ⟨fv97, ft97, (rfl : fv97 = Value.bool true)⟩ := hRR 97 _ 210 rfl rfl (by kernel_rfl)
   replace hKK := kq (Value.bool true) hKK
   clear hSame hRR
   rw [if_pos (wanted_plain rfl)]
   go_simp
   refine hKK _ _ ?_ ?_
   ·
    exact grP
   ·
    exact rfl
  refine Obs.cons (k' := 100) rfl ?_ ?_
  ·
   intro fa W hW hSame hRR KK hKK
   try dsimp only at hW
   obtain ⟨fv98, ft98, (rfl : fv98 = Value.bool true)⟩ := hRR 98 _ 211 rfl rfl (by kernel_rfl)
   replace hKK := kq (Value.bool true) hKK
   clear hSame hRR
   rw [if_pos (wanted_plain rfl)]
   go_simp
   refine hKK _ _ ?_ ?_
   ·
    exact grP
   ·
    exact rfl
  exact Obs.nil
 case hlast =>
  intro fa W hW hSame hRR
  try dsimp only at hW
  obtain ⟨fv99, ft99, (rfl : fv99 = Value.bool true)⟩ := hRR 99 _ 0 rfl rfl
  have hdf := hSame.defers
  obtain ⟨tm, df⟩ := fa
  dsimp only at hdf ft99
  subst hdf
  have BB := Lib.hid hW.1
  clear hSame hRR hW
  go_wp2_with fail
  refine bodyPost_ret (v := .bool true) ?_ rfl ⟨rfl, BB.out⟩
  rw [results_tmp rfl]
  simp [Array.getD_eq_getD_getElem?, ft99]
end Go.Proofs.YtpggfhmnhbnefaaGreatDoor

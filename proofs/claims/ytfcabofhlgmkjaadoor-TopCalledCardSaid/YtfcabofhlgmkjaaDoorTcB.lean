/- Joined: TcM, TcA. -/
import Derived.Test.YtfcabofhlgmkjaaDoorAmM0
import Derived.Test.YtfcabofhlgmkjaaDoorFoC
import Derived.Test.YtfcabofhlgmkjaaDoorClBD
import Derived.Test.YtfcabofhlgmkjaaDoorFoE
set_option linter.unusedVariables false
set_option linter.unusedSimpArgs false
namespace Go.Proofs.YtfcabofhlgmkjaaDoor
section
open Go Go.Lib

namespace Tc
theorem app_l (a b : ByteArray) : (a ++ b).data.toList = a.data.toList ++ b.data.toList := by rw [ByteArray.data_append, Array.toList_append]
/-- The two letters of the k-th part; the parts ahead of the k-th, joined. -/
def pc (r : ByteArray) (k : Nat) : ByteArray := r.extract (1 + 2 * k) (3 + 2 * k)
def jn (r : ByteArray) : Nat → ByteArray
  | 0 => ⟨#[]⟩
  | k + 1 => (if k = 0 then ⟨#[]⟩ else jn r k ++ ⟨#[58]⟩) ++ pc r k
theorem pc_l (r : ByteArray) (k : Nat) : (pc r k).data.toList = (r.data.toList.take (3 + 2 * k)).drop (1 + 2 * k) := by
  unfold pc
  rw [ByteArray.data_extract, Array.toList_extract, List.extract_eq_take_drop, List.drop_take]
theorem pc_le (r : ByteArray) (k : Nat) : (pc r k).size ≤ 2 := by
  unfold pc; rw [ByteArray.size_extract]; omega
theorem jn_le (r : ByteArray) : ∀ k, (jn r k).size ≤ 3 * k
  | 0 => Nat.le_refl 0
  | k + 1 => by
    have h := jn_le r k
    have h2 := pc_le r k
    show ((if k = 0 then ⟨#[]⟩ else jn r k ++ ⟨#[58]⟩) ++ pc r k).size ≤ _
    rw [ByteArray.size_append]
    split
    · have : (⟨#[]⟩ : ByteArray).size = 0 := rfl
      omega
    · rw [ByteArray.size_append]
      have : (⟨#[58]⟩ : ByteArray).size = 1 := rfl
      omega
theorem td2 {n : Int} (h0 : 0 ≤ n) (h1 : n < 100) : ∃ x y, Fo.td n = [x, y] ∧ x ≠ 45 ∧ Am.isP 1 [x, y] = true ∧ (Num.val 0 [x, y] : Int) = n := by
  have := Am.d_tab ⟨n.toNat, by omega⟩
  rw [Bool.and_eq_true, decide_eq_true_eq] at this
  simp only [show ((n.toNat : Nat) : Int) = n by omega] at this
  obtain ⟨p, v⟩ := this
  have p : Am.isP 1 (Fo.td n) = true := p
  have v : Num.val 0 (Fo.td n) = n.toNat := v
  have hl : (Fo.td n).length = 2 := by
    have q := p
    unfold Am.isP at q
    rw [Bool.and_eq_true] at q
    exact of_decide_eq_true q.2
  obtain ⟨x, y, e⟩ : ∃ x y, Fo.td n = [x, y] := by
    match h : Fo.td n, hl with
    | [x, y], _ => exact ⟨x, y, rfl⟩
  obtain ⟨c, r, hc, hc45⟩ := Am.isP_head p (by rw [e]; simp)
  rw [e] at p v hc
  cases hc
  exact ⟨_, _, e, hc45, p, by omega⟩
/-- A text of parts: what amounts read. -/
def G (l : List UInt8) (h m s : Int) : Prop := ∀ t : ByteArray, t.data.toList = l → Am.okK t = true ∧ Am.vK t 0 = h ∧ Am.vK t 1 = m ∧ Am.vK t 2 = s
theorem isP01 {x y : UInt8} (h : Am.isP 1 [x, y] = true) : Am.isP 0 [x, y] = true := by
  unfold Am.isP at *
  rw [Bool.and_eq_true] at *
  exact ⟨h.1, by rw [if_pos rfl]; exact decide_eq_true ⟨by simp, by simp⟩⟩
theorem g1 {a b : UInt8} (ha : Am.isP 1 [a, b] = true) : G [a, b] (Num.val 0 [a, b]) 0 0 := by
  intro t e
  have p : (Am.pcs t).map (·.data.toList) = [[a, b]] := by rw [Am.pcs_data, e, Am.splitK_no _ _ (Am.nc_dig (Am.isP_size (isP01 ha)).1)]
  refine ⟨?_, by rw [Am.vK_l, p]; rfl, by rw [Am.vK_l, p]; rfl, by rw [Am.vK_l, p]; rfl⟩
  unfold Am.okK
  rw [Am.isK_l, Am.isK_l, Am.isK_l, p]
  show (Am.isP 0 [a, b] && (true && true)) = true
  rw [isP01 ha]; rfl
theorem g2 {a b c d : UInt8} (ha : Am.isP 1 [a, b] = true) (hb : Am.isP 1 [c, d] = true) : G [a, b, 58, c, d] (Num.val 0 [a, b]) (Num.val 0 [c, d]) 0 := fun t e => Am.ok2 (a := [a, b]) (b := [c, d]) e (isP01 ha) hb
theorem g3 {a b c d u v : UInt8} (ha : Am.isP 1 [a, b] = true) (hb : Am.isP 1 [c, d] = true) (hc : Am.isP 1 [u, v] = true) : G [a, b, 58, c, d, 58, u, v] (Num.val 0 [a, b]) (Num.val 0 [c, d]) (Num.val 0 [u, v]) := fun t e => Am.ok3 (a := [a, b]) (b := [c, d]) (c := [u, v]) e (isP01 ha) hb (by rw [Am.isP_12]; exact hc)
theorem fin {x y : UInt8} {l : List UInt8} {h m s a : Int} (g : G (x :: y :: l) h m s) (hx : x ≠ 45) (hm : m < 60) (hs : s < 60) (ha : a = h * 3600 + m * 60 + s) (hb : a ≤ 359999) :
    (∀ t : ByteArray, t.data.toList = x :: y :: l → Am.rd t = (a, 0)) ∧ ∀ t : ByteArray, t.data.toList = 45 :: x :: y :: l → Am.rd t = (-a, 0) := by
  refine ⟨fun t e => ?_, fun t e => ?_⟩
  · obtain ⟨u1, u2⟩ := Am.un_dig e hx
    rw [Am.rd_of (by rw [← ab_len t, e]; simp) u2 (by rw [u1]; exact g t e), if_pos ⟨hm, hs, by omega⟩, ha]; rfl
  · obtain ⟨u1, u2⟩ := Am.un_neg e
    rw [Am.rd_of (by rw [← ab_len t, e]; simp) u2 (by rw [u1]; exact g _ rfl), if_pos ⟨hm, hs, by omega⟩, ha]; rfl
/-- Three numbers' shapes. -/
theorem shape (a : Int) (a0 : 0 ≤ a) (a1 : a ≤ 359999) (c : UInt8) : ∃ (K : Nat) (x y : UInt8) (l : List UInt8), 1 ≤ K ∧ K ≤ 3 ∧
    (∀ r : ByteArray, r.data.toList = c :: Fo.dfa a → r.size = 1 + 2 * K ∧ (jn r K).data.toList = x :: y :: l) ∧
    (∀ t : ByteArray, t.data.toList = x :: y :: l → Am.rd t = (a, 0)) ∧ ∀ t : ByteArray, t.data.toList = 45 :: x :: y :: l → Am.rd t = (-a, 0) := by
  obtain ⟨x, y, e, hx, p, v⟩ := td2 (n := a / 3600) (by omega) (by omega)
  obtain ⟨x2, y2, e2, -, p2, v2⟩ := td2 (n := a / 60 % 60) (by omega) (by omega)
  obtain ⟨x3, y3, e3, -, p3, v3⟩ := td2 (n := a % 60) (by omega) (by omega)
  unfold Fo.dfa
  rw [e, e2, e3]
  by_cases h : a % 3600 = 0
  · rw [if_pos h, if_pos (by omega)]
    refine ⟨1, x, y, [], by omega, by omega, fun r hr => ⟨by rw [← ab_len r, hr]; rfl, ?_⟩, fin (g1 p) hx (by omega) (by omega) (by omega) a1⟩
    simp only [jn, if_pos]
    rw [app_l, pc_l, hr]; rfl
  · rw [if_neg h]
    by_cases h2 : a % 60 = 0
    · rw [if_pos h2]
      refine ⟨2, x, y, [58, x2, y2], by omega, by omega, fun r hr => ⟨by rw [← ab_len r, hr]; rfl, ?_⟩, fin (g2 p p2) hx (by omega) (by omega) (by omega) a1⟩
      show ((((⟨#[]⟩ : ByteArray) ++ pc r 0) ++ ⟨#[58]⟩) ++ pc r 1).data.toList = _
      rw [app_l, app_l, app_l, pc_l, pc_l, hr]; rfl
    · rw [if_neg h2]
      refine ⟨3, x, y, [58, x2, y2, 58, x3, y3], by omega, by omega, fun r hr => ⟨by rw [← ab_len r, hr]; rfl, ?_⟩, fin (g3 p p2 p3) hx (by omega) (by omega) (by omega) a1⟩
      show ((((((⟨#[]⟩ : ByteArray) ++ pc r 0) ++ ⟨#[58]⟩) ++ pc r 1) ++ ⟨#[58]⟩) ++ pc r 2).data.toList = _
      rw [app_l, app_l, app_l, app_l, app_l, pc_l, pc_l, pc_l, hr]; rfl
theorem head {r : ByteArray} {c : UInt8} {l : List UInt8} (e : r.data.toList = c :: l) (h : 0 < r.size) : r[0] = c := by
  show r.data[0] = c
  have : r.data.toList[0]? = some c := by rw [e]; rfl
  rw [Array.getElem?_toList] at this
  rw [Array.getElem?_eq_getElem (by exact h)] at this
  exact Option.some.inj this
theorem all (off : Int) (n0 : -359999 ≤ off) (n1 : off ≤ 359999) : ∃ (r J : ByteArray) (K : Nat) (c : UInt8), r = ⟨(Fo.df off).toArray⟩ ∧ 1 ≤ K ∧ K ≤ 3 ∧ r.size = 1 + 2 * K ∧ J = jn r K ∧ (∀ h : 0 < r.size, r[0] = c) ∧
    ((c = 45 ∧ Am.rd (⟨#[45]⟩ ++ J) = (off, 0)) ∨ (c = 43 ∧ Am.rd J = (off, 0))) := by
  by_cases h : off < 0
  · obtain ⟨K, x, y, l, k1, k2, kr, -, kt⟩ := shape (-off) (by omega) (by omega) 45
    have e : (⟨(Fo.df off).toArray⟩ : ByteArray).data.toList = 45 :: Fo.dfa (-off) := by show Fo.df off = _; unfold Fo.df; rw [if_pos h]
    obtain ⟨z, j⟩ := kr _ e
    refine ⟨_, _, K, 45, rfl, k1, k2, z, rfl, head e, .inl ⟨rfl, ?_⟩⟩
    rw [kt _ (by rw [app_l, j]; rfl), Int.neg_neg]
  · obtain ⟨K, x, y, l, k1, k2, kr, kt, -⟩ := shape off (by omega) (by omega) 43
    have e : (⟨(Fo.df off).toArray⟩ : ByteArray).data.toList = 43 :: Fo.dfa off := by show Fo.df off = _; unfold Fo.df; rw [if_neg h]
    obtain ⟨z, j⟩ := kr _ e
    exact ⟨_, _, K, 43, rfl, k1, k2, z, rfl, head e, .inr ⟨rfl, kt _ j⟩⟩
end Tc
end
section
open Go.RowKit

namespace Tc
theorem hour : Cl.rd ⟨#[49, 58, 48, 48, 117]⟩ = (3600, (Cl.rd ⟨#[49, 58, 48, 48, 117]⟩).2.1, 0) := by decide +kernel
theorem kz : Fo.kd [37, 122] = (2, 0) := by decide +kernel
theorem aw_of (off : Int) : Fo.aw [37, 122] off = if -359999 ≤ off ∧ off ≤ 359999 then 0 else 1 := by
  unfold Fo.aw; rw [kz]; exact if_neg (fun h => h rfl)
theorem av_of (off : Int) : Fo.av [37, 122] off 0 [] = Fo.df off := by
  unfold Fo.av; rw [kz]; rfl
theorem ab_in (off : Int) (h : -359999 ≤ off ∧ off ≤ 359999) : Fo.ab [37, 122] off 0 [] = (Fo.df off, 0) := by
  unfold Fo.ab
  rw [aw_of, av_of, if_pos h, if_pos rfl]
theorem ab_out (off : Int) (h : ¬ (-359999 ≤ off ∧ off ≤ 359999)) : Fo.ab [37, 122] off 0 [] = ([], 1) := by
  unfold Fo.ab
  rw [aw_of, if_neg h, if_neg (by decide)]
end Tc
set_option maxHeartbeats 4000000 in
set_option maxRecDepth 100000 in
theorem tc_out (off : Int) (w : World) (m : Int) (hm : w.cell? ⟨1, 0, none⟩ = some (.int .i64 m)) (T : Cl.Tab w) (htab : Lib.TabIs Tryd.prog w "internal/strconv.uint64pow10" .u64 Lib.pow10Tab) (h : ¬ (-359999 ≤ off ∧ off ≤ 359999)) :
    Calls Tryd.prog 11 #[.int .i64 off] w fun e w' => e = .returned (.bool true) ∧ Below w.heap.size w w' := by
  have CK := Lib.hid (clread_any ⟨#[49, 58, 48, 48, 117]⟩ w m (by decide) T hm)
  have CF : Hid (∀ W, W.cell? ⟨1, 0, none⟩ = some (.int .i64 m) → Lib.TabIs Tryd.prog W "internal/strconv.uint64pow10" .u64 Lib.pow10Tab → Calls Tryd.prog 50 #[.string ⟨#[37, 122]⟩, .int .i64 off, .int .i64 0, .string ⟨#[]⟩] W fun e w' => e = .returned (.tuple #[.string ⟨#[]⟩, .int .i64 1]) ∧ Below W.heap.size W w') := fun W h1 h2 => by
    have := abbr_any ⟨#[37, 122]⟩ ⟨#[]⟩ off 0 W m (by decide) (by decide) h1 h2
    rw [show (⟨#[37, 122]⟩ : ByteArray).data.toList = [37, 122] from rfl, show (⟨#[]⟩ : ByteArray).data.toList = [] from rfl, Tc.ab_out off h] at this
    exact this
  rw [Tc.hour] at CK
  generalize (Cl.rd ⟨#[49, 58, 48, 48, 117]⟩).2.1 = b at CK
  have M0 := Lib.hid hm; have T0 := Lib.hid htab
  clear hm htab T
  have hc : (off < -359999 ∧ (decide (off < -359999)) = true) ∨ (¬ off < -359999 ∧ 359999 < off) := by
    by_cases x : off < -359999
    · exact .inl ⟨x, decide_eq_true x⟩
    · exact .inr ⟨x, by omega⟩
  clear h
  rcases hc with ⟨h1, -⟩ | ⟨h1, h2⟩
  all_goals
    go_enter Tryd.func11, Tryd.ntmps11
    go_wp2_with fail
    refine CK.out.mono ?_; rintro e w1 ⟨rfl, b1⟩
    have B1 := Lib.hid b1
    go_wp2_with fail
    refine (CF.out _ (cell_keep0 M0.out (b1.alloc b1.size _)) (var_keep (b1.alloc b1.size _) T0.out)).mono ?_; rintro e w2 ⟨rfl, b2⟩
    have B2 := Lib.hid (below_step (B1.out.alloc B1.out.size _) b2)
    clear b1 b2 B1
    go_wp2_with fail
    go_ret
    exact ⟨rfl, B2.out⟩
set_option maxHeartbeats 16000000 in
set_option maxRecDepth 100000 in
theorem tc_in (off : Int) (w : World) (m : Int) (hm : w.cell? ⟨1, 0, none⟩ = some (.int .i64 m)) (T : Cl.Tab w) (htab : Lib.TabIs Tryd.prog w "internal/strconv.uint64pow10" .u64 Lib.pow10Tab) (h : -359999 ≤ off ∧ off ≤ 359999) :
    Calls Tryd.prog 11 #[.int .i64 off] w fun e w' => e = .returned (.bool true) ∧ Below w.heap.size w w' := by
  have CK := Lib.hid (clread_any ⟨#[49, 58, 48, 48, 117]⟩ w m (by decide) T hm)
  rw [Tc.hour] at CK
  generalize (Cl.rd ⟨#[49, 58, 48, 48, 117]⟩).2.1 = b at CK
  obtain ⟨r, J, K, c, hr, k1, k2, hz, hJ, hh, hrd⟩ := Tc.all off h.1 h.2
  have CF : Hid (∀ W, W.cell? ⟨1, 0, none⟩ = some (.int .i64 m) → Lib.TabIs Tryd.prog W "internal/strconv.uint64pow10" .u64 Lib.pow10Tab → Calls Tryd.prog 50 #[.string ⟨#[37, 122]⟩, .int .i64 off, .int .i64 0, .string ⟨#[]⟩] W fun e w' => e = .returned (.tuple #[.string r, .int .i64 0]) ∧ Below W.heap.size W w') := fun W h1 h2 => by
    have := abbr_any ⟨#[37, 122]⟩ ⟨#[]⟩ off 0 W m (by decide) (by decide) h1 h2
    rw [show (⟨#[37, 122]⟩ : ByteArray).data.toList = [37, 122] from rfl, show (⟨#[]⟩ : ByteArray).data.toList = [] from rfl, Tc.ab_in off h] at this
    rw [hr]; exact this
  clear hr
  have hJz : J.size ≤ 9 := by have := Tc.jn_le r K; rw [← hJ] at this; omega
  have C45 : Hid (c = 45 → ∀ W, W.cell? ⟨1, 0, none⟩ = some (.int .i64 m) → Calls Tryd.prog 59 #[.string (⟨#[45]⟩ ++ J)] W fun e w' => e = .returned (.tuple #[.int .i64 off, .int .i64 0]) ∧ Below W.heap.size W w') := fun hc W h1 => by
    have := aread_any (⟨#[45]⟩ ++ J) W m (by rw [ByteArray.size_append]; have : (⟨#[45]⟩ : ByteArray).size = 1 := rfl; omega) h1
    rcases hrd with ⟨-, e⟩ | ⟨x, -⟩
    · rw [e] at this; exact this
    · rw [hc] at x; exact absurd x (by decide)
  have C43 : Hid (c ≠ 45 → ∀ W, W.cell? ⟨1, 0, none⟩ = some (.int .i64 m) → Calls Tryd.prog 59 #[.string J] W fun e w' => e = .returned (.tuple #[.int .i64 off, .int .i64 0]) ∧ Below W.heap.size W w') := fun hc W h1 => by
    have := aread_any J W m (by omega) h1
    rcases hrd with ⟨x, -⟩ | ⟨-, e⟩
    · exact absurd x hc
    · rw [e] at this; exact this
  have HC : Hid (c = 45 ∨ c = 43) := by rcases hrd with ⟨x, -⟩ | ⟨x, -⟩; exact .inl x; exact .inr x
  have I0 : Hid (∀ W, Sem.run Tryd.prog (Instr.index 9 (.string r) (.int .i64 0)) W = .ok (.int .u8 c.toNat) W) := fun W => by
    have h0 : 0 < r.size := by omega
    rw [← hh h0]
    exact rn_ix r 0 h0 W
  have CT : Hid (∀ k, k < K → ∀ W, Sem.run Tryd.prog (Instr.slice 9 (.string r) (some (.int .i64 (1 + 2 * (k : Int)))) (some (.int .i64 (1 + 2 * (k : Int) + 2))) none) W = .ok (.string (Tc.pc r k)) W) := fun k hk W => by
    rw [run_slice_string W 9 r .i64 .i64 (1 + 2 * (k : Int)) (1 + 2 * (k : Int) + 2) Tryd.underlying9 (by omega) (by omega) (by omega)]
    unfold Tc.pc
    rw [show (1 + 2 * (k : Int)).toNat = 1 + 2 * k by omega, show (1 + 2 * (k : Int) + 2).toNat = 3 + 2 * k by omega]
  have HJ := Lib.hid hJ; have PC := Lib.hid (Tc.pc_le r); have JL := Lib.hid (Tc.jn_le r)
  have M0 := Lib.hid hm; have T0 := Lib.hid htab
  clear hm htab T hh hrd hJ h
  go_enter Tryd.func11, Tryd.ntmps11
  go_wp2_with fail
  refine CK.out.mono ?_; rintro e w1 ⟨rfl, b1⟩
  have B1 := Lib.hid b1
  go_wp2_with fail
  refine (CF.out _ (cell_keep0 M0.out (b1.alloc b1.size _)) (var_keep (b1.alloc b1.size _) T0.out)).mono ?_; rintro e w2 ⟨rfl, b2⟩
  have B2 := Lib.hid (below_step (B1.out.alloc B1.out.size _) b2)
  clear b1 b2 B1 CK CF
  go_wp2_with fail
  go_loopw [7, 8] (fun t i wr => ∃ k : Nat, k ≤ K ∧ i = .int .i64 (1 + 2 * (k : Int)) ∧ t = .string (Tc.jn r k) ∧ wr = w2) (fun _ i _ => 7 - (intOf i).toNat)
  case atStart => exact ⟨0, Nat.zero_le _, rfl, rfl, rfl⟩
  case round =>
    obtain ⟨k, hk, rfl, rfl, hw⟩ := hrel
    obtain rfl : w2 = wr := hw.symm
    by_cases hlt : k < K
    · have CTk := CT.out k hlt
      have pz := PC.out k
      have jz := JL.out k
      have g0 : 1 + 2 * (k : Int) < (r.size : Int) := by omega
      have g1 : ¬ (r.size : Int) < 1 + 2 * (k : Int) + 2 := by omega
      by_cases h0 : k = 0
      · subst h0
        have hnx := Lib.hid (show Tc.jn r 1 = Tc.jn r 0 ++ Tc.pc r 0 from rfl)
        have CTk : ∀ W, Sem.run Tryd.prog (Instr.slice 9 (.string r) (some (.int .i64 1)) (some (.int .i64 3)) none) W = .ok (.string (Tc.pc r 0)) W := CTk
        generalize Tc.pc r 0 = P at CTk pz hnx
        generalize Tc.jn r 0 = D at jz hnx
        have z1 : D.size ≤ 9 := by omega
        go_wp2_with fail
        go_roundw
        case rel => exact ⟨1, by omega, by go_num, by rw [hnx.out], by first | rfl | trivial⟩
        case measure => simp [intOf]; try omega
      · have hnx := Lib.hid (show Tc.jn r (k + 1) = (Tc.jn r k ++ ⟨#[58]⟩) ++ Tc.pc r k from by show (if k = 0 then ⟨#[]⟩ else Tc.jn r k ++ ⟨#[58]⟩) ++ Tc.pc r k = _; rw [if_neg h0])
        have g2 : 1 < 1 + 2 * (k : Int) := by omega
        generalize Tc.pc r k = P at CTk pz hnx
        generalize Tc.jn r k = D at jz hnx
        have e1 : (D ++ ⟨#[58]⟩ : ByteArray).size = D.size + 1 := by rw [ByteArray.size_append]; rfl
        have z1 : D.size ≤ 9 := by omega
        go_wp2_with fail
        go_roundw
        case rel => exact ⟨k + 1, by omega, by go_num, by rw [hnx.out], by first | rfl | trivial⟩
        case measure => simp [intOf]; try omega
    · obtain rfl : k = K := by omega
      rw [← HJ.out]
      have g0 : ¬ 1 + 2 * (k : Int) < (r.size : Int) := by omega
      have g1 : 0 < (r.size : Int) := by omega
      have I0 := I0.out
      rcases HC.out with hc | hc
      · have CA := Lib.hid (C45.out hc)
        rw [hc] at I0
        have I0 : ∀ W, Sem.run Tryd.prog (Instr.index 9 (.string r) (.int .i64 0)) W = .ok (.int .u8 45) W := I0
        clear C45 C43 HC hc CT
        go_wp2_with fail
        refine (CA.out _ (cell_keep0 M0.out B2.out)).mono ?_; rintro e w3 ⟨rfl, b3⟩
        have B3 := Lib.hid (below_step B2.out b3); clear b3 B2
        go_wp2_with fail
        go_ret
        exact ⟨rfl, B3.out⟩
      · have CA := Lib.hid (C43.out (by rw [hc]; decide))
        rw [hc] at I0
        have I0 : ∀ W, Sem.run Tryd.prog (Instr.index 9 (.string r) (.int .i64 0)) W = .ok (.int .u8 43) W := I0
        clear C45 C43 HC hc CT
        go_wp2_with fail
        refine (CA.out _ (cell_keep0 M0.out B2.out)).mono ?_; rintro e w3 ⟨rfl, b3⟩
        have B3 := Lib.hid (below_step B2.out b3); clear b3 B2
        go_wp2_with fail
        go_ret
        exact ⟨rfl, B3.out⟩
theorem tc_walk (off : Int) (w : World) (m : Int) (T : Cl.Tab w) (hm : w.cell? ⟨1, 0, none⟩ = some (.int .i64 m)) (htab : Lib.TabIs Tryd.prog w "internal/strconv.uint64pow10" .u64 Lib.pow10Tab) :
    Calls Tryd.prog 11 #[.int .i64 off] w fun e w' => e = .returned (.bool true) ∧ Below w.heap.size w w' := by
  by_cases h : -359999 ≤ off ∧ off ≤ 359999
  · exact tc_in off w m hm T htab h
  · exact tc_out off w m hm T htab h
end
end Go.Proofs.YtfcabofhlgmkjaaDoor

/- Formats: what a time is called. -/
import Derived.Test.YtfcabofhlgmkjaaDoorFoC
import Derived.Test.YtfcabofhlgmkjaaDoorGvS
set_option linter.unusedVariables false
set_option linter.unusedSimpArgs false
namespace Go.Proofs.YtfcabofhlgmkjaaDoor
open Go.RowKit

namespace Fo
/-- What a time is called, by a format of a kind. -/
def av (s : List UInt8) (off save : Int) (L : List UInt8) : List UInt8 :=
  if (kd s).1 = 1 then Lib.replace s [37, 115] L 1 else if (kd s).1 = 2 then df off else if (kd s).1 = 3 then (if save = 0 then (Lib.cut s [47]).1 else (Lib.cut s [47]).2.1) else s
def aw (s : List UInt8) (off : Int) : Int := if (kd s).2 ≠ 0 then (kd s).2 else if -359999 ≤ off ∧ off ≤ 359999 then 0 else 1
def ab (s : List UInt8) (off save : Int) (L : List UInt8) : List UInt8 × Int := if aw s off = 0 then (av s off save L, 0) else ([], aw s off)
theorem kd_lo (l : List UInt8) : 0 ≤ (kd l).1 ∧ (kd l).1 ≤ 3 := by
  unfold kd
  repeat' split
  all_goals simp
end Fo
theorem cell_keep0 {P : Addr} {v : Value} {w W : World} (hm : w.cell? P = some v) (k : Below w.heap.size w W) : W.cell? P = some v :=
  (k.cell (World.block_lt_of_cell? _ _ hm)).trans hm
theorem extra154 : Builder.Extra Tryd.prog Tryd.lays154_ren := { sizeBuilder := by kernel_rfl, liesBuilder := by kernel_rfl, t5 := Tryd.underlying5, a5 := Tryd.isAgg5, z5 := Tryd.sizeOf5, v5 := Tryd.zeroValue5, infoByte := by kernel_rfl, cellsByte := by kernel_rfl, sizeByte := by kernel_rfl, neB5 := by decide }
theorem replace_any (s L : ByteArray) (w : World) (m : Int) (hs : s.size ≤ 100000) (hL : L.size ≤ 100000) (hm : w.cell? ⟨1, 0, none⟩ = some (.int .i64 m)) :
    Calls Tryd.prog 98 #[.string s, .string ⟨#[37, 115]⟩, .string L, .int .i64 1] w fun e w' => e = .returned (.string ⟨(Lib.replace s.data.toList [37, 115] L.data.toList 1).toArray⟩) ∧ Below w.heap.size w w' :=
  Any.strings_Replace Tryd.lays154 extra154 s ⟨#[37, 115]⟩ L 1 m w (by omega) hm (by decide) (by
    have h := Lib.countB_le ⟨#[37, 115]⟩ (by decide) s.size s (Nat.le_refl _)
    have : Lib.countB s ⟨#[37, 115]⟩ * L.size ≤ 100000 * 100000 := Nat.mul_le_mul (by omega) hL
    omega)
set_option maxHeartbeats 2000000 in
set_option maxRecDepth 20000 in
theorem ab1_no (b : Nat) (s L : ByteArray) (off save : Int) (w : World) (m : Int) (hs : s.size ≤ 100000) (hm : w.cell? ⟨1, 0, none⟩ = some (.int .i64 m)) (c0 : w.cell? ⟨b, 0, none⟩ = some (.string s)) (c1 : w.cell? ⟨b + 1, 0, none⟩ = some (.int .i64 off)) (c2 : w.cell? ⟨b + 2, 0, none⟩ = some (.int .i64 save)) (c3 : w.cell? ⟨b + 3, 0, none⟩ = some (.string L)) (hk : (Fo.kd s.data.toList).2 ≠ 0) :
    Calls Tryd.prog 94 #[.pointer (some ⟨b, 0, none⟩), .pointer (some ⟨b + 1, 0, none⟩), .pointer (some ⟨b + 3, 0, none⟩), .pointer (some ⟨b + 2, 0, none⟩)] w fun e w' => e = .panicked (gvP (Fo.kd s.data.toList).2) ∧ Below w.heap.size w w' := by
  have C := Lib.hid (kind_any s w m hs hm)
  generalize (Fo.kd s.data.toList).1 = k at C
  generalize (Fo.kd s.data.toList).2 = q at C hk ⊢
  clear hm
  go_enter Tryd.func94, Tryd.ntmps94
  go_wp2_with fail
  refine C.out.mono ?_; rintro e w1 ⟨rfl, rfl⟩
  go_wp2_with fail
  refine (muti_no k q _ hk).mono ?_; rintro e w2 ⟨rfl, rfl⟩
  refine (show bodyPost _ _ _ (Exit.panic (gvP q)) _ _ from ?_)
  simp [bodyPost]
  exact Below.refl _ _
set_option maxHeartbeats 2000000 in
set_option maxRecDepth 20000 in
theorem ab1_far (b : Nat) (s L : ByteArray) (off save : Int) (w : World) (m : Int) (hs : s.size ≤ 100000) (hm : w.cell? ⟨1, 0, none⟩ = some (.int .i64 m)) (c0 : w.cell? ⟨b, 0, none⟩ = some (.string s)) (c1 : w.cell? ⟨b + 1, 0, none⟩ = some (.int .i64 off)) (c2 : w.cell? ⟨b + 2, 0, none⟩ = some (.int .i64 save)) (c3 : w.cell? ⟨b + 3, 0, none⟩ = some (.string L)) (hk : (Fo.kd s.data.toList).2 = 0) (ho : ¬ (-359999 ≤ off ∧ off ≤ 359999)) :
    Calls Tryd.prog 94 #[.pointer (some ⟨b, 0, none⟩), .pointer (some ⟨b + 1, 0, none⟩), .pointer (some ⟨b + 3, 0, none⟩), .pointer (some ⟨b + 2, 0, none⟩)] w fun e w' => e = .panicked (gvP 1) ∧ Below w.heap.size w w' := by
  have C := Lib.hid (kind_any s w m hs hm)
  rw [hk] at C
  generalize (Fo.kd s.data.toList).1 = k at C
  clear hm hk
  by_cases h1 : -359999 ≤ off
  · have h2 : decide (off ≤ 359999) = false := decide_eq_false (fun h => ho ⟨h1, h⟩)
    have h2' : ¬ off ≤ 359999 := fun h => ho ⟨h1, h⟩
    clear ho
    go_enter Tryd.func94, Tryd.ntmps94
    go_wp2_with fail
    refine C.out.mono ?_; rintro e w1 ⟨rfl, rfl⟩
    go_wp2_with fail
    refine (muti_yes k _).mono ?_; rintro e w2 ⟨rfl, rfl⟩
    go_wp2_with fail
    try rw [h2]
    refine (need_no 1 _).mono ?_; rintro e w3 ⟨rfl, rfl⟩
    refine (show bodyPost _ _ _ (Exit.panic (gvP 1)) _ _ from ?_)
    simp [bodyPost]
    exact Below.refl _ _
  · have h2 : decide (-359999 ≤ off) = false := decide_eq_false h1
    clear ho
    go_enter Tryd.func94, Tryd.ntmps94
    go_wp2_with fail
    refine C.out.mono ?_; rintro e w1 ⟨rfl, rfl⟩
    go_wp2_with fail
    refine (muti_yes k _).mono ?_; rintro e w2 ⟨rfl, rfl⟩
    go_wp2_with fail
    try rw [h2]
    refine (need_no 1 _).mono ?_; rintro e w3 ⟨rfl, rfl⟩
    refine (show bodyPost _ _ _ (Exit.panic (gvP 1)) _ _ from ?_)
    simp [bodyPost]
    exact Below.refl _ _
set_option maxHeartbeats 2000000 in
set_option maxRecDepth 20000 in
theorem ab1_yes0 (b : Nat) (s L : ByteArray) (off save : Int) (w : World) (m : Int) (hs : s.size ≤ 100000) (hL : L.size ≤ 100000) (hm : w.cell? ⟨1, 0, none⟩ = some (.int .i64 m)) (htab : Lib.TabIs Tryd.prog w "internal/strconv.uint64pow10" .u64 Lib.pow10Tab) (c0 : w.cell? ⟨b, 0, none⟩ = some (.string s)) (c1 : w.cell? ⟨b + 1, 0, none⟩ = some (.int .i64 off)) (c2 : w.cell? ⟨b + 2, 0, none⟩ = some (.int .i64 save)) (c3 : w.cell? ⟨b + 3, 0, none⟩ = some (.string L)) (hk : (Fo.kd s.data.toList).2 = 0) (h1 : -359999 ≤ off) (h2 : off ≤ 359999) (hk1 : (Fo.kd s.data.toList).1 = 0) :
    Calls Tryd.prog 94 #[.pointer (some ⟨b, 0, none⟩), .pointer (some ⟨b + 1, 0, none⟩), .pointer (some ⟨b + 3, 0, none⟩), .pointer (some ⟨b + 2, 0, none⟩)] w fun e w' => e = .returned (.string ⟨(Fo.av s.data.toList off save L.data.toList).toArray⟩) ∧ Below w.heap.size w w' := by
  have C := Lib.hid (kind_any s w m hs hm)
  rw [hk, hk1] at C
  rw [show (⟨(Fo.av s.data.toList off save L.data.toList).toArray⟩ : ByteArray) = s by rw [show Fo.av s.data.toList off save L.data.toList = s.data.toList by unfold Fo.av; rw [hk1]; rfl, bz_id]]
  have h3 : decide (-359999 ≤ off) = true := decide_eq_true h1
  have h4 : decide (off ≤ 359999) = true := decide_eq_true h2
  clear hm hk hk1 htab hs hL
  go_enter Tryd.func94, Tryd.ntmps94
  go_wp2_with fail
  refine C.out.mono ?_; rintro e w1 ⟨rfl, rfl⟩
  go_wp2_with fail
  refine (muti_yes _ _).mono ?_; rintro e w2 ⟨rfl, rfl⟩
  go_wp2_with fail
  try rw [h4]
  refine (need_yes 1 _).mono ?_; rintro e w3 ⟨rfl, rfl⟩
  go_wp2_with fail
  go_ret
  exact ⟨rfl, Below.refl _ _⟩
set_option maxHeartbeats 2000000 in
set_option maxRecDepth 20000 in
theorem ab1_yes1 (b : Nat) (s L : ByteArray) (off save : Int) (w : World) (m : Int) (hs : s.size ≤ 100000) (hL : L.size ≤ 100000) (hm : w.cell? ⟨1, 0, none⟩ = some (.int .i64 m)) (htab : Lib.TabIs Tryd.prog w "internal/strconv.uint64pow10" .u64 Lib.pow10Tab) (c0 : w.cell? ⟨b, 0, none⟩ = some (.string s)) (c1 : w.cell? ⟨b + 1, 0, none⟩ = some (.int .i64 off)) (c2 : w.cell? ⟨b + 2, 0, none⟩ = some (.int .i64 save)) (c3 : w.cell? ⟨b + 3, 0, none⟩ = some (.string L)) (hk : (Fo.kd s.data.toList).2 = 0) (h1 : -359999 ≤ off) (h2 : off ≤ 359999) (hk1 : (Fo.kd s.data.toList).1 = 1) :
    Calls Tryd.prog 94 #[.pointer (some ⟨b, 0, none⟩), .pointer (some ⟨b + 1, 0, none⟩), .pointer (some ⟨b + 3, 0, none⟩), .pointer (some ⟨b + 2, 0, none⟩)] w fun e w' => e = .returned (.string ⟨(Fo.av s.data.toList off save L.data.toList).toArray⟩) ∧ Below w.heap.size w w' := by
  have C := Lib.hid (kind_any s w m hs hm)
  rw [hk, hk1] at C
  have D := Lib.hid (replace_any s L w m hs hL hm)
  rw [show Fo.av s.data.toList off save L.data.toList = Lib.replace s.data.toList [37, 115] L.data.toList 1 by unfold Fo.av; rw [hk1]; rfl]
  generalize (⟨(Lib.replace s.data.toList [37, 115] L.data.toList 1).toArray⟩ : ByteArray) = R at D ⊢
  have h3 : decide (-359999 ≤ off) = true := decide_eq_true h1
  have h4 : decide (off ≤ 359999) = true := decide_eq_true h2
  clear hm hk hk1 htab hs hL
  go_enter Tryd.func94, Tryd.ntmps94
  go_wp2_with fail
  refine C.out.mono ?_; rintro e w1 ⟨rfl, rfl⟩
  go_wp2_with fail
  refine (muti_yes _ _).mono ?_; rintro e w2 ⟨rfl, rfl⟩
  go_wp2_with fail
  try rw [h4]
  refine (need_yes 1 _).mono ?_; rintro e w3 ⟨rfl, rfl⟩
  go_wp2_with fail
  refine D.out.mono ?_; rintro e w4 ⟨rfl, b4⟩
  go_wp2_with fail
  go_ret
  exact ⟨rfl, b4⟩
set_option maxHeartbeats 2000000 in
set_option maxRecDepth 20000 in
theorem ab1_yes2 (b : Nat) (s L : ByteArray) (off save : Int) (w : World) (m : Int) (hs : s.size ≤ 100000) (hL : L.size ≤ 100000) (hm : w.cell? ⟨1, 0, none⟩ = some (.int .i64 m)) (htab : Lib.TabIs Tryd.prog w "internal/strconv.uint64pow10" .u64 Lib.pow10Tab) (c0 : w.cell? ⟨b, 0, none⟩ = some (.string s)) (c1 : w.cell? ⟨b + 1, 0, none⟩ = some (.int .i64 off)) (c2 : w.cell? ⟨b + 2, 0, none⟩ = some (.int .i64 save)) (c3 : w.cell? ⟨b + 3, 0, none⟩ = some (.string L)) (hk : (Fo.kd s.data.toList).2 = 0) (h1 : -359999 ≤ off) (h2 : off ≤ 359999) (hk1 : (Fo.kd s.data.toList).1 = 2) :
    Calls Tryd.prog 94 #[.pointer (some ⟨b, 0, none⟩), .pointer (some ⟨b + 1, 0, none⟩), .pointer (some ⟨b + 3, 0, none⟩), .pointer (some ⟨b + 2, 0, none⟩)] w fun e w' => e = .returned (.string ⟨(Fo.av s.data.toList off save L.data.toList).toArray⟩) ∧ Below w.heap.size w w' := by
  have C := Lib.hid (kind_any s w m hs hm)
  rw [hk, hk1] at C
  have D := Lib.hid (diff_any off w h1 h2 htab)
  rw [show Fo.av s.data.toList off save L.data.toList = Fo.df off by unfold Fo.av; rw [hk1]; rfl]
  generalize (⟨(Fo.df off).toArray⟩ : ByteArray) = R at D ⊢
  have h3 : decide (-359999 ≤ off) = true := decide_eq_true h1
  have h4 : decide (off ≤ 359999) = true := decide_eq_true h2
  clear hm hk hk1 htab hs hL
  go_enter Tryd.func94, Tryd.ntmps94
  go_wp2_with fail
  refine C.out.mono ?_; rintro e w1 ⟨rfl, rfl⟩
  go_wp2_with fail
  refine (muti_yes _ _).mono ?_; rintro e w2 ⟨rfl, rfl⟩
  go_wp2_with fail
  try rw [h4]
  refine (need_yes 1 _).mono ?_; rintro e w3 ⟨rfl, rfl⟩
  go_wp2_with fail
  refine D.out.mono ?_; rintro e w4 ⟨rfl, b4⟩
  go_wp2_with fail
  go_ret
  exact ⟨rfl, b4⟩
set_option maxHeartbeats 2000000 in
set_option maxRecDepth 20000 in
theorem ab1_yes3 (b : Nat) (s L : ByteArray) (off save : Int) (w : World) (m : Int) (hs : s.size ≤ 100000) (hL : L.size ≤ 100000) (hm : w.cell? ⟨1, 0, none⟩ = some (.int .i64 m)) (htab : Lib.TabIs Tryd.prog w "internal/strconv.uint64pow10" .u64 Lib.pow10Tab) (c0 : w.cell? ⟨b, 0, none⟩ = some (.string s)) (c1 : w.cell? ⟨b + 1, 0, none⟩ = some (.int .i64 off)) (c2 : w.cell? ⟨b + 2, 0, none⟩ = some (.int .i64 save)) (c3 : w.cell? ⟨b + 3, 0, none⟩ = some (.string L)) (hk : (Fo.kd s.data.toList).2 = 0) (h1 : -359999 ≤ off) (h2 : off ≤ 359999) (hk1 : (Fo.kd s.data.toList).1 = 3) :
    Calls Tryd.prog 94 #[.pointer (some ⟨b, 0, none⟩), .pointer (some ⟨b + 1, 0, none⟩), .pointer (some ⟨b + 3, 0, none⟩), .pointer (some ⟨b + 2, 0, none⟩)] w fun e w' => e = .returned (.string ⟨(Fo.av s.data.toList off save L.data.toList).toArray⟩) ∧ Below w.heap.size w w' := by
  have C := Lib.hid (kind_any s w m hs hm)
  rw [hk, hk1] at C
  have D := Lib.hid (oneof_any s save w m hs hm)
  rw [show Fo.av s.data.toList off save L.data.toList = (if save = 0 then (Lib.cut s.data.toList [47]).1 else (Lib.cut s.data.toList [47]).2.1) by unfold Fo.av; rw [hk1]; rfl]
  generalize (⟨(if save = 0 then (Lib.cut s.data.toList [47]).1 else (Lib.cut s.data.toList [47]).2.1).toArray⟩ : ByteArray) = R at D ⊢
  have h3 : decide (-359999 ≤ off) = true := decide_eq_true h1
  have h4 : decide (off ≤ 359999) = true := decide_eq_true h2
  clear hm hk hk1 htab hs hL
  go_enter Tryd.func94, Tryd.ntmps94
  go_wp2_with fail
  refine C.out.mono ?_; rintro e w1 ⟨rfl, rfl⟩
  go_wp2_with fail
  refine (muti_yes _ _).mono ?_; rintro e w2 ⟨rfl, rfl⟩
  go_wp2_with fail
  try rw [h4]
  refine (need_yes 1 _).mono ?_; rintro e w3 ⟨rfl, rfl⟩
  go_wp2_with fail
  refine D.out.mono ?_; rintro e w4 ⟨rfl, b4⟩
  go_wp2_with fail
  go_ret
  exact ⟨rfl, b4⟩
set_option maxHeartbeats 2000000 in
set_option maxRecDepth 20000 in
theorem abbr_any (s L : ByteArray) (off save : Int) (w : World) (m : Int) (hs : s.size ≤ 100000) (hL : L.size ≤ 100000) (hm : w.cell? ⟨1, 0, none⟩ = some (.int .i64 m)) (htab : Lib.TabIs Tryd.prog w "internal/strconv.uint64pow10" .u64 Lib.pow10Tab) :
    Calls Tryd.prog 50 #[.string s, .int .i64 off, .int .i64 save, .string L] w fun e w' => e = .returned (.tuple #[.string ⟨(Fo.ab s.data.toList off save L.data.toList).1.toArray⟩, .int .i64 (Fo.ab s.data.toList off save L.data.toList).2]) ∧ Below w.heap.size w w' := by
  have hmf : ∀ (fn : Fn) (first cap : Array Value) (w : World), (Instr.makeFunc fn first cap).run Tryd.prog w = .ok (.func fn first cap) w := fun _ _ _ _ => rfl
  obtain ⟨R, hR⟩ : ∃ R, R = Fo.ab s.data.toList off save L.data.toList := ⟨_, rfl⟩
  rw [← hR]
  obtain ⟨R1, R2⟩ := R
  show Calls Tryd.prog 50 #[.string s, .int .i64 off, .int .i64 save, .string L] w fun e w' => e = .returned (.tuple #[.string ⟨R1.toArray⟩, .int .i64 R2]) ∧ Below w.heap.size w w'
  unfold Fo.ab at hR
  have K : ∀ W, Below w.heap.size w W → (c0 : W.cell? ⟨w.heap.size, 0, none⟩ = some (.string s)) → (c1 : W.cell? ⟨w.heap.size + 1, 0, none⟩ = some (.int .i64 off)) → (c2 : W.cell? ⟨w.heap.size + 2, 0, none⟩ = some (.int .i64 save)) → (c3 : W.cell? ⟨w.heap.size + 3, 0, none⟩ = some (.string L)) →
      Calls Tryd.prog 93 #[.func (Fn.func 94) #[] #[.pointer (some ⟨w.heap.size, 0, none⟩), .pointer (some ⟨w.heap.size + 1, 0, none⟩), .pointer (some ⟨w.heap.size + 3, 0, none⟩), .pointer (some ⟨w.heap.size + 2, 0, none⟩)]] W fun e w' => e = .returned (.tuple #[.string ⟨R1.toArray⟩, .int .i64 R2]) ∧ Below W.heap.size W w' := by
    intro W hb c0 c1 c2 c3
    have hg : ∀ qs W, Sem.run Tryd.prog (callFunc 94 qs) W = .ok (.enter 94 qs) W := fun qs W => enters_of Tryd.func94 (by kernel_rfl) rfl qs W
    have hmW := cell_keep0 hm hb
    have hTW := var_keep hb htab
    by_cases hk : (Fo.kd s.data.toList).2 = 0
    · by_cases ho : -359999 ≤ off ∧ off ≤ 359999
      · have haw : Fo.aw s.data.toList off = 0 := by unfold Fo.aw; rw [if_neg (fun h => h hk), if_pos ho]
        rw [haw, if_pos rfl] at hR
        obtain ⟨rfl, rfl⟩ : R1 = Fo.av s.data.toList off save L.data.toList ∧ R2 = 0 := ⟨congrArg Prod.fst hR, congrArg Prod.snd hR⟩
        refine scaught_yes _ _ (hg _) _ W (fun W' hb' => ?_)
        have q0 := cell_keep0 c0 hb'; have q1 := cell_keep0 c1 hb'; have q2 := cell_keep0 c2 hb'; have q3 := cell_keep0 c3 hb'
        have hm2 := cell_keep0 hmW hb'; have hT2 := var_keep hb' hTW
        obtain ⟨l0, l1⟩ := Fo.kd_lo s.data.toList
        rcases (show (Fo.kd s.data.toList).1 = 0 ∨ (Fo.kd s.data.toList).1 = 1 ∨ (Fo.kd s.data.toList).1 = 2 ∨ (Fo.kd s.data.toList).1 = 3 by omega) with h | h | h | h
        · exact ab1_yes0 _ s L off save W' m hs hL hm2 hT2 q0 q1 q2 q3 hk ho.1 ho.2 h
        · exact ab1_yes1 _ s L off save W' m hs hL hm2 hT2 q0 q1 q2 q3 hk ho.1 ho.2 h
        · exact ab1_yes2 _ s L off save W' m hs hL hm2 hT2 q0 q1 q2 q3 hk ho.1 ho.2 h
        · exact ab1_yes3 _ s L off save W' m hs hL hm2 hT2 q0 q1 q2 q3 hk ho.1 ho.2 h
      · have haw : Fo.aw s.data.toList off = 1 := by unfold Fo.aw; rw [if_neg (fun h => h hk), if_neg ho]
        rw [haw, if_neg (by decide)] at hR
        obtain ⟨rfl, rfl⟩ : R1 = [] ∧ R2 = 1 := ⟨congrArg Prod.fst hR, congrArg Prod.snd hR⟩
        refine scaught_no _ _ (hg _) 0 1 W (fun W' hb' => ?_)
        exact ab1_far _ s L off save W' m hs (cell_keep0 hmW hb') (cell_keep0 c0 hb') (cell_keep0 c1 hb') (cell_keep0 c2 hb') (cell_keep0 c3 hb') hk ho
    · have haw : Fo.aw s.data.toList off = (Fo.kd s.data.toList).2 := by unfold Fo.aw; rw [if_pos hk]
      rw [haw, if_neg hk] at hR
      obtain ⟨rfl, rfl⟩ : R1 = [] ∧ R2 = (Fo.kd s.data.toList).2 := ⟨congrArg Prod.fst hR, congrArg Prod.snd hR⟩
      refine scaught_no _ _ (hg _) 0 _ W (fun W' hb' => ?_)
      exact ab1_no _ s L off save W' m hs (cell_keep0 hmW hb') (cell_keep0 c0 hb') (cell_keep0 c1 hb') (cell_keep0 c2 hb') (cell_keep0 c3 hb') hk
  have HK := Lib.hid K
  clear K hR hm htab hs hL
  go_enter Tryd.func50, Tryd.ntmps50
  go_wp2_with fail
  refine (HK.out _ (by repeat (first | exact Below.refl _ _ | refine Below.alloc ?_ (by first | (simp; done) | (simp; omega) | omega) _)) (by simp [go_sem]) (by simp [go_sem]) (by simp [go_sem]) (by simp [go_sem])).mono ?_; rintro e w1 ⟨rfl, b1⟩
  have B1 := Lib.hid (show Below w.heap.size w w1 from below_step (by repeat (first | exact Below.refl _ _ | refine Below.alloc ?_ (by first | (simp; done) | (simp; omega) | omega) _)) b1)
  clear b1
  go_wp2_with fail
  go_ret2
  exact ⟨rfl, B1.out⟩
end Go.Proofs.YtfcabofhlgmkjaaDoor


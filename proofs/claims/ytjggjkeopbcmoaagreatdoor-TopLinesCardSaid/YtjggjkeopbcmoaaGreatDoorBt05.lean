/- Joined: AmC, ClA, IxA, IxB. -/
import Derived.Test.YtjggjkeopbcmoaaGreatDoorBt04
import Derived.Test.YtjggjkeopbcmoaaGreatDoorLaid3
import Derived.Shelf.Small.Strs
import Derived.Lib.OthersKept
import Derived.Laws.RangeAny
import Derived.Lib.IndexAny
import Derived.Test.YtjggjkeopbcmoaaGreatDoorLaid4
import Derived.Shelf.Strings.IndexAnyAll
set_option linter.unusedVariables false
set_option linter.unusedSimpArgs false
namespace Go.Proofs.YtjggjkeopbcmoaaGreatDoor
open Go.RowKit Go.Sort
namespace Am
def un (s : ByteArray) : ByteArray := ⟨(Lib.trimPrefix s.data.toList [45]).toArray⟩
def neg (s : ByteArray) : Bool := Lib.hasPrefix s.data.toList [45]
def sum (s : ByteArray) : Int := vK (un s) 0 * 3600 + vK (un s) 1 * 60 + vK (un s) 2
def inR (s : ByteArray) : Bool := decide (vK (un s) 1 < 60) && (decide (vK (un s) 2 < 60) && decide (sum s ≤ 604799))
def rd (s : ByteArray) : Int × Int :=
 if s.toList == [45] then (0, 0) else if okK (un s) = false then (0, 2) else if inR s = false then (0, 1) else ((if neg s then - sum s else sum s), 0)
theorem un_size (s : ByteArray) : (un s).size ≤ s.size := by
 unfold un
 show (Lib.trimPrefix s.data.toList [45]).toArray.size ≤ s.size
 rw [List.size_toArray, ← ab_len s]
 exact ab_trim _ _
theorem vK_bd {s : ByteArray} (h : okK s = true) (k : Nat) (hk : k < 3) : 0 ≤ vK s k ∧ vK s k ≤ 99999 := by
 have hi : isK s k = true := by
  unfold okK at h
  simp only [Bool.and_eq_true] at h
  obtain rfl | rfl | rfl : k = 0 ∨ k = 1 ∨ k = 2 := by omega
  ·
   exact h.1
  ·
   exact h.2.1
  ·
   exact h.2.2
 by_cases hl : k < (pcs s).length
 ·
  rw [vK_at hl]
  rw [isK_at hl] at hi
  obtain ⟨hd, h5⟩ := isP_size hi
  have := ab_val_bd hd h5
  omega
 ·
  rw [vK_no hl]; omega
end Am
set_option maxHeartbeats 4000000 in
set_option maxRecDepth 100000 in
theorem aread_any (s : ByteArray) (w : World) (m : Int) (hs : s.size < 4294967281) (hm : w.cell? ⟨3, 0, none⟩ = some (.int .i64 m)) :
  Calls Tryz.prog 74 #[.string s] w fun e w' => e = .returned (.tuple #[.int .i64 (Am.rd s).1, .int .i64 (Am.rd s).2]) ∧ Below w.heap.size w w' := by
 have C : Hid (∀ W, Calls Tryz.prog 115 #[.string s, .string ⟨#[45]⟩] W fun e w' => e = .returned (.tuple #[.string (Am.un s), .bool (Am.neg s)]) ∧ W = w') := fun W => cutPrefix s ⟨#[45]⟩ W
 have R := Lib.hid (fun W h => rparts_any (Am.un s) W m (Nat.lt_of_le_of_lt (Am.un_size s) hs) h)
 have HM := Lib.hid hm
 clear hm hs
 obtain ⟨ans, hans⟩ : ∃ ans, ans = Am.rd s := ⟨_, rfl⟩
 rw [← hans]
 unfold Am.rd Am.inR at hans
 unfold Am.sum at hans
 by_cases h0 : (s.toList == [45]) = true
 ·
  have e := Lib.hid (show ans = (0, 0) by rw [hans, if_pos h0])
  clear hans
  go_enter Tryz.func74, Tryz.ntmps74
  go_wp2_with fail
  go_ret2
  exact ⟨by rw [e.out]; rfl, Below.refl _ _⟩
 ·
  rw [if_neg h0] at hans
  have g0 : (s.toList == [45]) = false := by simpa using h0
  clear h0
  generalize Am.un s = U at *
  cases hk : Am.okK U
  ·
   have e := Lib.hid (show ans = (0, 2) by rw [hans, hk, if_pos rfl])
   unfold Am.va at R
   rw [hk] at R
   clear hans
   go_enter Tryz.func74, Tryz.ntmps74
   go_wp2_with fail
   refine (C.out _).mono ?_; rintro e w1 ⟨rfl, rfl⟩
   go_wp2_with fail
   refine (R.out _ HM.out).mono ?_; rintro e w1 ⟨rfl, b1⟩
   have B1 := Lib.hid b1; clear b1
   go_wp2_with fail
   go_ret2
   exact ⟨by rw [e.out]; rfl, by have hz := B1.out.size; repeat (first | exact B1.out | refine Below.setCell ?_ (by first | omega | (simp; omega)) _ | refine Below.alloc ?_ (by first | omega | (simp; omega)) _)⟩
  ·
   rw [hk, if_neg (by decide)] at hans
   obtain ⟨a0, a1⟩ := Am.vK_bd hk 0 (by omega)
   obtain ⟨b0, b1⟩ := Am.vK_bd hk 1 (by omega)
   obtain ⟨c0, c1⟩ := Am.vK_bd hk 2 (by omega)
   unfold Am.va at R
   rw [hk] at R
   simp only [if_true] at R
   clear hk
   generalize Am.vK U 0 = x at *
   generalize Am.vK U 1 = y at *
   generalize Am.vK U 2 = z at *
   generalize Am.neg s = ng at *
   by_cases h1 : 60 ≤ y
   ·
    have e := Lib.hid (show ans = (0, 1) by rw [hans, if_pos (by rw [decide_eq_false (show ¬ y < 60 by omega)]; rfl)])
    clear hans
    go_enter Tryz.func74, Tryz.ntmps74
    go_wp2_with fail
    refine (C.out _).mono ?_; rintro e w1 ⟨rfl, rfl⟩
    go_wp2_with fail
    refine (R.out _ HM.out).mono ?_; rintro e w1 ⟨rfl, d1⟩
    have B1 := Lib.hid d1; clear d1
    go_wp2_with fail
    go_ret2
    exact ⟨by rw [e.out]; rfl, by have hz := B1.out.size; repeat (first | exact B1.out | refine Below.setCell ?_ (by first | omega | (simp; omega)) _ | refine Below.alloc ?_ (by first | omega | (simp; omega)) _)⟩
   ·
    by_cases h2 : 60 ≤ z
    ·
     have e := Lib.hid (show ans = (0, 1) by rw [hans, if_pos (by rw [decide_eq_false (show ¬ z < 60 by omega)]; simp)])
     clear hans
     go_enter Tryz.func74, Tryz.ntmps74
     go_wp2_with fail
     refine (C.out _).mono ?_; rintro e w1 ⟨rfl, rfl⟩
     go_wp2_with fail
     refine (R.out _ HM.out).mono ?_; rintro e w1 ⟨rfl, d1⟩
     have B1 := Lib.hid d1; clear d1
     go_wp2_with fail
     go_ret2
     exact ⟨by rw [e.out]; rfl, by have hz := B1.out.size; repeat (first | exact B1.out | refine Below.setCell ?_ (by first | omega | (simp; omega)) _ | refine Below.alloc ?_ (by first | omega | (simp; omega)) _)⟩
    ·
     by_cases h3 : 604799 < x * 3600 + y * 60 + z
     ·
      have e := Lib.hid (show ans = (0, 1) by rw [hans, if_pos (by rw [decide_eq_false (show ¬ x * 3600 + y * 60 + z ≤ 604799 by omega)]; simp)])
      clear hans
      go_enter Tryz.func74, Tryz.ntmps74
      go_wp2_with fail
      refine (C.out _).mono ?_; rintro e w1 ⟨rfl, rfl⟩
      go_wp2_with fail
      refine (R.out _ HM.out).mono ?_; rintro e w1 ⟨rfl, d1⟩
      have B1 := Lib.hid d1; clear d1
      go_wp2_with fail
      go_ret2
      exact ⟨by rw [e.out]; rfl, by have hz := B1.out.size; repeat (first | exact B1.out | refine Below.setCell ?_ (by first | omega | (simp; omega)) _ | refine Below.alloc ?_ (by first | omega | (simp; omega)) _)⟩
     ·
      rw [if_neg (by rw [decide_eq_true (show y < 60 by omega), decide_eq_true (show z < 60 by omega), decide_eq_true (show x * 3600 + y * 60 + z ≤ 604799 by omega)]; simp)] at hans
      cases ng
      ·
       have e := Lib.hid (show ans = (x * 3600 + y * 60 + z, 0) by rw [hans]; rfl)
       clear hans
       go_enter Tryz.func74, Tryz.ntmps74
       go_wp2_with fail
       refine (C.out _).mono ?_; rintro e w1 ⟨rfl, rfl⟩
       go_wp2_with fail
       refine (R.out _ HM.out).mono ?_; rintro e w1 ⟨rfl, d1⟩
       have B1 := Lib.hid d1; clear d1
       go_wp2_with fail
       go_ret2
       exact ⟨by rw [e.out]; rfl, by have hz := B1.out.size; repeat (first | exact B1.out | refine Below.setCell ?_ (by first | omega | (simp; omega)) _ | refine Below.alloc ?_ (by first | omega | (simp; omega)) _)⟩
      ·
       have e := Lib.hid (show ans = (-(x * 3600 + y * 60 + z), 0) by rw [hans]; rfl)
       clear hans
       go_enter Tryz.func74, Tryz.ntmps74
       go_wp2_with fail
       refine (C.out _).mono ?_; rintro e w1 ⟨rfl, rfl⟩
       go_wp2_with fail
       refine (R.out _ HM.out).mono ?_; rintro e w1 ⟨rfl, d1⟩
       have B1 := Lib.hid d1; clear d1
       go_wp2_with fail
       go_ret2
       exact ⟨by rw [e.out]; rfl, by have hz := B1.out.size; repeat (first | exact B1.out | refine Below.setCell ?_ (by first | omega | (simp; omega)) _ | refine Below.alloc ?_ (by first | omega | (simp; omega)) _)⟩
namespace Cl
structure Tab (w : World) : Prop where
 c0 : w.cell? ⟨1, 0, none⟩ = some (.string ⟨#[119, 87]⟩)
 c1 : w.cell? ⟨1, 1, none⟩ = some (.string ⟨#[115, 83]⟩)
 c2 : w.cell? ⟨1, 2, none⟩ = some (.string ⟨#[117, 85, 103, 71, 122, 90]⟩)
theorem Tab.on {w w' : World} (h : Tab w) (k : Below w.heap.size w w') : Tab w' := ⟨(k.cell (World.block_lt_of_cell? _ _ h.c0)).trans h.c0, (k.cell (World.block_lt_of_cell? _ _ h.c1)).trans h.c1, (k.cell (World.block_lt_of_cell? _ _ h.c2)).trans h.c2⟩
def base (c : UInt8) : Nat := if c = 119 ∨ c = 87 then 0 else if c = 115 ∨ c = 83 then 1 else if c = 117 ∨ c = 85 ∨ c = 103 ∨ c = 71 ∨ c = 122 ∨ c = 90 then 2 else 3
theorem base_tab : ∀ n : Fin 256, ((decide (0 ≤ Lib.indexByte [119, 87] (UInt8.ofNat n.val)) == decide (base (UInt8.ofNat n.val) = 0)) && ((decide (0 ≤ Lib.indexByte [115, 83] (UInt8.ofNat n.val)) == decide (base (UInt8.ofNat n.val) = 1)) && (decide (0 ≤ Lib.indexByte [117, 85, 103, 71, 122, 90] (UInt8.ofNat n.val)) == decide (base (UInt8.ofNat n.val) = 2)))) = true := by decide +kernel
theorem base_at (c : UInt8) : (0 ≤ Lib.indexByte [119, 87] c ↔ base c = 0) ∧ (0 ≤ Lib.indexByte [115, 83] c ↔ base c = 1) ∧ (0 ≤ Lib.indexByte [117, 85, 103, 71, 122, 90] c ↔ base c = 2) := by
 have h := base_tab ⟨c.toNat, c.toNat_lt⟩
 have e : UInt8.ofNat c.toNat = c := UInt8.ofNat_toNat
 simp only [e, Bool.and_eq_true, beq_iff_eq, decide_eq_decide] at h
 exact h
def cutL (s : ByteArray) : ByteArray × Int := if h : 0 < s.size then (if base s[s.size - 1] = 3 then (s, 0) else (s.extract 0 (s.size - 1), (base s[s.size - 1] : Int))) else (s, 0)
end Cl
theorem ixb (s : ByteArray) (c : UInt8) (w : World) : Calls Tryz.prog 85 #[.string s, .int .u8 (c.toNat : Int)] w fun e w' => e = .returned (.int .i64 (Lib.indexByte s.data.toList c)) ∧ w = w' :=
 (Any.strings_IndexByte Tryz.lays137 s (c.toNat : Int) w).mono fun _ _ ⟨h, e⟩ => ⟨by rw [h]; simp, e.symm⟩
end Go.Proofs.YtjggjkeopbcmoaaGreatDoor
set_option linter.unusedVariables false
set_option linter.unusedSimpArgs false
namespace Go.Proofs.YtjggjkeopbcmoaaGreatDoor
open Go.RowKit
theorem vrune_yes (r : Int) (w : World) (h : (0 ≤ r ∧ r < 55296) ∨ (57343 < r ∧ r ≤ 1114111)) : Calls Tryz.prog 129 #[.int .i32 r] w fun e w' => e = .returned (.bool true) ∧ w = w' := by
 by_cases h1 : 0 ≤ r
 ·
  by_cases h2 : r < 55296
  ·
   clear h
   go_enter Tryz.func129, Tryz.ntmps129
   go_wp2_with fail
   go_ret
   exact ⟨rfl, rfl⟩
  ·
   have h3 : 57343 < r := by omega
   have h4 : r ≤ 1114111 := by omega
   clear h
   go_enter Tryz.func129, Tryz.ntmps129
   go_wp2_with fail
   go_ret
   exact ⟨rfl, rfl⟩
 ·
  omega
theorem vrune_no (r : Int) (w : World) (h0 : 0 ≤ r) (h1 : 55296 ≤ r) (h : r ≤ 57343 ∨ 1114111 < r) : Calls Tryz.prog 129 #[.int .i32 r] w fun e w' => e = .returned (.bool false) ∧ w = w' := by
 have h2 : ¬ r < 55296 := by omega
 rcases h with h3 | h3
 ·
  go_enter Tryz.func129, Tryz.ntmps129
  go_wp2_with fail
  go_ret
  exact ⟨rfl, rfl⟩
 ·
  have h4 : 57343 < r := by omega
  go_enter Tryz.func129, Tryz.ntmps129
  go_wp2_with fail
  go_ret
  exact ⟨rfl, rfl⟩
namespace Ix
theorem enc_cases {r : Int} (h : 128 ≤ r) : (∃ a c, Utf8.encode r = ⟨#[a, UInt8.ofNat (128 + c % 64)]⟩) ∨ (∃ a b c, Utf8.encode r = ⟨#[a, b, UInt8.ofNat (128 + c % 64)]⟩) ∨ (∃ a b d c, Utf8.encode r = ⟨#[a, b, d, UInt8.ofNat (128 + c % 64)]⟩) := by
 unfold Utf8.encode
 simp only
 by_cases hv : Utf8.valid r = true
 ·
  rw [if_pos hv, if_neg (show ¬ r.toNat < 128 by omega)]
  split
  ·
   exact .inl ⟨_, _, rfl⟩
  ·
   split
   ·
    exact .inr (.inl ⟨_, _, _, rfl⟩)
   ·
    exact .inr (.inr ⟨_, _, _, _, rfl⟩)
 ·
  rw [if_neg hv]
  exact .inr (.inl ⟨239, 191, 61, by decide⟩)
theorem last_hi (c : Nat) : 128 ≤ (UInt8.ofNat (128 + c % 64)).toNat := by rw [UInt8.toNat_ofNat']; omega
theorem enc_hi {r : Int} (h : 128 ≤ r) : ∃ (k : Nat) (hk : k < (Utf8.encode r).size), (k = 1 ∨ k = 2 ∨ k = 3) ∧ (Utf8.encode r).size = k + 1 ∧ 128 ≤ ((Utf8.encode r)[k]).toNat := by
 rcases enc_cases h with ⟨a, c, e⟩ | ⟨a, b, c, e⟩ | ⟨a, b, d, c, e⟩
 ·
  rw [e]; exact ⟨1, by simp [ByteArray.size], .inl rfl, rfl, last_hi c⟩
 ·
  rw [e]; exact ⟨2, by simp [ByteArray.size], .inr (.inl rfl), rfl, last_hi c⟩
 ·
  rw [e]; exact ⟨3, by simp [ByteArray.size], .inr (.inr rfl), rfl, last_hi c⟩
theorem no_byte {l : List UInt8} {v : UInt8} (h : ∀ x ∈ l, x.toNat < 128) (hv : 128 ≤ v.toNat) : Lib.indexByte l v < 0 := by
 have h1 := Lib.contains_iff_indexByte l v
 have h2 : l.contains v = false := by
  rw [Bool.eq_false_iff]
  intro hc
  have := h v (by simpa using hc)
  omega
 rw [h2] at h1
 have := of_decide_eq_false h1.symm
 omega
theorem ext_in {s : ByteArray} {a b : Nat} {x : UInt8} (h : x ∈ (s.extract a b).data.toList) : x ∈ s.data.toList := by
 rw [ByteArray.data_extract, Array.toList_extract] at h
 exact List.mem_of_mem_drop (List.mem_of_mem_take h)
end Ix
theorem rx_ix (a : ByteArray) (k : Nat) (h : k < a.size) (w : World) : Sem.run Tryz.prog (Instr.index 9 (.string a) (.int .i64 (k : Int))) w = .ok (.int .u8 a[k].toNat) w := by
 rw [run_index_string w _ _ _ _ Tryz.underlying9, dif_pos ⟨by omega, by omega⟩]
 simp
theorem rx_cut (s : ByteArray) (a : Nat) (ha : a ≤ s.size) (w : World) : Sem.run Tryz.prog (Instr.slice 9 (.string s) (some (.int .i64 (a : Int))) none none) w = .ok (.string (s.extract a s.size)) w := by
 rw [run_slice_string_l w 9 s Tryz.underlying9 .i64 _ (by omega) (by omega)]
 simp
theorem rx_conv (r : Int) (W : World) : Sem.run Tryz.prog (convert 21 9 (.int .i32 r)) W = .ok (.string (Utf8.encode r)) W := by kernel_rfl
set_option maxHeartbeats 2000000 in
set_option maxRecDepth 100000 in
theorem irune_d1 (s E T : ByteArray) (r a v j : Int) (w : World) (r0 : 128 ≤ r) (r1 : r ≤ 1114111) (rv : r < 55296 ∨ 57343 < r) (rf : (r == 65533) = false) (hE : (E.size : Int) = 2) (hs : 1 < (s.size : Int))
  (CV : ∀ W, Sem.run Tryz.prog (convert 21 9 (.int .i32 r)) W = .ok (.string E) W)
  (I1 : ∀ W, Sem.run Tryz.prog (Instr.index 9 (.string s) (.int .i64 1)) W = .ok (.int .u8 a) W) (I2 : ∀ W, Sem.run Tryz.prog (Instr.index 9 (.string E) (.int .i64 1)) W = .ok (.int .u8 v) W)
  (hne : (a != v) = true) (SL : ∀ W, Sem.run Tryz.prog (Instr.slice 9 (.string s) (some (.int .i64 2)) none none) W = .ok (.string T) W)
  (CB : Hid (∀ W, Calls Tryz.prog 85 #[.string T, .int .u8 v] W fun e w' => e = .returned (.int .i64 j) ∧ W = w')) (hj : j < 0) :
  Calls Tryz.prog 93 #[.string s, .int .i32 r] w fun e w' => e = .returned (.int .i64 (-1)) ∧ Below w.heap.size w w' := by
 have VR := Lib.hid (fun W => vrune_yes r W (by omega))
 have r128 : ¬ r < 128 := by omega
 clear rv r1
 go_enter Tryz.func93, Tryz.ntmps93
 go_wp2_with fail
 refine (VR.out _).mono ?_; rintro e w1 ⟨rfl, rfl⟩
 go_wp2_with fail
 go_step3
 go_wp2_with fail
 refine wp_loop_rounds 1 ?_
 rw [rounds_succ]
 go_wp2_with fail
 try go_step3
 go_wp2_with fail
 go_quiet (fail)
 go_wp2_with fail
 go_quiet ((go_at_call 85; first | exact q_same (CB.out _) | exact q_same2 (CB.out _)))
 go_wp2_with fail
 simp only [Exit.noGoto_ret, Exit.inBlock, Exit.then]
 go_ret
 exact ⟨rfl, by repeat (first | exact Below.refl _ _ | refine below_drewN ?_ _ | refine Below.drew ?_)⟩
set_option maxHeartbeats 2000000 in
set_option maxRecDepth 100000 in
theorem irune_s1 (s E : ByteArray) (r : Int) (w : World) (r0 : 128 ≤ r) (r1 : r ≤ 1114111) (rv : r < 55296 ∨ 57343 < r) (rf : (r == 65533) = false) (hE : (E.size : Int) = 2) (hs : ¬ 1 < (s.size : Int))
  (CV : ∀ W, Sem.run Tryz.prog (convert 21 9 (.int .i32 r)) W = .ok (.string E) W) :
  Calls Tryz.prog 93 #[.string s, .int .i32 r] w fun e w' => e = .returned (.int .i64 (-1)) ∧ Below w.heap.size w w' := by
 have VR := Lib.hid (fun W => vrune_yes r W (by omega))
 have r128 : ¬ r < 128 := by omega
 clear rv r1
 go_enter Tryz.func93, Tryz.ntmps93
 go_wp2_with fail
 refine (VR.out _).mono ?_; rintro e w1 ⟨rfl, rfl⟩
 go_wp2_with fail
 go_step3
 go_wp2_with fail
 refine wp_loop_rounds 1 ?_
 rw [rounds_succ]
 go_wp2_with fail
 try rw [Exit.noGoto_ret]
 go_ret
 exact ⟨rfl, Below.refl _ _⟩
set_option maxHeartbeats 2000000 in
set_option maxRecDepth 100000 in
theorem irune_d2 (s E T : ByteArray) (r a v j : Int) (w : World) (r0 : 128 ≤ r) (r1 : r ≤ 1114111) (rv : r < 55296 ∨ 57343 < r) (rf : (r == 65533) = false) (hE : (E.size : Int) = 3) (hs : 2 < (s.size : Int))
  (CV : ∀ W, Sem.run Tryz.prog (convert 21 9 (.int .i32 r)) W = .ok (.string E) W)
  (I1 : ∀ W, Sem.run Tryz.prog (Instr.index 9 (.string s) (.int .i64 2)) W = .ok (.int .u8 a) W) (I2 : ∀ W, Sem.run Tryz.prog (Instr.index 9 (.string E) (.int .i64 2)) W = .ok (.int .u8 v) W)
  (hne : (a != v) = true) (SL : ∀ W, Sem.run Tryz.prog (Instr.slice 9 (.string s) (some (.int .i64 3)) none none) W = .ok (.string T) W)
  (CB : Hid (∀ W, Calls Tryz.prog 85 #[.string T, .int .u8 v] W fun e w' => e = .returned (.int .i64 j) ∧ W = w')) (hj : j < 0) :
  Calls Tryz.prog 93 #[.string s, .int .i32 r] w fun e w' => e = .returned (.int .i64 (-1)) ∧ Below w.heap.size w w' := by
 have VR := Lib.hid (fun W => vrune_yes r W (by omega))
 have r128 : ¬ r < 128 := by omega
 clear rv r1
 go_enter Tryz.func93, Tryz.ntmps93
 go_wp2_with fail
 refine (VR.out _).mono ?_; rintro e w1 ⟨rfl, rfl⟩
 go_wp2_with fail
 go_step3
 go_wp2_with fail
 refine wp_loop_rounds 1 ?_
 rw [rounds_succ]
 go_wp2_with fail
 try go_step3
 go_wp2_with fail
 go_quiet (fail)
 go_wp2_with fail
 go_quiet ((go_at_call 85; first | exact q_same (CB.out _) | exact q_same2 (CB.out _)))
 go_wp2_with fail
 simp only [Exit.noGoto_ret, Exit.inBlock, Exit.then]
 go_ret
 exact ⟨rfl, by repeat (first | exact Below.refl _ _ | refine below_drewN ?_ _ | refine Below.drew ?_)⟩
set_option maxHeartbeats 2000000 in
set_option maxRecDepth 100000 in
theorem irune_s2 (s E : ByteArray) (r : Int) (w : World) (r0 : 128 ≤ r) (r1 : r ≤ 1114111) (rv : r < 55296 ∨ 57343 < r) (rf : (r == 65533) = false) (hE : (E.size : Int) = 3) (hs : ¬ 2 < (s.size : Int))
  (CV : ∀ W, Sem.run Tryz.prog (convert 21 9 (.int .i32 r)) W = .ok (.string E) W) :
  Calls Tryz.prog 93 #[.string s, .int .i32 r] w fun e w' => e = .returned (.int .i64 (-1)) ∧ Below w.heap.size w w' := by
 have VR := Lib.hid (fun W => vrune_yes r W (by omega))
 have r128 : ¬ r < 128 := by omega
 clear rv r1
 go_enter Tryz.func93, Tryz.ntmps93
 go_wp2_with fail
 refine (VR.out _).mono ?_; rintro e w1 ⟨rfl, rfl⟩
 go_wp2_with fail
 go_step3
 go_wp2_with fail
 refine wp_loop_rounds 1 ?_
 rw [rounds_succ]
 go_wp2_with fail
 try rw [Exit.noGoto_ret]
 go_ret
 exact ⟨rfl, Below.refl _ _⟩
set_option maxHeartbeats 2000000 in
set_option maxRecDepth 100000 in
theorem irune_d3 (s E T : ByteArray) (r a v j : Int) (w : World) (r0 : 128 ≤ r) (r1 : r ≤ 1114111) (rv : r < 55296 ∨ 57343 < r) (rf : (r == 65533) = false) (hE : (E.size : Int) = 4) (hs : 3 < (s.size : Int))
  (CV : ∀ W, Sem.run Tryz.prog (convert 21 9 (.int .i32 r)) W = .ok (.string E) W)
  (I1 : ∀ W, Sem.run Tryz.prog (Instr.index 9 (.string s) (.int .i64 3)) W = .ok (.int .u8 a) W) (I2 : ∀ W, Sem.run Tryz.prog (Instr.index 9 (.string E) (.int .i64 3)) W = .ok (.int .u8 v) W)
  (hne : (a != v) = true) (SL : ∀ W, Sem.run Tryz.prog (Instr.slice 9 (.string s) (some (.int .i64 4)) none none) W = .ok (.string T) W)
  (CB : Hid (∀ W, Calls Tryz.prog 85 #[.string T, .int .u8 v] W fun e w' => e = .returned (.int .i64 j) ∧ W = w')) (hj : j < 0) :
  Calls Tryz.prog 93 #[.string s, .int .i32 r] w fun e w' => e = .returned (.int .i64 (-1)) ∧ Below w.heap.size w w' := by
 have VR := Lib.hid (fun W => vrune_yes r W (by omega))
 have r128 : ¬ r < 128 := by omega
 clear rv r1
 go_enter Tryz.func93, Tryz.ntmps93
 go_wp2_with fail
 refine (VR.out _).mono ?_; rintro e w1 ⟨rfl, rfl⟩
 go_wp2_with fail
 go_step3
 go_wp2_with fail
 refine wp_loop_rounds 1 ?_
 rw [rounds_succ]
 go_wp2_with fail
 try go_step3
 go_wp2_with fail
 go_quiet (fail)
 go_wp2_with fail
 go_quiet ((go_at_call 85; first | exact q_same (CB.out _) | exact q_same2 (CB.out _)))
 go_wp2_with fail
 simp only [Exit.noGoto_ret, Exit.inBlock, Exit.then]
 go_ret
 exact ⟨rfl, by repeat (first | exact Below.refl _ _ | refine below_drewN ?_ _ | refine Below.drew ?_)⟩
set_option maxHeartbeats 2000000 in
set_option maxRecDepth 100000 in
theorem irune_s3 (s E : ByteArray) (r : Int) (w : World) (r0 : 128 ≤ r) (r1 : r ≤ 1114111) (rv : r < 55296 ∨ 57343 < r) (rf : (r == 65533) = false) (hE : (E.size : Int) = 4) (hs : ¬ 3 < (s.size : Int))
  (CV : ∀ W, Sem.run Tryz.prog (convert 21 9 (.int .i32 r)) W = .ok (.string E) W) :
  Calls Tryz.prog 93 #[.string s, .int .i32 r] w fun e w' => e = .returned (.int .i64 (-1)) ∧ Below w.heap.size w w' := by
 have VR := Lib.hid (fun W => vrune_yes r W (by omega))
 have r128 : ¬ r < 128 := by omega
 clear rv r1
 go_enter Tryz.func93, Tryz.ntmps93
 go_wp2_with fail
 refine (VR.out _).mono ?_; rintro e w1 ⟨rfl, rfl⟩
 go_wp2_with fail
 go_step3
 go_wp2_with fail
 refine wp_loop_rounds 1 ?_
 rw [rounds_succ]
 go_wp2_with fail
 try rw [Exit.noGoto_ret]
 go_ret
 exact ⟨rfl, Below.refl _ _⟩
theorem irune_default (s : ByteArray) (r : Int) (w : World) (hs : ∀ x ∈ s.data.toList, x.toNat < 128) (r0 : 128 ≤ r) (r1 : r ≤ 1114111) (rv : r < 55296 ∨ 57343 < r) (rf : (r == 65533) = false) :
  Calls Tryz.prog 93 #[.string s, .int .i32 r] w fun e w' => e = .returned (.int .i64 (-1)) ∧ Below w.heap.size w w' := by
 obtain ⟨k, hk, h123, hsz, hv⟩ := Ix.enc_hi r0
 by_cases hks : k < s.size
 ·
  have ha : s[k].toNat < 128 := hs _ (by
   have e : s[k] = s.data.toList[k]'(by rw [ab_len]; exact hks) := rfl
   rw [e]; exact List.getElem_mem _)
  have I1 := fun W => rx_ix s k hks W
  have I2 := fun W => rx_ix (Utf8.encode r) k hk W
  have SL := fun W => rx_cut s (k + 1) hks W
  have hj := Ix.no_byte (l := (s.extract (k + 1) s.size).data.toList) (v := (Utf8.encode r)[k]) (fun x hx => hs x (Ix.ext_in hx)) hv
  have CB := Lib.hid (fun W => ixb (s.extract (k + 1) s.size) (Utf8.encode r)[k] W)
  have hne : ((s[k].toNat : Int) != ((Utf8.encode r)[k].toNat : Int)) = true := by
   unfold bne
   rw [beq_eq_false_iff_ne.2 (by omega)]; rfl
  rcases h123 with rfl | rfl | rfl
  ·
   exact irune_d1 s _ _ r _ _ _ w r0 r1 rv rf (by omega) (by omega) (rx_conv r) I1 I2 hne SL CB hj
  ·
   exact irune_d2 s _ _ r _ _ _ w r0 r1 rv rf (by omega) (by omega) (rx_conv r) I1 I2 hne SL CB hj
  ·
   exact irune_d3 s _ _ r _ _ _ w r0 r1 rv rf (by omega) (by omega) (rx_conv r) I1 I2 hne SL CB hj
 ·
  rcases h123 with rfl | rfl | rfl
  ·
   exact irune_s1 s _ r w r0 r1 rv rf (by omega) (by omega) (rx_conv r)
  ·
   exact irune_s2 s _ r w r0 r1 rv rf (by omega) (by omega) (rx_conv r)
  ·
   exact irune_s3 s _ r w r0 r1 rv rf (by omega) (by omega) (rx_conv r)
set_option maxHeartbeats 2000000 in
set_option maxRecDepth 100000 in
theorem irune_bad (s : ByteArray) (r : Int) (w : World) (r0 : 128 ≤ r) (r1 : 55296 ≤ r) (rv : r ≤ 57343 ∨ 1114111 < r) (rf : (r == 65533) = false) :
  Calls Tryz.prog 93 #[.string s, .int .i32 r] w fun e w' => e = .returned (.int .i64 (-1)) ∧ Below w.heap.size w w' := by
 have VR := Lib.hid (fun W => vrune_no r W (by omega) r1 rv)
 have r128 : ¬ r < 128 := by omega
 clear rv r1
 go_enter Tryz.func93, Tryz.ntmps93
 go_wp2_with fail
 refine (VR.out _).mono ?_; rintro e w1 ⟨rfl, rfl⟩
 go_wp2_with fail
 go_ret
 exact ⟨rfl, Below.refl _ _⟩
set_option maxHeartbeats 2000000 in
set_option maxRecDepth 100000 in
theorem irune_err (s : ByteArray) (w : World) (hs : ∀ x ∈ s.data.toList, x.toNat < 128) :
  Calls Tryz.prog 93 #[.string s, .int .i32 65533] w fun e w' => e = .returned (.int .i64 (-1)) ∧ Below w.heap.size w w' := by
 have HS := Lib.hid hs; clear hs
 go_enter Tryz.func93, Tryz.ntmps93
 go_wp2_with fail
 go_loopw [] (fun wr => ∃ pos : Nat, pos ≤ s.size ∧ wr.heap[w.heap.size]? = some (.stringIter s pos) ∧ Hid (Below w.heap.size w wr)) (fun wr => s.size - wr.iterPos w.heap.size)
 case atStart =>
  refine ⟨0, Nat.zero_le _, ?_, (Below.refl _ _).alloc (Nat.le_refl _) _⟩
  have := World.iter_heap w s 0
  simpa using this
 case round =>
  obtain ⟨pos, hk, hit, hbw⟩ := hrel
  by_cases hp : pos < s.size
  ·
   have ha : s[pos].toNat < 128 := HS.out _ (by
    have e : s[pos] = s.data.toList[pos]'(by rw [ab_len]; exact hp) := rfl
    rw [e]; exact List.getElem_mem _)
   have hnx : ∀ ty, (Instr.next (.pointer (some ⟨w.heap.size, 0, none⟩)) true ty).run Tryz.prog wr = _ := fun ty => Lib.run_next_ascii_at wr w.heap.size s pos ty hit hp ha
   have hit2 := Lib.iterAt_heap wr w.heap.size s pos (pos + 1) hit
   have hbw2 := Lib.hid (Lib.below_iterAt hbw.out (k := w.heap.size) (Nat.le_refl _) s (pos + 1))
   have hne : ((s[pos].toNat : Int) == 65533) = false := beq_eq_false_iff_ne.2 (by omega)
   generalize hc : (s[pos].toNat : Int) = c at hnx hne
   go_wp2_with fail
   go_roundw
   case rel => exact ⟨pos + 1, by omega, hit2, hbw2⟩
   case measure =>
    simp only [World.iterPos, hit2, hit]
    omega
  ·
   have hnx : ∀ ty, (Instr.next (.pointer (some ⟨w.heap.size, 0, none⟩)) true ty).run Tryz.prog wr = _ := fun ty => Lib.run_next_end_at wr w.heap.size s pos ty hit hp
   go_wp2_with fail
   go_ret
   exact ⟨rfl, hbw.out⟩
theorem irune_hi (s : ByteArray) (r : Int) (w : World) (hs : ∀ x ∈ s.data.toList, x.toNat < 128) (r0 : 128 ≤ r) (r1 : r ≤ 2147483647) :
  Calls Tryz.prog 93 #[.string s, .int .i32 r] w fun e w' => e = .returned (.int .i64 (-1)) ∧ Below w.heap.size w w' := by
 by_cases h : r = 65533
 ·
  subst h; exact irune_err s w hs
 have rf : (r == 65533) = false := beq_eq_false_iff_ne.2 h
 by_cases hv : r ≤ 1114111 ∧ (r < 55296 ∨ 57343 < r)
 ·
  exact irune_default s r w hs r0 hv.1 hv.2 rf
 ·
  exact irune_bad s r w r0 (by omega) (by omega) rf
end Go.Proofs.YtjggjkeopbcmoaaGreatDoor
set_option linter.unusedVariables false
set_option linter.unusedSimpArgs false
namespace Go.Proofs.YtjggjkeopbcmoaaGreatDoor
open Go.RowKit Go.Sort
namespace Ix
theorem get_in (s : ByteArray) (k : Nat) (h : k < s.size) : s.get! k = s[k] := by
 simp [ByteArray.get!, getElem!_pos, h]
 rfl
theorem dec_bytes (s : ByteArray) (pos : Nat) (h : pos < s.size) (ha : 128 ≤ (s[pos]'h).toNat) : ∀ j, j < (Utf8.decode s pos).2 → pos + j < s.size ∧ 128 ≤ (s.get! (pos + j)).toNat := by
 have h0 : pos + 0 < s.size ∧ 128 ≤ (s.get! (pos + 0)).toNat := ⟨h, by rw [Go.get_at s pos h]; exact ha⟩
 have hc : ∀ k, (decide (pos + k < s.size) && (s.get! (pos + k)).toNat / 64 == 2) = true → pos + k < s.size ∧ 128 ≤ (s.get! (pos + k)).toNat := by
  intro k hk
  rw [Bool.and_eq_true, decide_eq_true_eq, beq_iff_eq] at hk
  exact ⟨hk.1, by omega⟩
 have hn : ¬ (s.get! (pos + 0)).toNat < 128 := by have := h0.2; omega
 intro j
 unfold Utf8.decode
 simp only
 rw [if_neg hn]
 split
 ·
  rename_i c
  rw [Bool.and_eq_true] at c
  have c1 := hc 1 c.2
  split
  ·
   intro hj
   obtain rfl | rfl : j = 0 ∨ j = 1 := by simp at hj; omega
   ·
    exact h0
   ·
    exact c1
  ·
   intro hj
   obtain rfl : j = 0 := by simp at hj; omega
   exact h0
 ·
  split
  ·
   rename_i _ c
   rw [Bool.and_eq_true, Bool.and_eq_true] at c
   have c1 := hc 1 c.1.2
   have c2 := hc 2 c.2
   split
   ·
    intro hj
    obtain rfl | rfl | rfl : j = 0 ∨ j = 1 ∨ j = 2 := by simp at hj; omega
    ·
     exact h0
    ·
     exact c1
    ·
     exact c2
   ·
    intro hj
    obtain rfl : j = 0 := by simp at hj; omega
    exact h0
  ·
   split
   ·
    rename_i _ _ c
    rw [Bool.and_eq_true, Bool.and_eq_true, Bool.and_eq_true] at c
    have c1 := hc 1 c.1.1.2
    have c2 := hc 2 c.1.2
    have c3 := hc 3 c.2
    split
    ·
     intro hj
     obtain rfl | rfl | rfl | rfl : j = 0 ∨ j = 1 ∨ j = 2 ∨ j = 3 := by simp at hj; omega
     ·
      exact h0
     ·
      exact c1
     ·
      exact c2
     ·
      exact c3
    ·
     intro hj
     obtain rfl : j = 0 := by simp at hj; omega
     exact h0
   ·
    intro hj
    obtain rfl : j = 0 := by simp at hj; omega
    exact h0
theorem noany_dec {s : ByteArray} {chars : List UInt8} {pos : Nat} (h : pos < s.size) (ha : 128 ≤ (s[pos]'h).toNat) (hs : ∀ x ∈ chars, x.toNat < 128) (hn : Lib.NoAny s.data.toList chars pos) : Lib.NoAny s.data.toList chars (pos + (Utf8.decode s pos).2) ∧ pos + (Utf8.decode s pos).2 ≤ s.size := by
 have hd := dec_bytes s pos h ha
 refine ⟨?_, ?_⟩
 ·
  intro j b hj hb
  by_cases hlt : j < pos
  ·
   exact hn j b hlt hb
  ·
   obtain ⟨h1, h2⟩ := hd (j - pos) (by omega)
   have e : pos + (j - pos) = j := by omega
   rw [e] at h1 h2
   have hb2 : b = s.get! j := by
    rw [get_in s j h1]
    have : s.data.toList[j]? = some s[j] := by rw [List.getElem?_eq_getElem (by rw [ab_len]; exact h1)]; rfl
    rw [this] at hb; exact (Option.some.inj hb).symm
   rw [Bool.eq_false_iff]
   intro hc
   have := hs b (by simpa using hc)
   rw [hb2] at this; omega
 ·
  rcases Nat.eq_zero_or_pos (Utf8.decode s pos).2 with hz | hz
  ·
   omega
  ·
   have := (hd ((Utf8.decode s pos).2 - 1) (by omega)).1
   omega
end Ix
theorem irune_lo (s : ByteArray) (c : UInt8) (w : World) (h : c.toNat < 128) :
  Calls Tryz.prog 93 #[.string s, .int .i32 (c.toNat : Int)] w fun e w' => e = .returned (.int .i64 (Lib.indexByte s.data.toList c)) ∧ w = w' :=
 (Any.strings_IndexRune_ascii Tryz.lays152 s (c.toNat : Int) w (by omega) (by omega)).mono fun _ _ ⟨h, e⟩ => ⟨by rw [h]; simp, e.symm⟩
theorem sascii_no (n : Int) (w : World) (h : n ≤ 8) : Calls Tryz.prog 151 #[.int .i64 n] w fun e w' => e = .returned (.bool false) ∧ w = w' := by
 have h' : ¬ 8 < n := by omega
 go_enter Tryz.func151, Tryz.ntmps151
 go_wp2_with fail
 go_ret
 exact ⟨by simp [h'], rfl⟩
set_option maxHeartbeats 4000000 in
set_option maxRecDepth 100000 in
theorem ixany_short (s chars : ByteArray) (w : World) (h2 : 2 ≤ chars.size) (h8 : s.size ≤ 8) (hs : ∀ x ∈ chars.data.toList, x.toNat < 128) :
  Calls Tryz.prog 122 #[.string s, .string chars] w fun e w' => e = .returned (.int .i64 (Lib.indexAny s.data.toList chars.data.toList)) ∧ Below w.heap.size w w' := by
 obtain ⟨hn1, hn2⟩ := dne (ds := chars) (by omega)
 obtain ⟨ans, hans⟩ : ∃ ans, ans = Lib.indexAny s.data.toList chars.data.toList := ⟨_, rfl⟩
 rw [← hans]
 have HA := Lib.hid hans; clear hans
 have HS := Lib.hid hs; clear hs
 have CS := Lib.hid (fun W => sascii_no (s.size : Int) W (by omega))
 have g1 : ((chars.size : Int) == 1) = false := beq_eq_false_iff_ne.2 (by omega)
 clear h2 h8
 go_enter Tryz.func122, Tryz.ntmps122
 go_wp2_with fail
 refine (CS.out _).mono ?_; rintro e w1 ⟨rfl, rfl⟩
 go_wp2_with fail
 go_loopw [] (fun wr => ∃ pos : Nat, pos ≤ s.size ∧ wr.heap[w.heap.size]? = some (.stringIter s pos) ∧ Hid (Lib.NoAny s.data.toList chars.data.toList pos) ∧ Hid (Below w.heap.size w wr)) (fun wr => s.size - wr.iterPos w.heap.size)
 case atStart =>
  refine ⟨0, Nat.zero_le _, ?_, Lib.NoAny.zero _ _, (Below.refl _ _).alloc (Nat.le_refl _) _⟩
  have := World.iter_heap w s 0
  simpa using this
 case round =>
  obtain ⟨pos, hk, hit, hno, hbw⟩ := hrel
  by_cases hp : pos < s.size
  ·
   by_cases ha : s[pos].toNat < 128
   ·
    have hnx : ∀ ty, (Instr.next (.pointer (some ⟨w.heap.size, 0, none⟩)) true ty).run Tryz.prog wr = _ := fun ty => Lib.run_next_ascii_at wr w.heap.size s pos ty hit hp ha
    have hit2 := Lib.iterAt_heap wr w.heap.size s pos (pos + 1) hit
    have hbw2 := Lib.hid (Lib.below_iterAt hbw.out (k := w.heap.size) (Nat.le_refl _) s (pos + 1))
    have CR := Lib.hid (fun W => irune_lo chars s[pos] W ha)
    have hx : s.data.toList[pos]? = some s[pos] := by rw [List.getElem?_eq_getElem (by rw [ab_len]; exact hp)]; rfl
    have hcon := Lib.contains_iff_indexByte chars.data.toList s[pos]
    generalize hj : Lib.indexByte chars.data.toList s[pos] = j at CR hcon
    by_cases hin : 0 ≤ j
    ·
     have he := Lib.hid (show ans = (pos : Int) by rw [HA.out]; exact Lib.indexAny_hit hno.out hx (by rw [hcon]; exact decide_eq_true hin))
     clear hcon hx hj
     generalize hc : (s[pos].toNat : Int) = c at hnx CR
     go_wp2_with fail
     refine (CR.out _).mono ?_; rintro e w3 ⟨rfl, rfl⟩
     go_wp2_with fail
     go_ret
     exact ⟨by rw [he.out]; rfl, hbw2.out⟩
    ·
     have hno2 := Lib.hid (hno.out.succ hx (by rw [hcon]; exact decide_eq_false hin))
     clear hcon hx hj
     generalize hc : (s[pos].toNat : Int) = c at hnx CR
     go_wp2_with fail
     refine (CR.out _).mono ?_; rintro e w3 ⟨rfl, rfl⟩
     go_wp2_with fail
     go_roundw
     case rel => exact ⟨pos + 1, by omega, hit2, hno2, hbw2⟩
     case measure =>
      simp only [World.iterPos, hit2, hit]
      omega
   ·
    have hnx : ∀ ty, (Instr.next (.pointer (some ⟨w.heap.size, 0, none⟩)) true ty).run Tryz.prog wr = _ := fun ty => Lib.run_next_any_at wr w.heap.size s pos ty hit hp
    obtain ⟨r1, r2⟩ := decode_high s pos hp (by omega)
    obtain ⟨n1, n2⟩ := Ix.noany_dec hp (by omega) HS.out hno.out
    have hno2 := Lib.hid n1; clear n1
    have hit2 := Lib.iterAt_heap wr w.heap.size s pos (pos + (Utf8.decode s pos).2) hit
    have hbw2 := Lib.hid (Lib.below_iterAt hbw.out (k := w.heap.size) (Nat.le_refl _) s (pos + (Utf8.decode s pos).2))
    have r3 := decode_le s pos
    generalize (Utf8.decode s pos).1 = rn at hnx r1 r3
    generalize (Utf8.decode s pos).2 = wd at hnx hbw2 r2 hno2 n2 hit2
    have CR := Lib.hid (fun W => irune_hi chars (rn : Int) W HS.out (by omega) (by omega))
    go_wp2_with fail
    refine (CR.out _).mono ?_; rintro e w3 ⟨rfl, b3⟩
    have hlt : w.heap.size < (wr.iterAt w.heap.size s (pos + wd)).heap.size := by
     have := (Array.getElem?_eq_some_iff.1 hit2).1
     exact this
    have hit3 : w3.heap[w.heap.size]? = some (.stringIter s (pos + wd)) := (b3.block _ hlt).trans hit2
    have hbw3 := Lib.hid (hbw2.out.trans (b3.mono (Nat.le_of_lt hlt)))
    clear b3
    go_wp2_with fail
    go_roundw
    case rel => exact ⟨pos + wd, n2, hit3, hno2, hbw3⟩
    case measure =>
     simp only [World.iterPos, hit3, hit]
     omega
  ·
   have hnx : ∀ ty, (Instr.next (.pointer (some ⟨w.heap.size, 0, none⟩)) true ty).run Tryz.prog wr = _ := fun ty => Lib.run_next_end_at wr w.heap.size s pos ty hit hp
   have he := Lib.hid (show ans = -1 by
    rw [HA.out]
    refine Lib.indexAny_none ?_
    rw [ab_len, show s.size = pos by omega]
    exact hno.out)
   go_wp2_with fail
   go_ret
   exact ⟨by rw [he.out]; rfl, hbw.out⟩
set_option maxRecDepth 100000 in
theorem ixany (s chars : ByteArray) (w : World) (h2 : 2 ≤ chars.size) (hz : s.size < 4294967281) (hc : chars.size < 4294967281) (hs : ∀ x ∈ chars.data.toList, x.toNat < 128) :
  Calls Tryz.prog 122 #[.string s, .string chars] w fun e w' => e = .returned (.int .i64 (Lib.indexAny s.data.toList chars.data.toList)) ∧ Below w.heap.size w w' := by
 by_cases h8 : s.size ≤ 8
 ·
  exact ixany_short s chars w h2 h8 hs
 ·
  have hac : ∀ (j : Nat) b, chars.data.toList[j]? = some b → b.toNat < 128 := fun j b hb => hs b (List.mem_of_getElem? hb)
  have h116 : (Tryz.prog.info? 175).map (fun i => (i.zero, i.size)) = some (some (.agg (Array.replicate 256 (.bool false))), 256) := by kernel_rfl
  refine (Any.strings_IndexAny_long Tryz.lays153 (zero_of_info h116).1 (zero_of_info h116).2 s chars w h2 (by omega) hz hc hac).mono fun e w' ⟨h1, h3⟩ => ⟨h1, ?_⟩
  rw [h3]
  exact ((Below.refl _ _).alloc (Nat.le_refl _) _).alloc (by simp) _
end Go.Proofs.YtjggjkeopbcmoaaGreatDoor

/- Joined: RuC0, YrB, YrC, WdC. -/
import Derived.Test.YtjggjkeopbcmoaaGreatDoorBt05
import Derived.Test.YtjggjkeopbcmoaaGreatDoorBt10
import Derived.Test.YtjggjkeopbcmoaaGreatDoorBt02
import Derived.Test.YtjggjkeopbcmoaaGreatDoorBt07
import Derived.Test.YtjggjkeopbcmoaaGreatDoorBt01
set_option linter.unusedVariables false
set_option linter.unusedSimpArgs false
namespace Go.Proofs.YtjggjkeopbcmoaaGreatDoor
open Go.RowKit Go.Sort
namespace Ru
def svF (n q : Int) : Int × Int := if q = 0 ∧ (n < -10800 ∨ 10800 < n) then (0, 1) else (n, q)
def sv (s : ByteArray) : Int × Int := svF (Am.rd s).1 (Am.rd s).2
def dyF (k wk d q m : Int) : Int × Int × Int × Int := if q = 0 ∧ Dr.onF k wk d m = false then (0, 0, 0, 1) else (k, wk, d, q)
def dy (l : List UInt8) (m : Int) : Int × Int × Int × Int := dyF (Ds.rd l).1 (Ds.rd l).2.1 (Ds.rd l).2.2.1 (Ds.rd l).2.2.2 m
end Ru
namespace Yr
theorem num_bd {l : List UInt8} : (num l).2 = 0 → -32767 ≤ (num l).1 ∧ (num l).1 ≤ 32767 := by
 unfold num
 split
 ·
  cases hi : inY (Num.rd l).1
  ·
   intro h; exact absurd h (by simp)
  ·
   intro _
   unfold inY at hi
   rw [Bool.and_eq_true, decide_eq_true_eq, decide_eq_true_eq] at hi
   exact hi
 ·
  rename_i h; intro h2; exact absurd h2 h
theorem num_zero {l : List UInt8} (h : (num l).2 ≠ 0) : (num l).1 = 0 := by
 revert h
 unfold num
 split
 ·
  cases hi : inY (Num.rd l).1
  ·
   intro _; rfl
  ·
   intro h; exact absurd rfl h
 ·
  intro _; rfl
theorem fr_zero {l : List UInt8} (h : (fr l).2 ≠ 0) : (fr l).1 = 0 := by
 revert h
 unfold fr
 cases hn : isN l
 ·
  simp only [Bool.false_eq_true, if_false]
  split
  ·
   split
   ·
    intro h; exact absurd rfl h
   ·
    intro _; rfl
  ·
   intro _; rfl
 ·
  simp only [if_true]
  exact num_zero
theorem to_zero {l : List UInt8} {f : Int} (h : (to l f).2 ≠ 0) : (to l f).1 = 0 := by
 revert h
 unfold to
 split
 ·
  split
  ·
   intro h; exact absurd rfl h
  ·
   intro _; rfl
 ·
  intro _; rfl
end Yr
set_option maxHeartbeats 1000000 in
theorem yfrom1_yes (s : ByteArray) (v : Int) (W : World) (b : Nat) (hc : W.cell? ⟨b, 0, none⟩ = some (.string s)) (hs : s.size ≤ 1000) (tp : TypeId) (p : Value) (hv : W.var? Tryz.prog "strconv.ErrRange" = some #[.iface tp p]) (h : Yr.fr s.data.toList = (v, 0)) :
  Calls Tryz.prog 102 #[.pointer (some ⟨b, 0, none⟩)] W fun e w' => e = .returned (.int .i64 v) ∧ Below W.heap.size W w' := by
 have CN := Lib.hid (fun W => yisn_any s W hs)
 have HV := Lib.hid hv; clear hv
 unfold Yr.fr at h
 cases hn : Yr.isN s.data.toList
 ·
  rw [hn] at h CN
  simp only [Bool.false_eq_true, if_false] at h
  have hq : (Yr.word s.data.toList).2 = 0 := by
   by_cases hq : (Yr.word s.data.toList).2 = 0
   ·
    exact hq
   ·
    rw [if_neg hq] at h; exact congrArg Prod.snd h
  rw [if_pos hq] at h
  have hk : (Yr.word s.data.toList).1 = 0 := by
   by_cases hk : (Yr.word s.data.toList).1 = 0
   ·
    exact hk
   ·
    rw [if_neg hk] at h; exact absurd (congrArg Prod.snd h) (by simp)
  rw [if_pos hk] at h
  obtain rfl : -32767 = v := congrArg Prod.fst h
  have CW := Lib.hid (fun W => yword_yes s 0 W hs (Prod.ext hk hq))
  clear h hq hk
  go_enter Tryz.func102, Tryz.ntmps102
  go_wp2_with fail
  refine (CN.out _).mono ?_; rintro e w1 ⟨rfl, b1⟩
  have hc1 := (b1.cell (World.block_lt_of_cell? _ _ hc)).trans hc
  go_wp2_with fail
  refine (CW.out _).mono ?_; rintro e w2 ⟨rfl, b2⟩
  have B2 := Lib.hid (b1.trans (b2.mono b1.size))
  clear b1 b2
  go_wp2_with fail
  refine (need_yes 3 _).mono ?_; rintro e w3 ⟨rfl, rfl⟩
  go_wp2_with fail
  go_ret
  exact ⟨rfl, B2.out⟩
 ·
  rw [hn] at h CN
  simp only [if_true] at h
  have CR := Lib.hid (fun W hv => ynum_yes s v W hs tp p hv h)
  clear h
  go_enter Tryz.func102, Tryz.ntmps102
  go_wp2_with fail
  refine (CN.out _).mono ?_; rintro e w1 ⟨rfl, b1⟩
  have hc1 := (b1.cell (World.block_lt_of_cell? _ _ hc)).trans hc
  have hv1 := Lib.hid (var_keep b1 HV.out)
  go_wp2_with fail
  refine (CR.out _ hv1.out).mono ?_; rintro e w2 ⟨rfl, b2⟩
  have B2 := Lib.hid (b1.trans (b2.mono b1.size))
  clear b1 b2
  go_wp2_with fail
  go_ret
  exact ⟨rfl, B2.out⟩
set_option maxHeartbeats 1000000 in
theorem yfrom1_no (s : ByteArray) (q : Int) (W : World) (b : Nat) (hc : W.cell? ⟨b, 0, none⟩ = some (.string s)) (hs : s.size ≤ 1000) (tp : TypeId) (p : Value) (hv : W.var? Tryz.prog "strconv.ErrRange" = some #[.iface tp p]) (h : (Yr.fr s.data.toList).2 = q) (hq0 : q ≠ 0) :
  Calls Tryz.prog 102 #[.pointer (some ⟨b, 0, none⟩)] W fun e w' => e = .panicked (gvP q) ∧ Below W.heap.size W w' := by
 have CN := Lib.hid (fun W => yisn_any s W hs)
 have HV := Lib.hid hv; clear hv
 unfold Yr.fr at h
 cases hn : Yr.isN s.data.toList
 ·
  rw [hn] at h CN
  simp only [Bool.false_eq_true, if_false] at h
  by_cases hq : (Yr.word s.data.toList).2 = 0
  ·
   rw [if_pos hq] at h
   have hk : (Yr.word s.data.toList).1 ≠ 0 := by
    intro hk; rw [if_pos hk] at h; exact hq0 h.symm
   rw [if_neg hk] at h
   obtain rfl : 3 = q := h
   have CW := Lib.hid (fun W => yword_yes s (Yr.word s.data.toList).1 W hs (Prod.ext rfl hq))
   generalize (Yr.word s.data.toList).1 = k at CW hk
   have gk : (k == 0) = false := beq_eq_false_iff_ne.2 hk
   clear hq hk
   go_enter Tryz.func102, Tryz.ntmps102
   go_wp2_with fail
   refine (CN.out _).mono ?_; rintro e w1 ⟨rfl, b1⟩
   have hc1 := (b1.cell (World.block_lt_of_cell? _ _ hc)).trans hc
   go_wp2_with fail
   refine (CW.out _).mono ?_; rintro e w2 ⟨rfl, b2⟩
   have B2 := Lib.hid (b1.trans (b2.mono b1.size))
   clear b1 b2
   go_wp2_with fail
   refine (need_no 3 _).mono ?_; rintro e w3 ⟨rfl, rfl⟩
   refine (show bodyPost _ _ _ (Exit.panic (gvP 3)) _ _ from ?_)
   exact ⟨rfl, rfl, B2.out⟩
  ·
   rw [if_neg hq] at h
   have CW := Lib.hid (fun W => yword_no s q W hs h hq0)
   clear h hq
   go_enter Tryz.func102, Tryz.ntmps102
   go_wp2_with fail
   refine (CN.out _).mono ?_; rintro e w1 ⟨rfl, b1⟩
   have hc1 := (b1.cell (World.block_lt_of_cell? _ _ hc)).trans hc
   go_wp2_with fail
   refine (CW.out _).mono ?_; rintro e w2 ⟨rfl, b2⟩
   refine (show bodyPost _ _ _ (Exit.panic (gvP q)) _ _ from ?_)
   exact ⟨rfl, rfl, b1.trans (b2.mono b1.size)⟩
 ·
  rw [hn] at h CN
  simp only [if_true] at h
  have CR := Lib.hid (fun W hv => ynum_no s q W hs tp p hv h hq0)
  clear h
  go_enter Tryz.func102, Tryz.ntmps102
  go_wp2_with fail
  refine (CN.out _).mono ?_; rintro e w1 ⟨rfl, b1⟩
  have hc1 := (b1.cell (World.block_lt_of_cell? _ _ hc)).trans hc
  have hv1 := Lib.hid (var_keep b1 HV.out)
  go_wp2_with fail
  refine (CR.out _ hv1.out).mono ?_; rintro e w2 ⟨rfl, b2⟩
  refine (show bodyPost _ _ _ (Exit.panic (gvP q)) _ _ from ?_)
  exact ⟨rfl, rfl, b1.trans (b2.mono b1.size)⟩
set_option maxHeartbeats 1000000 in
set_option maxRecDepth 100000 in
theorem yfrom_any (s : ByteArray) (w : World) (hs : s.size ≤ 1000) (tp : TypeId) (p : Value) (hv : w.var? Tryz.prog "strconv.ErrRange" = some #[.iface tp p]) :
  Calls Tryz.prog 66 #[.string s] w fun e w' => e = .returned (.tuple #[.int .i64 (Yr.fr s.data.toList).1, .int .i64 (Yr.fr s.data.toList).2]) ∧ Below w.heap.size w w' := by
 have hmf : ∀ (fn : Fn) (first cap : Array Value) (w : World), (Instr.makeFunc fn first cap).run Tryz.prog w = .ok (.func fn first cap) w := fun _ _ _ _ => rfl
 have b0 : Below w.heap.size w (w.alloc (.cells #[.string s] 9)) := (Below.refl _ _).alloc (Nat.le_refl _) _
 have hcell : (w.alloc (.cells #[.string s] 9)).cell? ⟨w.heap.size, 0, none⟩ = some (.string s) := by simp [go_sem]
 have hlt : w.heap.size < (w.alloc (.cells #[.string s] 9)).heap.size := by simp
 have hv0 := var_keep b0 hv
 have C : Hid (Calls Tryz.prog 101 #[.func (Fn.func 102) #[] #[.pointer (some ⟨w.heap.size, 0, none⟩)]] (w.alloc (.cells #[.string s] 9)) fun e w' => e = .returned (.tuple #[.int .i64 (Yr.fr s.data.toList).1, .int .i64 (Yr.fr s.data.toList).2]) ∧ Below (w.alloc (.cells #[.string s] 9)).heap.size (w.alloc (.cells #[.string s] 9)) w') := by
  by_cases hq : (Yr.fr s.data.toList).2 = 0
  ·
   rw [hq]
   exact icaught_yes 102 #[.pointer (some ⟨w.heap.size, 0, none⟩)] (fun _ => rfl) _ _ (fun W hW => yfrom1_yes s _ W w.heap.size ((hW.cell hlt).trans hcell) hs tp p (var_keep hW hv0) (Prod.ext rfl hq))
  ·
   have e1 : (Yr.fr s.data.toList).1 = 0 := Yr.fr_zero hq
   rw [e1]
   exact icaught_no 102 #[.pointer (some ⟨w.heap.size, 0, none⟩)] (fun _ => rfl) 0 _ _ (fun W hW => yfrom1_no s _ W w.heap.size ((hW.cell hlt).trans hcell) hs tp p (var_keep hW hv0) rfl hq)
 generalize (Yr.fr s.data.toList).1 = x at C ⊢
 generalize (Yr.fr s.data.toList).2 = q at C ⊢
 clear hv0 hcell hlt hv
 go_enter Tryz.func66, Tryz.ntmps66
 go_wp2_with fail
 refine C.out.mono ?_; rintro e w1 ⟨rfl, b1⟩
 have B1 := Lib.hid (below_step b0 (b1.mono (Nat.le_refl _)))
 clear b0 b1
 go_wp2_with fail
 go_ret2
 exact ⟨rfl, B1.out⟩
set_option maxHeartbeats 1000000 in
theorem ylast_yes (s : ByteArray) (f v : Int) (w : World) (hs : s.size ≤ 1000) (tp : TypeId) (p : Value) (hv : w.var? Tryz.prog "strconv.ErrRange" = some #[.iface tp p]) (h : Yr.la s.data.toList f = (v, 0)) :
  Calls Tryz.prog 107 #[.string s, .int .i64 f] w fun e w' => e = .returned (.int .i64 v) ∧ Below w.heap.size w w' := by
 have CN := Lib.hid (fun W => yisn_any s W hs)
 have HV := Lib.hid hv; clear hv
 unfold Yr.la at h
 cases hn : Yr.isN s.data.toList
 ·
  rw [hn] at h CN
  simp only [Bool.false_eq_true, if_false] at h
  have hq : (Yr.word s.data.toList).2 = 0 := by
   by_cases hq : (Yr.word s.data.toList).2 = 0
   ·
    exact hq
   ·
    rw [if_neg hq] at h; exact congrArg Prod.snd h
  rw [if_pos hq] at h
  have CW := Lib.hid (fun W => yword_yes s (Yr.word s.data.toList).1 W hs (Prod.ext rfl hq))
  generalize (Yr.word s.data.toList).1 = k at CW h
  by_cases hk : k = 0
  ·
   rw [if_pos hk] at h; exact absurd (congrArg Prod.snd h) (by simp)
  rw [if_neg hk] at h
  have gk : (k == 0) = false := beq_eq_false_iff_ne.2 hk
  have gk2 : (k != 0) = true := by unfold bne; rw [gk]; rfl
  by_cases h1 : k = 1
  ·
   rw [if_pos h1] at h
   obtain rfl : 32767 = v := congrArg Prod.fst h
   subst h1
   clear h hq hk gk gk2
   go_enter Tryz.func107, Tryz.ntmps107
   go_wp2_with fail
   refine (CN.out _).mono ?_; rintro e w1 ⟨rfl, b1⟩
   have d1 : Below w.heap.size w w1 := below_step gr0 b1
   have B1 := Lib.hid d1
   clear b1 d1
   go_wp2_with fail
   refine (CW.out _).mono ?_; rintro e w2 ⟨rfl, b2⟩
   have d2 : Below w1.heap.size w1 w2 := below_step gr0 b2
   have B2 := Lib.hid (below_step B1.out d2)
   clear b2 d2 B1
   go_wp2_with fail
   refine (need_yes 3 _).mono ?_; rintro e v1 ⟨rfl, rfl⟩
   go_wp2_with fail
   go_ret
   exact ⟨rfl, (grB B2)⟩
  ·
   rw [if_neg h1] at h
   obtain rfl : f = v := congrArg Prod.fst h
   have g1 : (k == 1) = false := beq_eq_false_iff_ne.2 h1
   clear h hq hk h1
   go_enter Tryz.func107, Tryz.ntmps107
   go_wp2_with fail
   refine (CN.out _).mono ?_; rintro e w1 ⟨rfl, b1⟩
   have d1 : Below w.heap.size w w1 := below_step gr0 b1
   have B1 := Lib.hid d1
   clear b1 d1
   go_wp2_with fail
   refine (CW.out _).mono ?_; rintro e w2 ⟨rfl, b2⟩
   have d2 : Below w1.heap.size w1 w2 := below_step gr0 b2
   have B2 := Lib.hid (below_step B1.out d2)
   clear b2 d2 B1
   go_wp2_with fail
   refine (need_yes 3 _).mono ?_; rintro e v1 ⟨rfl, rfl⟩
   go_wp2_with fail
   go_ret
   exact ⟨rfl, (grB B2)⟩
 ·
  rw [hn] at h CN
  simp only [if_true] at h
  have CR := Lib.hid (fun W hv => ynum_yes s v W hs tp p hv h)
  clear h
  go_enter Tryz.func107, Tryz.ntmps107
  go_wp2_with fail
  refine (CN.out _).mono ?_; rintro e w1 ⟨rfl, b1⟩
  have d1 : Below w.heap.size w w1 := below_step gr0 b1
  have B1 := Lib.hid d1
  clear b1 d1
  go_wp2_with fail
  refine (CR.out _ (var_keep B1.out HV.out)).mono ?_; rintro e w2 ⟨rfl, b2⟩
  have d2 : Below w1.heap.size w1 w2 := below_step gr0 b2
  have B2 := Lib.hid (below_step B1.out d2)
  clear b2 d2 B1
  go_wp2_with fail
  go_ret
  exact ⟨rfl, (grB B2)⟩
set_option maxHeartbeats 1000000 in
theorem ylast_no (s : ByteArray) (f q : Int) (w : World) (hs : s.size ≤ 1000) (tp : TypeId) (p : Value) (hv : w.var? Tryz.prog "strconv.ErrRange" = some #[.iface tp p]) (h : (Yr.la s.data.toList f).2 = q) (hq0 : q ≠ 0) :
  Calls Tryz.prog 107 #[.string s, .int .i64 f] w fun e w' => e = .panicked (gvP q) ∧ Below w.heap.size w w' := by
 have CN := Lib.hid (fun W => yisn_any s W hs)
 have HV := Lib.hid hv; clear hv
 unfold Yr.la at h
 cases hn : Yr.isN s.data.toList
 ·
  rw [hn] at h CN
  simp only [Bool.false_eq_true, if_false] at h
  by_cases hq : (Yr.word s.data.toList).2 = 0
  ·
   rw [if_pos hq] at h
   have CW := Lib.hid (fun W => yword_yes s (Yr.word s.data.toList).1 W hs (Prod.ext rfl hq))
   generalize (Yr.word s.data.toList).1 = k at CW h
   by_cases hk : k = 0
   ·
    rw [if_pos hk] at h
    obtain rfl : 3 = q := h
    subst hk
    clear hq
    go_enter Tryz.func107, Tryz.ntmps107
    go_wp2_with fail
    refine (CN.out _).mono ?_; rintro e w1 ⟨rfl, b1⟩
    have d1 : Below w.heap.size w w1 := below_step gr0 b1
    have B1 := Lib.hid d1
    clear b1 d1
    go_wp2_with fail
    refine (CW.out _).mono ?_; rintro e w2 ⟨rfl, b2⟩
    have d2 : Below w1.heap.size w1 w2 := below_step gr0 b2
    have B2 := Lib.hid (below_step B1.out d2)
    clear b2 d2 B1
    go_wp2_with fail
    refine (need_no 3 _).mono ?_; rintro e w5 ⟨rfl, rfl⟩
    refine (show bodyPost _ _ _ (Exit.panic (gvP 3)) _ _ from ?_)
    exact ⟨rfl, rfl, B2.out⟩
   ·
    rw [if_neg hk] at h
    split at h
    ·
     exact absurd h.symm hq0
    ·
     exact absurd h.symm hq0
  ·
   rw [if_neg hq] at h
   have CW := Lib.hid (fun W => yword_no s q W hs h hq0)
   clear h hq
   go_enter Tryz.func107, Tryz.ntmps107
   go_wp2_with fail
   refine (CN.out _).mono ?_; rintro e w1 ⟨rfl, b1⟩
   have d1 : Below w.heap.size w w1 := below_step gr0 b1
   have B1 := Lib.hid d1
   clear b1 d1
   go_wp2_with fail
   refine (CW.out _).mono ?_; rintro e w2 ⟨rfl, b2⟩
   refine (show bodyPost _ _ _ (Exit.panic (gvP q)) _ _ from ?_)
   exact ⟨rfl, rfl, B1.out.trans (b2.mono B1.out.size)⟩
 ·
  rw [hn] at h CN
  simp only [if_true] at h
  have CR := Lib.hid (fun W hv => ynum_no s q W hs tp p hv h hq0)
  clear h
  go_enter Tryz.func107, Tryz.ntmps107
  go_wp2_with fail
  refine (CN.out _).mono ?_; rintro e w1 ⟨rfl, b1⟩
  have d1 : Below w.heap.size w w1 := below_step gr0 b1
  have B1 := Lib.hid d1
  clear b1 d1
  go_wp2_with fail
  refine (CR.out _ (var_keep B1.out HV.out)).mono ?_; rintro e w2 ⟨rfl, b2⟩
  refine (show bodyPost _ _ _ (Exit.panic (gvP q)) _ _ from ?_)
  exact ⟨rfl, rfl, B1.out.trans (b2.mono B1.out.size)⟩
set_option maxHeartbeats 1000000 in
theorem yto1_yes (s : ByteArray) (f v : Int) (W : World) (b c : Nat) (hb : W.cell? ⟨b, 0, none⟩ = some (.string s)) (hc : W.cell? ⟨c, 0, none⟩ = some (.int .i64 f)) (hs : s.size ≤ 1000) (tp : TypeId) (p : Value) (hv : W.var? Tryz.prog "strconv.ErrRange" = some #[.iface tp p]) (h : Yr.to s.data.toList f = (v, 0)) :
  Calls Tryz.prog 106 #[.pointer (some ⟨b, 0, none⟩), .pointer (some ⟨c, 0, none⟩)] W fun e w' => e = .returned (.int .i64 v) ∧ Below W.heap.size W w' := by
 unfold Yr.to at h
 have hq : (Yr.la s.data.toList f).2 = 0 := by
  by_cases hq : (Yr.la s.data.toList f).2 = 0
  ·
   exact hq
  ·
   rw [if_neg hq] at h; exact congrArg Prod.snd h
 rw [if_pos hq] at h
 have CL := Lib.hid (fun W hv => ylast_yes s f (Yr.la s.data.toList f).1 W hs tp p hv (Prod.ext rfl hq))
 generalize (Yr.la s.data.toList f).1 = k at CL h
 by_cases hk : f ≤ k
 ·
  rw [if_pos hk] at h
  obtain rfl : k = v := congrArg Prod.fst h
  clear h hq
  go_enter Tryz.func106, Tryz.ntmps106
  go_wp2_with fail
  refine (CL.out _ hv).mono ?_; rintro e w1 ⟨rfl, b1⟩
  have hc1 := (b1.cell (World.block_lt_of_cell? _ _ hc)).trans hc
  go_wp2_with fail
  refine (need_yes 14 _).mono ?_; rintro e w3 ⟨rfl, rfl⟩
  go_wp2_with fail
  go_ret
  exact ⟨rfl, b1⟩
 ·
  rw [if_neg hk] at h; exact absurd (congrArg Prod.snd h) (by simp)
set_option maxHeartbeats 1000000 in
theorem yto1_no (s : ByteArray) (f q : Int) (W : World) (b c : Nat) (hb : W.cell? ⟨b, 0, none⟩ = some (.string s)) (hc : W.cell? ⟨c, 0, none⟩ = some (.int .i64 f)) (hs : s.size ≤ 1000) (tp : TypeId) (p : Value) (hv : W.var? Tryz.prog "strconv.ErrRange" = some #[.iface tp p]) (h : (Yr.to s.data.toList f).2 = q) (hq0 : q ≠ 0) :
  Calls Tryz.prog 106 #[.pointer (some ⟨b, 0, none⟩), .pointer (some ⟨c, 0, none⟩)] W fun e w' => e = .panicked (gvP q) ∧ Below W.heap.size W w' := by
 unfold Yr.to at h
 by_cases hq : (Yr.la s.data.toList f).2 = 0
 ·
  rw [if_pos hq] at h
  have CL := Lib.hid (fun W hv => ylast_yes s f (Yr.la s.data.toList f).1 W hs tp p hv (Prod.ext rfl hq))
  generalize (Yr.la s.data.toList f).1 = k at CL h
  by_cases hk : f ≤ k
  ·
   rw [if_pos hk] at h; exact absurd h.symm hq0
  ·
   rw [if_neg hk] at h
   obtain rfl : 14 = q := h
   have gk : decide (f ≤ k) = false := decide_eq_false hk
   clear hq hk
   go_enter Tryz.func106, Tryz.ntmps106
   go_wp2_with fail
   refine (CL.out _ hv).mono ?_; rintro e w1 ⟨rfl, b1⟩
   have hc1 := (b1.cell (World.block_lt_of_cell? _ _ hc)).trans hc
   go_wp2_with fail
   refine (need_no 14 _).mono ?_; rintro e w3 ⟨rfl, rfl⟩
   refine (show bodyPost _ _ _ (Exit.panic (gvP 14)) _ _ from ?_)
   exact ⟨rfl, rfl, b1⟩
 ·
  rw [if_neg hq] at h
  have CL := Lib.hid (fun W hv => ylast_no s f q W hs tp p hv h hq0)
  clear h hq
  go_enter Tryz.func106, Tryz.ntmps106
  go_wp2_with fail
  refine (CL.out _ hv).mono ?_; rintro e w1 ⟨rfl, b1⟩
  refine (show bodyPost _ _ _ (Exit.panic (gvP q)) _ _ from ?_)
  exact ⟨rfl, rfl, b1⟩
set_option maxHeartbeats 1000000 in
set_option maxRecDepth 100000 in
theorem yto_any (s : ByteArray) (f : Int) (w : World) (hs : s.size ≤ 1000) (tp : TypeId) (p : Value) (hv : w.var? Tryz.prog "strconv.ErrRange" = some #[.iface tp p]) :
  Calls Tryz.prog 67 #[.string s, .int .i64 f] w fun e w' => e = .returned (.tuple #[.int .i64 (Yr.to s.data.toList f).1, .int .i64 (Yr.to s.data.toList f).2]) ∧ Below w.heap.size w w' := by
 have hmf : ∀ (fn : Fn) (first cap : Array Value) (w : World), (Instr.makeFunc fn first cap).run Tryz.prog w = .ok (.func fn first cap) w := fun _ _ _ _ => rfl
 have b0 : Below w.heap.size w ((w.alloc (.cells #[.string s] 9)).alloc (.cells #[.int .i64 f] 3)) := ((Below.refl _ _).alloc (Nat.le_refl _) _).alloc (by simp) _
 have hcell : ((w.alloc (.cells #[.string s] 9)).alloc (.cells #[.int .i64 f] 3)).cell? ⟨w.heap.size, 0, none⟩ = some (.string s) := by simp [go_sem]
 have hcell2 : ((w.alloc (.cells #[.string s] 9)).alloc (.cells #[.int .i64 f] 3)).cell? ⟨w.heap.size + 1, 0, none⟩ = some (.int .i64 f) := by simp [go_sem]
 have hlt : w.heap.size < ((w.alloc (.cells #[.string s] 9)).alloc (.cells #[.int .i64 f] 3)).heap.size := by simp <;> omega
 have hlt2 : w.heap.size + 1 < ((w.alloc (.cells #[.string s] 9)).alloc (.cells #[.int .i64 f] 3)).heap.size := by simp
 have hv0 := var_keep b0 hv
 have C : Hid (Calls Tryz.prog 101 #[.func (Fn.func 106) #[] #[.pointer (some ⟨w.heap.size, 0, none⟩), .pointer (some ⟨w.heap.size + 1, 0, none⟩)]] ((w.alloc (.cells #[.string s] 9)).alloc (.cells #[.int .i64 f] 3)) fun e w' => e = .returned (.tuple #[.int .i64 (Yr.to s.data.toList f).1, .int .i64 (Yr.to s.data.toList f).2]) ∧ Below ((w.alloc (.cells #[.string s] 9)).alloc (.cells #[.int .i64 f] 3)).heap.size ((w.alloc (.cells #[.string s] 9)).alloc (.cells #[.int .i64 f] 3)) w') := by
  by_cases hq : (Yr.to s.data.toList f).2 = 0
  ·
   rw [hq]
   exact icaught_yes 106 #[.pointer (some ⟨w.heap.size, 0, none⟩), .pointer (some ⟨w.heap.size + 1, 0, none⟩)] (fun _ => rfl) _ _ (fun W hW => yto1_yes s f _ W w.heap.size (w.heap.size + 1) ((hW.cell hlt).trans hcell) ((hW.cell hlt2).trans hcell2) hs tp p (var_keep hW hv0) (Prod.ext rfl hq))
  ·
   rw [Yr.to_zero hq]
   exact icaught_no 106 #[.pointer (some ⟨w.heap.size, 0, none⟩), .pointer (some ⟨w.heap.size + 1, 0, none⟩)] (fun _ => rfl) 0 _ _ (fun W hW => yto1_no s f _ W w.heap.size (w.heap.size + 1) ((hW.cell hlt).trans hcell) ((hW.cell hlt2).trans hcell2) hs tp p (var_keep hW hv0) rfl hq)
 generalize (Yr.to s.data.toList f).1 = x at C ⊢
 generalize (Yr.to s.data.toList f).2 = q at C ⊢
 clear hv0 hcell hlt hv hcell2 hlt2
 go_enter Tryz.func67, Tryz.ntmps67
 go_wp2_with fail
 refine C.out.mono ?_; rintro e w1 ⟨rfl, b1⟩
 have B1 := Lib.hid (below_step b0 (b1.mono (Nat.le_refl _)))
 clear b0 b1
 go_wp2_with fail
 go_ret2
 exact ⟨rfl, B1.out⟩
namespace Yr
def tI (n : Int) : ByteArray := ⟨(Lib.itoa n).toArray⟩
def ft (y : Int) : ByteArray × Int := if inY y then (if y = -32767 then (⟨#[109, 105, 110]⟩, 0) else (tI y, 0)) else (⟨#[]⟩, 1)
def tt (f y : Int) : ByteArray × Int := if inY y then (if y < f then (⟨#[]⟩, 14) else if y = f then (⟨#[111, 110, 108, 121]⟩, 0) else if y = 32767 then (⟨#[109, 97, 120]⟩, 0) else (tI y, 0)) else (⟨#[]⟩, 1)
end Yr
set_option maxHeartbeats 1000000 in
theorem yft_any (y : Int) (w : World) (y0 : -9223372036854775808 ≤ y) (y1 : y ≤ 9223372036854775807) (htab : Lib.TabIs Tryz.prog w "internal/strconv.uint64pow10" .u64 Lib.pow10Tab) :
  Calls Tryz.prog 18 #[.int .i64 y] w fun e w' => e = .returned (.tuple #[.string (Yr.ft y).1, .int .i64 (Yr.ft y).2]) ∧ Below w.heap.size w w' := by
 have CT : Hid (Calls Tryz.prog 52 #[.int .i64 y] w fun e w' => e = .returned (.string (Yr.tI y)) ∧ Below w.heap.size w w') := text_any y w y0 y1 htab
 clear htab
 have CI := Lib.hid (fun W => yin_any y W)
 unfold Yr.ft
 cases hi : Yr.inY y
 ·
  rw [hi] at CI
  simp only [Bool.false_eq_true, if_false]
  go_enter Tryz.func18, Tryz.ntmps18
  go_wp2_with fail
  refine (CI.out _).mono ?_; rintro e v1 ⟨rfl, rfl⟩
  go_wp2_with fail
  go_ret2
  exact ⟨rfl, gr0⟩
 ·
  rw [hi] at CI
  simp only [if_true]
  by_cases h1 : y = -32767
  ·
   subst h1
   rw [if_pos rfl]
   go_enter Tryz.func18, Tryz.ntmps18
   go_wp2_with fail
   refine (CI.out _).mono ?_; rintro e v1 ⟨rfl, rfl⟩
   go_wp2_with fail
   go_ret2
   exact ⟨rfl, gr0⟩
  ·
   rw [if_neg h1]
   have g1 : (y == -32767) = false := beq_eq_false_iff_ne.2 h1
   clear h1
   generalize Yr.tI y = T at CT ⊢
   go_enter Tryz.func18, Tryz.ntmps18
   go_wp2_with fail
   refine (CI.out _).mono ?_; rintro e v1 ⟨rfl, rfl⟩
   go_wp2_with fail
   refine (CT.out).mono ?_; rintro e w1 ⟨rfl, b1⟩
   have d1 : Below w.heap.size w w1 := below_step gr0 b1
   have B1 := Lib.hid d1
   clear b1 d1
   go_wp2_with fail
   go_ret2
   exact ⟨rfl, (grB B1)⟩
set_option maxHeartbeats 1000000 in
theorem ytt_any (f y : Int) (w : World) (y0 : -9223372036854775808 ≤ y) (y1 : y ≤ 9223372036854775807) (htab : Lib.TabIs Tryz.prog w "internal/strconv.uint64pow10" .u64 Lib.pow10Tab) :
  Calls Tryz.prog 19 #[.int .i64 f, .int .i64 y] w fun e w' => e = .returned (.tuple #[.string (Yr.tt f y).1, .int .i64 (Yr.tt f y).2]) ∧ Below w.heap.size w w' := by
 have CT : Hid (Calls Tryz.prog 52 #[.int .i64 y] w fun e w' => e = .returned (.string (Yr.tI y)) ∧ Below w.heap.size w w') := text_any y w y0 y1 htab
 clear htab
 have CI := Lib.hid (fun W => yin_any y W)
 unfold Yr.tt
 cases hi : Yr.inY y
 ·
  rw [hi] at CI
  simp only [Bool.false_eq_true, if_false]
  go_enter Tryz.func19, Tryz.ntmps19
  go_wp2_with fail
  refine (CI.out _).mono ?_; rintro e v1 ⟨rfl, rfl⟩
  go_wp2_with fail
  go_ret2
  exact ⟨rfl, gr0⟩
 ·
  rw [hi] at CI
  simp only [if_true]
  by_cases h0 : y < f
  ·
   rw [if_pos h0]
   go_enter Tryz.func19, Tryz.ntmps19
   go_wp2_with fail
   refine (CI.out _).mono ?_; rintro e v1 ⟨rfl, rfl⟩
   go_wp2_with fail
   go_ret2
   exact ⟨rfl, gr0⟩
  rw [if_neg h0]
  by_cases h1 : y = f
  ·
   subst h1
   rw [if_pos rfl]
   go_enter Tryz.func19, Tryz.ntmps19
   go_wp2_with fail
   refine (CI.out _).mono ?_; rintro e v1 ⟨rfl, rfl⟩
   go_wp2_with fail
   go_ret2
   exact ⟨rfl, gr0⟩
  rw [if_neg h1]
  have g1 : (y == f) = false := beq_eq_false_iff_ne.2 h1
  by_cases h2 : y = 32767
  ·
   subst h2
   rw [if_pos rfl]
   clear h1
   go_enter Tryz.func19, Tryz.ntmps19
   go_wp2_with fail
   refine (CI.out _).mono ?_; rintro e v1 ⟨rfl, rfl⟩
   go_wp2_with fail
   go_ret2
   exact ⟨rfl, gr0⟩
  ·
   rw [if_neg h2]
   have g2 : (y == 32767) = false := beq_eq_false_iff_ne.2 h2
   clear h1 h2
   generalize Yr.tI y = T at CT ⊢
   go_enter Tryz.func19, Tryz.ntmps19
   go_wp2_with fail
   refine (CI.out _).mono ?_; rintro e v1 ⟨rfl, rfl⟩
   go_wp2_with fail
   refine (CT.out).mono ?_; rintro e w1 ⟨rfl, b1⟩
   have d1 : Below w.heap.size w w1 := below_step gr0 b1
   have B1 := Lib.hid d1
   clear b1 d1
   go_wp2_with fail
   go_ret2
   exact ⟨rfl, (grB B1)⟩
namespace Wd
def months : List ByteArray := [⟨#[74, 97, 110, 117, 97, 114, 121]⟩, ⟨#[70, 101, 98, 114, 117, 97, 114, 121]⟩, ⟨#[77, 97, 114, 99, 104]⟩, ⟨#[65, 112, 114, 105, 108]⟩, ⟨#[77, 97, 121]⟩, ⟨#[74, 117, 110, 101]⟩, ⟨#[74, 117, 108, 121]⟩, ⟨#[65, 117, 103, 117, 115, 116]⟩, ⟨#[83, 101, 112, 116, 101, 109, 98, 101, 114]⟩, ⟨#[79, 99, 116, 111, 98, 101, 114]⟩, ⟨#[78, 111, 118, 101, 109, 98, 101, 114]⟩, ⟨#[68, 101, 99, 101, 109, 98, 101, 114]⟩]
structure Tabs (w : World) : Prop where
 m0 : w.cell? ⟨0, 0, none⟩ = some (.string ⟨#[74, 97, 110, 117, 97, 114, 121]⟩)
 m1 : w.cell? ⟨0, 1, none⟩ = some (.string ⟨#[70, 101, 98, 114, 117, 97, 114, 121]⟩)
 m2 : w.cell? ⟨0, 2, none⟩ = some (.string ⟨#[77, 97, 114, 99, 104]⟩)
 m3 : w.cell? ⟨0, 3, none⟩ = some (.string ⟨#[65, 112, 114, 105, 108]⟩)
 m4 : w.cell? ⟨0, 4, none⟩ = some (.string ⟨#[77, 97, 121]⟩)
 m5 : w.cell? ⟨0, 5, none⟩ = some (.string ⟨#[74, 117, 110, 101]⟩)
 m6 : w.cell? ⟨0, 6, none⟩ = some (.string ⟨#[74, 117, 108, 121]⟩)
 m7 : w.cell? ⟨0, 7, none⟩ = some (.string ⟨#[65, 117, 103, 117, 115, 116]⟩)
 m8 : w.cell? ⟨0, 8, none⟩ = some (.string ⟨#[83, 101, 112, 116, 101, 109, 98, 101, 114]⟩)
 m9 : w.cell? ⟨0, 9, none⟩ = some (.string ⟨#[79, 99, 116, 111, 98, 101, 114]⟩)
 m10 : w.cell? ⟨0, 10, none⟩ = some (.string ⟨#[78, 111, 118, 101, 109, 98, 101, 114]⟩)
 m11 : w.cell? ⟨0, 11, none⟩ = some (.string ⟨#[68, 101, 99, 101, 109, 98, 101, 114]⟩)
 d0 : w.cell? ⟨2, 0, none⟩ = some (.string ⟨#[83, 117, 110, 100, 97, 121]⟩)
 d1 : w.cell? ⟨2, 1, none⟩ = some (.string ⟨#[77, 111, 110, 100, 97, 121]⟩)
 d2 : w.cell? ⟨2, 2, none⟩ = some (.string ⟨#[84, 117, 101, 115, 100, 97, 121]⟩)
 d3 : w.cell? ⟨2, 3, none⟩ = some (.string ⟨#[87, 101, 100, 110, 101, 115, 100, 97, 121]⟩)
 d4 : w.cell? ⟨2, 4, none⟩ = some (.string ⟨#[84, 104, 117, 114, 115, 100, 97, 121]⟩)
 d5 : w.cell? ⟨2, 5, none⟩ = some (.string ⟨#[70, 114, 105, 100, 97, 121]⟩)
 d6 : w.cell? ⟨2, 6, none⟩ = some (.string ⟨#[83, 97, 116, 117, 114, 100, 97, 121]⟩)
theorem Tabs.on {w w' : World} (h : Tabs w) (k : Below w.heap.size w w') : Tabs w' := ⟨(k.cell (World.block_lt_of_cell? _ _ h.m0)).trans h.m0, (k.cell (World.block_lt_of_cell? _ _ h.m1)).trans h.m1, (k.cell (World.block_lt_of_cell? _ _ h.m2)).trans h.m2, (k.cell (World.block_lt_of_cell? _ _ h.m3)).trans h.m3, (k.cell (World.block_lt_of_cell? _ _ h.m4)).trans h.m4, (k.cell (World.block_lt_of_cell? _ _ h.m5)).trans h.m5, (k.cell (World.block_lt_of_cell? _ _ h.m6)).trans h.m6, (k.cell (World.block_lt_of_cell? _ _ h.m7)).trans h.m7, (k.cell (World.block_lt_of_cell? _ _ h.m8)).trans h.m8, (k.cell (World.block_lt_of_cell? _ _ h.m9)).trans h.m9, (k.cell (World.block_lt_of_cell? _ _ h.m10)).trans h.m10, (k.cell (World.block_lt_of_cell? _ _ h.m11)).trans h.m11, (k.cell (World.block_lt_of_cell? _ _ h.d0)).trans h.d0, (k.cell (World.block_lt_of_cell? _ _ h.d1)).trans h.d1, (k.cell (World.block_lt_of_cell? _ _ h.d2)).trans h.d2, (k.cell (World.block_lt_of_cell? _ _ h.d3)).trans h.d3, (k.cell (World.block_lt_of_cell? _ _ h.d4)).trans h.d4, (k.cell (World.block_lt_of_cell? _ _ h.d5)).trans h.d5, (k.cell (World.block_lt_of_cell? _ _ h.d6)).trans h.d6⟩
end Wd
set_option maxHeartbeats 2000000 in
set_option maxRecDepth 100000 in
theorem month_any (s : ByteArray) (w : World) (hs : s.size ≤ maxLen) (T : Wd.Tabs w) :
  Calls Tryz.prog 68 #[.string s] w fun e w' => e = .returned (.tuple #[.int .i64 (Wd.up (Wd.mat s.data.toList Wd.months)), .int .i64 (Wd.mat s.data.toList Wd.months).2]) ∧ Below w.heap.size w w' := by
 have t_m0 := T.m0
 have t_m1 := T.m1
 have t_m2 := T.m2
 have t_m3 := T.m3
 have t_m4 := T.m4
 have t_m5 := T.m5
 have t_m6 := T.m6
 have t_m7 := T.m7
 have t_m8 := T.m8
 have t_m9 := T.m9
 have t_m10 := T.m10
 have t_m11 := T.m11
 have SZ : ∀ x ∈ Wd.months, x.size ≤ maxLen := by unfold Wd.months maxLen; intro x hx; simp at hx; rcases hx with rfl | rfl | rfl | rfl | rfl | rfl | rfl | rfl | rfl | rfl | rfl | rfl <;> decide
 have ST : StS (w.alloc (.cells #[.string ⟨#[74, 97, 110, 117, 97, 114, 121]⟩, .string ⟨#[70, 101, 98, 114, 117, 97, 114, 121]⟩, .string ⟨#[77, 97, 114, 99, 104]⟩, .string ⟨#[65, 112, 114, 105, 108]⟩, .string ⟨#[77, 97, 121]⟩, .string ⟨#[74, 117, 110, 101]⟩, .string ⟨#[74, 117, 108, 121]⟩, .string ⟨#[65, 117, 103, 117, 115, 116]⟩, .string ⟨#[83, 101, 112, 116, 101, 109, 98, 101, 114]⟩, .string ⟨#[79, 99, 116, 111, 98, 101, 114]⟩, .string ⟨#[78, 111, 118, 101, 109, 98, 101, 114]⟩, .string ⟨#[68, 101, 99, 101, 109, 98, 101, 114]⟩] 93)) (.slice (some ⟨w.heap.size, 0, none⟩) 12 12) Wd.months :=
  ⟨_, _, rfl, fun _ => ⟨_, rfl, by simp, by
   intro j u hj
   have hl : j < 12 := by
    have := (List.getElem?_eq_some_iff.1 hj).1
    simpa [Wd.months] using this
   obtain rfl | rfl | rfl | rfl | rfl | rfl | rfl | rfl | rfl | rfl | rfl | rfl : j = 0 ∨ j = 1 ∨ j = 2 ∨ j = 3 ∨ j = 4 ∨ j = 5 ∨ j = 6 ∨ j = 7 ∨ j = 8 ∨ j = 9 ∨ j = 10 ∨ j = 11 := by omega
   all_goals (simp [Wd.months] at hj; subst hj; simp [Addr.add, go_sem])⟩⟩
 have HS := Lib.hid ST; clear ST
 have HM := Lib.hid (fun W (h : StS W (.slice (some ⟨w.heap.size, 0, none⟩) 12 12) Wd.months) => match_any s _ Wd.months W h hs SZ (by unfold maxLen; decide))
 have bd := Wd.mat_bd s.data.toList Wd.months
 have ln : Wd.months.length = 12 := rfl
 rw [ln] at bd
 clear SZ T ln
 generalize Wd.mat s.data.toList Wd.months = ans at HM bd ⊢
 obtain ⟨p, q⟩ := ans
 dsimp only at HM bd ⊢
 obtain ⟨p0, p1, hq⟩ := bd
 unfold Wd.up
 rcases hq with rfl | ⟨rfl, rfl⟩
 ·
  go_enter Tryz.func68, Tryz.ntmps68
  go_wp2_with fail
  refine (HM.out _ HS.out).mono ?_; rintro e w1 ⟨rfl, j, rfl⟩
  go_wp2_with fail
  go_ret2
  exact ⟨rfl, below_drewN ((Below.refl _ _).alloc (Nat.le_refl _) _) _⟩
 ·
  go_enter Tryz.func68, Tryz.ntmps68
  go_wp2_with fail
  refine (HM.out _ HS.out).mono ?_; rintro e w1 ⟨rfl, j, rfl⟩
  go_wp2_with fail
  go_ret2
  exact ⟨rfl, below_drewN ((Below.refl _ _).alloc (Nat.le_refl _) _) _⟩
set_option maxHeartbeats 4000000 in
set_option maxRecDepth 100000 in
theorem mtext_any (n : Int) (w : World) (T : Wd.Tabs w) :
  Calls Tryz.prog 20 #[.int .i64 n] w fun e w' => e = .returned (.string (Wd.t3 Wd.months (n - 1))) ∧ Below w.heap.size w w' := by
 by_cases h : 1 ≤ n ∧ n ≤ 12
 ·
  obtain rfl | rfl | rfl | rfl | rfl | rfl | rfl | rfl | rfl | rfl | rfl | rfl : n = 1 ∨ n = 2 ∨ n = 3 ∨ n = 4 ∨ n = 5 ∨ n = 6 ∨ n = 7 ∨ n = 8 ∨ n = 9 ∨ n = 10 ∨ n = 11 ∨ n = 12 := by omega
  ·
   have t := T.m0
   clear T
   go_enter Tryz.func20, Tryz.ntmps20
   go_wp2
   go_ret
   exact ⟨rfl, Below.refl _ _⟩
  ·
   have t := T.m1
   clear T
   go_enter Tryz.func20, Tryz.ntmps20
   go_wp2
   go_ret
   exact ⟨rfl, Below.refl _ _⟩
  ·
   have t := T.m2
   clear T
   go_enter Tryz.func20, Tryz.ntmps20
   go_wp2
   go_ret
   exact ⟨rfl, Below.refl _ _⟩
  ·
   have t := T.m3
   clear T
   go_enter Tryz.func20, Tryz.ntmps20
   go_wp2
   go_ret
   exact ⟨rfl, Below.refl _ _⟩
  ·
   have t := T.m4
   clear T
   go_enter Tryz.func20, Tryz.ntmps20
   go_wp2
   go_ret
   exact ⟨rfl, Below.refl _ _⟩
  ·
   have t := T.m5
   clear T
   go_enter Tryz.func20, Tryz.ntmps20
   go_wp2
   go_ret
   exact ⟨rfl, Below.refl _ _⟩
  ·
   have t := T.m6
   clear T
   go_enter Tryz.func20, Tryz.ntmps20
   go_wp2
   go_ret
   exact ⟨rfl, Below.refl _ _⟩
  ·
   have t := T.m7
   clear T
   go_enter Tryz.func20, Tryz.ntmps20
   go_wp2
   go_ret
   exact ⟨rfl, Below.refl _ _⟩
  ·
   have t := T.m8
   clear T
   go_enter Tryz.func20, Tryz.ntmps20
   go_wp2
   go_ret
   exact ⟨rfl, Below.refl _ _⟩
  ·
   have t := T.m9
   clear T
   go_enter Tryz.func20, Tryz.ntmps20
   go_wp2
   go_ret
   exact ⟨rfl, Below.refl _ _⟩
  ·
   have t := T.m10
   clear T
   go_enter Tryz.func20, Tryz.ntmps20
   go_wp2
   go_ret
   exact ⟨rfl, Below.refl _ _⟩
  ·
   have t := T.m11
   clear T
   go_enter Tryz.func20, Tryz.ntmps20
   go_wp2
   go_ret
   exact ⟨rfl, Below.refl _ _⟩
 ·
  rw [show Wd.t3 Wd.months (n - 1) = ByteArray.empty by unfold Wd.t3; rw [if_neg]; rw [show (Wd.months.length : Int) = 12 from rfl]; omega]
  clear T
  by_cases c1 : n < 1
  ·
   go_enter Tryz.func20, Tryz.ntmps20
   go_wp2
   go_ret
   exact ⟨rfl, Below.refl _ _⟩
  ·
   have c2 : 12 < n := by omega
   go_enter Tryz.func20, Tryz.ntmps20
   go_wp2
   go_ret
   exact ⟨rfl, Below.refl _ _⟩
end Go.Proofs.YtjggjkeopbcmoaaGreatDoor

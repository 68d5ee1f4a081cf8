/- Joined: Sl, LpT, Qt, LpA. -/
import Derived.Test.YtifgiclnofdnkaaGreatDoorBy03
import Derived.OwnWalk
import Derived.Laws.OwnMore
import Derived.Deep.AppendLies
import Derived.Deep.Draws
import Derived.Test.YtifgiclnofdnkaaGreatDoorBy01
import Derived.StillTail
import Derived.Lib.QuietBelow
set_option linter.unusedVariables false
set_option linter.unusedSimpArgs false
namespace Go.Proofs.YtifgiclnofdnkaaGreatDoor
open Go.RowKit Go.Sort
theorem blk_add (a : Addr) (j : Nat) : (a.add j).block = a.block := by unfold Addr.add; split <;> rfl
theorem add_two (a : Addr) (i j : Nat) : (a.add i).add j = a.add (i + j) := by
 unfold Addr.add
 by_cases hi : i = 0 <;> by_cases hj : j = 0 <;> simp [hi, hj, Nat.add_assoc]
def Lst (w : World) (B : Nat) (v : Value) (n : Nat) (xs : List Value) : Prop :=
 ∃ A c, v = .slice A n c ∧ (0 < n → ∃ a, A = some a ∧ a.block < B ∧ ∀ (j : Nat) (u : Value), xs[j]? = some u → w.cell? (a.add j) = some u)
theorem Lst.nil (w : World) (B : Nat) : Lst w B (.slice none 0 0) 0 [] := ⟨none, 0, rfl, fun h => absurd h (by omega)⟩
theorem Lst.keep {w w' : World} {B : Nat} {v : Value} {n : Nat} {xs : List Value} (h : Lst w B v n xs) (k : ∀ p : Addr, p.block < B → w'.cell? p = w.cell? p) : Lst w' B v n xs := by
 obtain ⟨A, c, hv, ha⟩ := h
 refine ⟨A, c, hv, fun hn => ?_⟩
 obtain ⟨a, e, hb, hc⟩ := ha hn
 exact ⟨a, e, hb, fun j u hu => (k _ (by rw [blk_add]; exact hb)).trans (hc j u hu)⟩
theorem Lst.more {w : World} {B B' : Nat} {v : Value} {n : Nat} {xs : List Value} (h : Lst w B v n xs) (k : B ≤ B') : Lst w B' v n xs := by
 obtain ⟨A, c, hv, ha⟩ := h
 refine ⟨A, c, hv, fun hn => ?_⟩
 obtain ⟨a, e, hb, hc⟩ := ha hn
 exact ⟨a, e, Nat.lt_of_lt_of_le hb k, hc⟩
theorem Lst.below {w w' : World} {B : Nat} {v : Value} {n : Nat} {xs : List Value} (h : Lst w B v n xs) (k : Below B w w') : Lst w' B v n xs := h.keep fun _ hp => k.cell hp
theorem Lst.on {w w' : World} {v : Value} {n : Nat} {xs : List Value} (h : Lst w w.heap.size v n xs) (k : Below w.heap.size w w') : Lst w' w'.heap.size v n xs := (h.below k).more k.size
theorem Lst.drewN {w : World} {B : Nat} {v : Value} {n : Nat} {xs : List Value} (h : Lst w B v n xs) (k : Nat) : Lst (w.drewN k) B v n xs := h
theorem Lst.own {w : World} {base : Nat} {e : TypeId} {size : Nat} {v : Value} {n : Nat} {xs : List Value} (h : w.ownsRow base e size v n xs) : Lst w w.heap.size v n xs := by
 rcases Nat.eq_zero_or_pos n with h0 | h0
 ·
  have hx : xs = [] := by
   have := h.1
   rw [h0, Nat.zero_mul] at this
   exact List.eq_nil_of_length_eq_zero this
  rcases h.2 with ⟨hv, _⟩ | ⟨g, cap, cur, hv, _⟩
  ·
   exact ⟨none, 0, by rw [h0]; exact hv, fun hh => absurd hh (by omega)⟩
  ·
   exact ⟨_, _, hv, fun hh => absurd hh (by omega)⟩
 ·
  obtain ⟨g, cap, hv, _, hlt⟩ := h.form h0
  exact ⟨_, _, hv, fun _ => ⟨_, rfl, hlt, h.cells (g := g) (by rw [hv]; rfl)⟩⟩
theorem below_grown {w w' : World} {row : Option Nat} {B : Nat} (h : w.grownBy w' row) (hB : B ≤ w.heap.size) (hr : ∀ g, row = some g → B ≤ g) : Below B w w' :=
 ⟨h.os, h.tape, h.output, h.size, fun i hi => h.block i (by omega) (fun e => by have := hr _ e.symm; omega)⟩
theorem grown_below {w w' : World} (h : Below w.heap.size w w') (row : Option Nat) : w.grownBy w' row := ⟨h.os, h.tape, h.output, h.size, fun i hi _ => h.block i hi⟩
theorem own_on {w w' : World} {base : Nat} {e : TypeId} {size : Nat} {v : Value} {n : Nat} {xs : List Value} (h : w.ownsRow base e size v n xs) (k : Below w.heap.size w w') : w'.ownsRow base e size v n xs :=
 h.kept (grown_below k none) (by
  cases hv : v.ownBlock
  ·
   exact .inl rfl
  ·
   exact .inr (by simp))
theorem own_row {w : World} {base : Nat} {e : TypeId} {size : Nat} {v : Value} {n : Nat} {xs : List Value} (h : w.ownsRow base e size v n xs) : ∀ g, v.ownBlock = some g → base ≤ g := fun g hg => (h.lt g hg).1
def spc (l : List (Int × Int)) : List Value := l.flatMap fun p => [.int .i64 p.1, .int .i64 p.2]
theorem spc_app (l k : List (Int × Int)) : spc (l ++ k) = spc l ++ spc k := by unfold spc; rw [List.flatMap_append]
theorem spc_at (l : List (Int × Int)) (k : Nat) (h : k < l.length) : (spc l)[k * 2]? = some (.int .i64 l[k].1) ∧ (spc l)[k * 2 + 1]? = some (.int .i64 l[k].2) := by
 induction l generalizing k with
 | nil => exact absurd h (by simp)
 | cons p l ih =>
  cases k with
  | zero => exact ⟨rfl, rfl⟩
  | succ k =>
   have := ih k (by simpa using h)
   have e : spc (p :: l) = .int .i64 p.1 :: .int .i64 p.2 :: spc l := rfl
   rw [e]
   rw [show (k + 1) * 2 = k * 2 + 1 + 1 by omega]
   simpa using this
def SpV (w : World) (v : Value) (l : List (Int × Int)) : Prop := Lst w w.heap.size v l.length (spc l)
theorem SpV.on {w w' : World} {v : Value} {l : List (Int × Int)} (h : SpV w v l) (k : Below w.heap.size w w') : SpV w' v l := Lst.on h k
theorem SpV.own {w : World} {base : Nat} {e : TypeId} {v : Value} {l : List (Int × Int)} (h : w.ownsRow base e 2 v l.length (spc l)) : SpV w v l := Lst.own h
theorem SpV.at_ {w : World} {v : Value} {l : List (Int × Int)} (h : SpV w v l) (k : Nat) (hk : k < l.length) : ∃ a c, v = .slice (some a) l.length c ∧ a.block < w.heap.size ∧ w.cell? (a.add (k * 2)) = some (.int .i64 l[k].1) ∧ w.cell? (a.add (k * 2 + 1)) = some (.int .i64 l[k].2) := by
 obtain ⟨A, c, hv, ha⟩ := h
 obtain ⟨a, e, hb, hc⟩ := ha (by omega)
 obtain ⟨h1, h2⟩ := spc_at l k hk
 exact ⟨a, c, by rw [hv, e], hb, hc _ _ h1, hc _ _ h2⟩
theorem SpV.get {w : World} {A : Option Addr} {n c : Nat} {l : List (Int × Int)} (h : SpV w (.slice A n c) l) (k : Nat) (hk : k < l.length) : ∃ a, A = some a ∧ a.block < w.heap.size ∧ w.cell? (a.add (k * 2)) = some (.int .i64 l[k].1) ∧ w.cell? ⟨(a.add (k * 2)).block, (a.add (k * 2)).off + 1, none⟩ = some (.int .i64 l[k].2) := by
 obtain ⟨a, c', hv, r⟩ := h.at_ k hk
 cases hv
 refine ⟨a, rfl, r.1, r.2.1, ?_⟩
 have e : (⟨(a.add (k * 2)).block, (a.add (k * 2)).off + 1, none⟩ : Addr) = a.add (k * 2 + 1) := by rw [← add_two]; rfl
 rw [e]
 exact r.2.2
theorem SpV.len {w : World} {A : Option Addr} {n c : Nat} {l : List (Int × Int)} (h : SpV w (.slice A n c) l) : n = l.length := by
 obtain ⟨A', c', hv, _⟩ := h
 cases hv
 rfl
end Go.Proofs.YtifgiclnofdnkaaGreatDoor
set_option linter.unusedVariables false
set_option linter.unusedSimpArgs false
namespace Go.Proofs.YtifgiclnofdnkaaGreatDoor
theorem spv_take {w : World} {A : Option Addr} {n c : Nat} {l : List (Int × Int)} (h : SpV w (.slice A n c) l) (k : Nat) (hk : k ≤ l.length) (c' : Nat) : SpV w (.slice A k c') (l.take k) := by
 obtain ⟨A', c2, hv, ha⟩ := h
 cases hv
 have hl : (l.take k).length = k := by rw [List.length_take]; omega
 refine ⟨A, c', by rw [hl], fun hn => ?_⟩
 rw [hl] at hn
 obtain ⟨a, e, hb, hc⟩ := ha (by omega)
 refine ⟨a, e, hb, fun j u hu => hc j u ?_⟩
 have e2 : spc l = spc (l.take k) ++ spc (l.drop k) := by rw [← spc_app, List.take_append_drop]
 have hj := (List.getElem?_eq_some_iff.1 hu).1
 rw [e2, List.getElem?_append_left hj]
 exact hu
namespace Lp
def gap : Option Int → Int → Bool
 | none, _ => true
 | some t, x => decide (2419200 ≤ x - t)
def sc : Option Int → List X → Bool
 | _, [] => true
 | o, x :: r => decide (ok1 x) && gap o x.1 && sc (some x.1) r
theorem sc_drop (o : Option Int) (l : List X) (k : Nat) (h : k < l.length) : sc o (l.drop k) = (decide (ok1 l[k]) && gap o l[k].1 && sc (some l[k].1) (l.drop (k + 1))) := by
 rw [List.drop_eq_getElem_cons h]; rfl
theorem sc_cs (t : Int) (x : X) (r : List X) : sc (some t) (x :: r) = (decide (ok1 x) && decide (2419200 ≤ x.1 - t) && sc (some x.1) r) := rfl
theorem sc_cn (x : X) (r : List X) : sc none (x :: r) = (decide (ok1 x) && true && sc (some x.1) r) := rfl
theorem sc_some : ∀ (l : List X) (x : X), sc (some x.1) l = (l.all (fun x => decide (ok1 x)) && far (x :: l))
 | [], x => rfl
 | y :: r, x => by
  rw [sc_cs, sc_some r y, List.all_cons]
  have e : far (x :: y :: r) = (decide (2419200 ≤ y.1 - x.1) && far (y :: r)) := rfl
  rw [e]
  cases decide (ok1 y) <;> cases decide (2419200 ≤ y.1 - x.1) <;> cases (r.all fun x => decide (ok1 x)) <;> rfl
theorem sc_none (l : List X) : sc none l = (l.all (fun x => decide (ok1 x)) && far l) := by
 cases l with
 | nil => rfl
 | cons x r =>
  rw [sc_cn, sc_some r x, List.all_cons]
  cases decide (ok1 x) <;> simp
theorem right_sc (l : List X) : right l = (decide (l.length ≤ 1000) && sc none l) := by
 rw [sc_none]
 unfold right
 rw [Bool.and_assoc]
theorem right_of {l : List X} (h : right l = true) : l.length ≤ 1000 ∧ (∀ x ∈ l, ok1 x) ∧ far l = true := by
 unfold right at h
 simp only [Bool.and_eq_true, decide_eq_true_eq, List.all_eq_true] at h
 exact ⟨h.1.1, h.1.2, h.2⟩
end Lp
end Go.Proofs.YtifgiclnofdnkaaGreatDoor
set_option linter.unusedVariables false
set_option linter.unusedSimpArgs false
namespace Go.Proofs.YtifgiclnofdnkaaGreatDoor
open Go Go.RowKit Go.Sort
section
variable {P : Program} {ops : Array Oper} {md : Region.Mode} {C : World → Prop}
/-! A region that draws, one of whose calls panics: all that does not wait for it reads and calls. -/
def PanAt (P : Program) (C : World → Prop) (ch : List PanicEntry) (w : World) : Result Next → Prop
 | .ok (.enter f args) w' => w' = w ∧ Calls P f args w (fun e w'' => e = .panicked ch ∧ C w'')
 | _ => False
def PanicsIn (P : Program) (ops : Array Oper) (C : World → Prop) (ch : List PanicEntry) (o : Oper) (a : Act) : Prop :=
 Region.wanted o (yielded ops a.tmps) = true ∧ ∀ w, C w → PanAt P C ch w ((execOp a.eval o).run P w)
theorem PanicsIn.wp {o : Oper} {ch : List PanicEntry} {a : Act} {K : Act → World → Prop} {Q : Exit → Act → World → Prop} {w : World} (hC : C w) (hQ : ∀ w, C w → Q (.panic ch) a w) (h : PanicsIn P ops C ch o a) : o.wp P a w K Q := by
 have h3 := h.2 w hC
 unfold Oper.wp
 generalize (execOp a.eval o).run P w = r at *
 cases r with
 | ok n w' =>
  cases n <;> simp only [PanAt] at h3
  case enter f args =>
   obtain ⟨e1, hc⟩ := h3
   rw [e1]
   exact hc.mono fun e w'' ⟨he, hw''⟩ => by subst he; exact hQ _ hw''
 | halt x w' => simp only [PanAt] at h3
end
end Go.Proofs.YtifgiclnofdnkaaGreatDoor
set_option linter.unusedVariables false
set_option linter.unusedSimpArgs false
namespace Go.Proofs.YtifgiclnofdnkaaGreatDoor
open Go.RowKit Go.Sort
theorem lsec_yes (t : Int) (w : World) (h1 : -1096193779200 ≤ t) (h2 : t ≤ 971890963199) : Calls Tryz.prog 17 #[.int .i64 t] w fun e w' => e = .returned (.bool true) ∧ w = w' := by
 go_enter Tryz.func17, Tryz.ntmps17
 go_wp2_with fail
 go_ret
 exact ⟨rfl, rfl⟩
theorem lsec_no (t : Int) (w : World) (h : ¬ (-1096193779200 ≤ t ∧ t ≤ 971890963199)) : Calls Tryz.prog 17 #[.int .i64 t] w fun e w' => e = .returned (.bool false) ∧ w = w' := by
 by_cases h1 : -1096193779200 ≤ t
 ·
  have h2 : ¬ t ≤ 971890963199 := fun h2 => h ⟨h1, h2⟩
  clear h
  go_enter Tryz.func17, Tryz.ntmps17
  go_wp2_with fail
  go_ret
  exact ⟨rfl, rfl⟩
 ·
  clear h
  go_enter Tryz.func17, Tryz.ntmps17
  go_wp2_with fail
  go_ret
  exact ⟨rfl, rfl⟩
theorem lright1_any (x y : Int) (w : World) : Calls Tryz.prog 40 #[.agg #[.int .i64 x, .int .i64 y]] w fun e w' => e = .returned (.bool (decide (Lp.ok1 (x, y)))) ∧ Below w.heap.size w w' := by
 by_cases hs : -1096193779200 ≤ x ∧ x ≤ 971890963199
 ·
  have C := Lib.hid (fun W => lsec_yes x W hs.1 hs.2)
  by_cases h1 : y = 1
  ·
   subst h1
   rw [decide_eq_true (show Lp.ok1 (x, 1) from ⟨hs.1, hs.2, .inl rfl⟩)]
   clear hs
   go_enter Tryz.func40, Tryz.ntmps40
   go_wp2_with fail
   refine (C.out _).mono ?_; rintro e w1 ⟨rfl, rfl⟩
   go_wp2_with fail
   go_ret
   exact ⟨rfl, gr0⟩
  ·
   have e1 : (y == 1) = false := by simpa using h1
   by_cases h2 : y = -1
   ·
    subst h2
    rw [decide_eq_true (show Lp.ok1 (x, -1) from ⟨hs.1, hs.2, .inr rfl⟩)]
    clear hs h1 e1
    go_enter Tryz.func40, Tryz.ntmps40
    go_wp2_with fail
    refine (C.out _).mono ?_; rintro e w1 ⟨rfl, rfl⟩
    go_wp2_with fail
    go_ret
    exact ⟨rfl, gr0⟩
   ·
    have e2 : (y == -1) = false := by simpa using h2
    rw [decide_eq_false (show ¬ Lp.ok1 (x, y) from fun h => h.2.2.elim h1 h2)]
    clear hs
    go_enter Tryz.func40, Tryz.ntmps40
    go_wp2_with fail
    refine (C.out _).mono ?_; rintro e w1 ⟨rfl, rfl⟩
    go_wp2_with fail
    go_ret
    exact ⟨rfl, gr0⟩
 ·
  have C := Lib.hid (fun W => lsec_no x W hs)
  rw [decide_eq_false (show ¬ Lp.ok1 (x, y) from fun h => hs ⟨h.1, h.2.1⟩)]
  clear hs
  go_enter Tryz.func40, Tryz.ntmps40
  go_wp2_with fail
  refine (C.out _).mono ?_; rintro e w1 ⟨rfl, rfl⟩
  go_wp2_with fail
  go_ret
  exact ⟨rfl, gr0⟩
set_option maxHeartbeats 4000000 in
theorem leright_big (v : Value) (l : List Lp.X) (w : World) (h : SpV w v l) (hm : l.length ≤ 100000000) :
  Calls Tryz.prog 15 #[v] w fun e w' => e = .returned (.bool (Lp.right l)) ∧ Below w.heap.size w w' := by
 rw [Lp.right_sc]
 have H := Lib.hid h
 obtain ⟨A, c, rfl, -⟩ := h
 obtain ⟨n, hn⟩ : ∃ n, l.length = n := ⟨_, rfl⟩
 rw [hn] at hm H ⊢
 have HN := Lib.hid hn
 clear hn
 by_cases hbig : 1000 < n
 ·
  rw [decide_eq_false (by omega), Bool.false_and]
  have hb2 : (1000 : Int) < n := by omega
  go_enter Tryz.func15, Tryz.ntmps15
  go_wp2_with fail
  go_ret
  exact ⟨rfl, Below.refl _ _⟩
 rw [decide_eq_true (by omega), Bool.true_and]
 have hb2 : ¬ (1000 : Int) < n := by omega
 obtain ⟨ans, hans⟩ : ∃ ans, ans = Lp.sc none l := ⟨_, rfl⟩
 rw [← hans]
 have HA := Lib.hid hans.symm
 clear hans
 go_enter Tryz.func15, Tryz.ntmps15
 go_wp2
 go_loopw [10] (fun i wr => ∃ (k : Nat) (o : Option Int), k ≤ n ∧ i = .int .i64 k ∧ Below w.heap.size w wr ∧ Hid (Lp.sc o (l.drop k) = ans) ∧ Hid ((k = 0 ∧ o = none) ∨ ∃ h : k - 1 < l.length, 0 < k ∧ o = some l[k - 1].1 ∧ Lp.ok1 l[k - 1])) (fun i _ => n - (intOf i).toNat)
 case atStart => exact ⟨0, none, Nat.zero_le _, rfl, Below.refl _ _, HA, Lib.hid (.inl ⟨rfl, rfl⟩)⟩
 case round =>
  rename World => w1
  obtain ⟨k, o, hk, rfl, B, hinv, hprev⟩ := hrel
  have B1 := Lib.hid B
  have H1 := Lib.hid (H.out.on B)
  clear B
  by_cases hlt : k < n
  ·
   have hkl : k < l.length := by rw [HN.out]; exact hlt
   have hd := hinv.out
   rw [Lp.sc_drop o l k hkl] at hd
   have hd : (decide (Lp.ok1 (l[k].1, l[k].2)) && Lp.gap o l[k].1 && Lp.sc (some l[k].1) (l.drop (k + 1))) = ans := hd
   obtain ⟨a, rfl, hab, g1, g2⟩ := H1.out.get k hkl
   have NX := Lib.hid (show ∀ o, o = some l[k].1 → Lp.ok1 (l[k].1, l[k].2) → (k + 1 = 0 ∧ o = none) ∨ ∃ h : k + 1 - 1 < l.length, 0 < k + 1 ∧ o = some l[k + 1 - 1].1 ∧ Lp.ok1 l[k + 1 - 1] from fun o ho h1 => .inr ⟨hkl, by omega, ho, h1⟩)
   have HP : Hid (o = none ∧ k = 0 ∨ ∃ t j, o = some t ∧ k = j + 1 ∧ (-1096193779200 ≤ t ∧ t ≤ 971890963199) ∧ Hid (∀ W, Below w.heap.size w W → W.cell? (a.add (j * 2)) = some (.int .i64 t))) := Lib.hid (by
    rcases hprev.out with ⟨h0, h1⟩ | ⟨hp, h0, h1, h2⟩
    ·
     exact .inl ⟨h1, h0⟩
    ·
     refine .inr ⟨_, k - 1, h1, by omega, ⟨h2.1, h2.2.1⟩, Lib.hid fun W hW => ?_⟩
     obtain ⟨a', ha, -, q1, q2⟩ := (H.out.on hW).get (k - 1) hp
     cases ha
     exact q1)
   clear hinv hprev
   generalize l[k].1 = x at *
   generalize l[k].2 = y at *
   have i1 : (k : Int) < n := by omega
   have CR := Lib.hid (fun W => lright1_any x y W)
   by_cases hok : Lp.ok1 (x, y)
   case neg =>
    rw [decide_eq_false hok] at CR
    have EX := Lib.hid (show ans = false by rw [← hd, decide_eq_false hok]; rfl)
    clear hok
    clear hd HP
    go_wp2_with fail
    refine wp_named ?_; intro w2 hw2
    have d2 : Below w1.heap.size w1 w2 := by rw [hw2]; exact gr0
    have B2 := Lib.hid (below_step B1.out d2)
    have aP := B1.out.size
    have P2 : Bk2 w2 (w1.heap.size) (.int .i64 x) (.int .i64 y) := by rw [hw2]; exact ⟨by simp <;> omega, by intro j; simp [go_sem], by simp [go_sem], by simp [go_sem]⟩
    clear d2 hw2 B1
    have tx := P2; obtain ⟨cP_b, cP_f, cP_0, cP_1⟩ := tx
    go_wp2_with fail
    clear cP_b cP_f cP_0 cP_1
    have qP_0 := cell_regrown P2.k0
    have qP_1 := cell_regrown P2.k1
    refine wp_region_qb (w := w2) (by kernel_rfl) (by kernel_rfl) gr0 ?_
    repeat (any_goals (first | go_big_quiet_step (first | (go_at_call 40; exact Calls.regrown_of (CR.out _))) | quiet_step (first | (go_at_call 40; exact Calls.regrown_of (CR.out _)))))
    refine wpQuiet_nil ?_
    intro w3 hq
    have b3 : Below w2.heap.size w2 w3 := by obtain ⟨p, hq⟩ := hq; rw [hq]; exact below_regrown _ _ _
    clear hq qP_0 qP_1
    have d3 : Below w2.heap.size w2 w3 := below_step gr0 b3
    have B3 := Lib.hid (below_step B2.out d3)
    have P3 := P2.keep d3
    clear P2 b3 d3 B2
    go_wp2
    go_ret
    exact ⟨by rw [EX.out]; first | rfl | simp, B3.out⟩
   ·
    rw [decide_eq_true hok] at CR
    have OK := Lib.hid hok
    have x0 := hok.1
    have x1 := hok.2.1
    rcases HP.out with ⟨rfl, hk0⟩ | ⟨t, j, rfl, hkj, ⟨tl, th⟩, q⟩
    ·
     have gk : decide (0 < k) = false := decide_eq_false (by omega)
     clear hk0
     have EX := Lib.hid (show Lp.sc (some x) (l.drop (k + 1)) = ans by rw [← hd, decide_eq_true hok]; rfl)
     clear hd HP
     go_wp2_with fail
     refine wp_named ?_; intro w2 hw2
     have d2 : Below w1.heap.size w1 w2 := by rw [hw2]; exact gr0
     have B2 := Lib.hid (below_step B1.out d2)
     have aP := B1.out.size
     have P2 : Bk2 w2 (w1.heap.size) (.int .i64 x) (.int .i64 y) := by rw [hw2]; exact ⟨by simp <;> omega, by intro j; simp [go_sem], by simp [go_sem], by simp [go_sem]⟩
     clear d2 hw2 B1
     have tx := P2; obtain ⟨cP_b, cP_f, cP_0, cP_1⟩ := tx
     go_wp2_with fail
     clear cP_b cP_f cP_0 cP_1
     have qP_0 := cell_regrown P2.k0
     have qP_1 := cell_regrown P2.k1
     refine wp_region_qb (w := w2) (by kernel_rfl) (by kernel_rfl) gr0 ?_
     repeat (any_goals (first | go_big_quiet_step (first | (go_at_call 40; exact Calls.regrown_of (CR.out _))) | quiet_step (first | (go_at_call 40; exact Calls.regrown_of (CR.out _)))))
     refine wpQuiet_nil ?_
     intro w3 hq
     have b3 : Below w2.heap.size w2 w3 := by obtain ⟨p, hq⟩ := hq; rw [hq]; exact below_regrown _ _ _
     clear hq qP_0 qP_1
     have d3 : Below w2.heap.size w2 w3 := below_step gr0 b3
     have B3 := Lib.hid (below_step B2.out d3)
     have P3 := P2.keep d3
     clear P2 b3 d3 B2
     go_wp2
     go_roundw; case rel => exact ⟨k + 1, some x, by omega, by go_num, B3.out, EX, Lib.hid (NX.out _ rfl OK.out)⟩
     case measure => simp [intOf]; omega
    ·
     have gk : decide (0 < k) = true := decide_eq_true (by omega)
     have ek : (k : Int) - 1 = (j : Int) := by omega
     clear hkj
     by_cases hdf : 2419200 ≤ x - t
     ·
      have gt : decide (x - t < 2419200) = false := decide_eq_false (by omega)
      have EX := Lib.hid (show Lp.sc (some x) (l.drop (k + 1)) = ans by rw [← hd, decide_eq_true hok]; simp only [Lp.gap, decide_eq_true hdf]; rfl)
      clear hd HP
      go_wp2_with fail
      refine wp_named ?_; intro w2 hw2
      have d2 : Below w1.heap.size w1 w2 := by rw [hw2]; exact gr0
      have B2 := Lib.hid (below_step B1.out d2)
      have aP := B1.out.size
      have P2 : Bk2 w2 (w1.heap.size) (.int .i64 x) (.int .i64 y) := by rw [hw2]; exact ⟨by simp <;> omega, by intro j; simp [go_sem], by simp [go_sem], by simp [go_sem]⟩
      clear d2 hw2 B1
      have q2 := cell_regrown (q.out _ B2.out)
      have tx := P2; obtain ⟨cP_b, cP_f, cP_0, cP_1⟩ := tx
      go_wp2_with fail
      clear cP_b cP_f cP_0 cP_1
      have qP_0 := cell_regrown P2.k0
      have qP_1 := cell_regrown P2.k1
      refine wp_region_qb (w := w2) (by kernel_rfl) (by kernel_rfl) gr0 ?_
      repeat (any_goals (first | go_big_quiet_step (first | (go_at_call 40; exact Calls.regrown_of (CR.out _))) | quiet_step (first | (go_at_call 40; exact Calls.regrown_of (CR.out _)))))
      refine wpQuiet_nil ?_
      intro w3 hq
      have b3 : Below w2.heap.size w2 w3 := by obtain ⟨p, hq⟩ := hq; rw [hq]; exact below_regrown _ _ _
      clear hq qP_0 qP_1
      have d3 : Below w2.heap.size w2 w3 := below_step gr0 b3
      have B3 := Lib.hid (below_step B2.out d3)
      have P3 := P2.keep d3
      clear P2 b3 d3 B2
      go_wp2
      go_roundw; case rel => exact ⟨k + 1, some x, by omega, by go_num, B3.out, EX, Lib.hid (NX.out _ rfl OK.out)⟩
      case measure => simp [intOf]; omega
     ·
      have gt : decide (x - t < 2419200) = true := decide_eq_true (by omega)
      have EX := Lib.hid (show ans = false by rw [← hd, decide_eq_true hok]; simp only [Lp.gap, decide_eq_false hdf]; rfl)
      clear hd HP
      go_wp2_with fail
      refine wp_named ?_; intro w2 hw2
      have d2 : Below w1.heap.size w1 w2 := by rw [hw2]; exact gr0
      have B2 := Lib.hid (below_step B1.out d2)
      have aP := B1.out.size
      have P2 : Bk2 w2 (w1.heap.size) (.int .i64 x) (.int .i64 y) := by rw [hw2]; exact ⟨by simp <;> omega, by intro j; simp [go_sem], by simp [go_sem], by simp [go_sem]⟩
      clear d2 hw2 B1
      have q2 := cell_regrown (q.out _ B2.out)
      have tx := P2; obtain ⟨cP_b, cP_f, cP_0, cP_1⟩ := tx
      go_wp2_with fail
      clear cP_b cP_f cP_0 cP_1
      have qP_0 := cell_regrown P2.k0
      have qP_1 := cell_regrown P2.k1
      refine wp_region_qb (w := w2) (by kernel_rfl) (by kernel_rfl) gr0 ?_
      repeat (any_goals (first | go_big_quiet_step (first | (go_at_call 40; exact Calls.regrown_of (CR.out _))) | quiet_step (first | (go_at_call 40; exact Calls.regrown_of (CR.out _)))))
      refine wpQuiet_nil ?_
      intro w3 hq
      have b3 : Below w2.heap.size w2 w3 := by obtain ⟨p, hq⟩ := hq; rw [hq]; exact below_regrown _ _ _
      clear hq qP_0 qP_1
      have d3 : Below w2.heap.size w2 w3 := below_step gr0 b3
      have B3 := Lib.hid (below_step B2.out d3)
      have P3 := P2.keep d3
      clear P2 b3 d3 B2
      go_wp2
      go_ret
      exact ⟨by rw [EX.out]; first | rfl | simp, B3.out⟩
  ·
   have EX := Lib.hid (show ans = true by rw [← hinv.out, List.drop_of_length_le (by rw [HN.out]; omega)]; rfl)
   clear hinv hprev
   have i2 : ¬ (k : Int) < n := by omega
   go_wp2
   go_ret
   exact ⟨by rw [EX.out]; rfl, B1.out⟩
theorem leright_any (v : Value) (l : List Lp.X) (w : World) (h : SpV w v l) (hm : l.length ≤ 1000000) :
  Calls Tryz.prog 15 #[v] w fun e w' => e = .returned (.bool (Lp.right l)) ∧ Below w.heap.size w w' := leright_big v l w h (by omega)
end Go.Proofs.YtifgiclnofdnkaaGreatDoor

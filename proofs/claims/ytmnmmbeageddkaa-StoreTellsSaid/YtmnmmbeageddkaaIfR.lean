/- Infos: whether one is in a list, as the reference asks. -/
import Derived.Test.YtmnmmbeageddkaaIfA
set_option linter.unusedVariables false
set_option linter.unusedSimpArgs false
namespace Go.Proofs.Ytmnmmbeageddkaa
open Go.RowKit Go.Sort Go.Shelf

namespace If
def isin (x : I) (l : List I) : Bool := l.any fun y => decide (x = y)
theorem isin_iff (x : I) (l : List I) : isin x l = true ↔ x ∈ l := by
  unfold isin
  rw [List.any_eq_true]
  exact ⟨fun ⟨y, hy, e⟩ => by rw [of_decide_eq_true e]; exact hy, fun h => ⟨x, h, decide_eq_true rfl⟩⟩
theorem isin_drop (x : I) (l : List I) (k : Nat) (h : k < l.length) : isin x (l.drop k) = (decide (x = l[k]) || isin x (l.drop (k + 1))) := by
  rw [List.drop_eq_getElem_cons h]; rfl
def ins (x : I) : List I → List I
  | [] => [x]
  | p :: r => if p.1 < x.1 then p :: ins x r else x :: p :: r
/-- Of a list all that the first one has not, put in. -/
def mgl (a : List I) : List I → List I → List I
  | out, [] => out
  | out, x :: r => mgl a (if isin x a then out else ins x out) r
theorem mgl_drop (a out b : List I) (k : Nat) (h : k < b.length) : mgl a out (b.drop k) = mgl a (if isin b[k] a then out else ins b[k] out) (b.drop (k + 1)) := by
  rw [List.drop_eq_getElem_cons h]; rfl
theorem ins_len (x : I) (l : List I) : (ins x l).length = l.length + 1 := by
  induction l with
  | nil => rfl
  | cons p r ih =>
    rw [ins]
    split
    · rw [List.length_cons, ih, List.length_cons]
    · rfl
theorem ins_at (x : I) (l : List I) (k : Nat) (hk : k ≤ l.length) (h1 : ∀ j, (h : j < l.length) → j < k → l[j].1 < x.1) (h2 : ∀ h : k < l.length, ¬ l[k].1 < x.1) : ins x l = l.take k ++ x :: l.drop k := by
  induction l generalizing k with
  | nil =>
    simp at hk
    subst hk
    rfl
  | cons p r ih =>
    cases k with
    | zero =>
      have : ¬ p.1 < x.1 := h2 (by simp)
      rw [ins, if_neg this]
      rfl
    | succ k =>
      have : p.1 < x.1 := h1 0 (by simp) (by omega)
      rw [ins, if_pos this, ih k (by simpa using hk) (fun j h hj => h1 (j + 1) (by simpa using h) (by omega)) (fun h => h2 (by simpa using h))]
      rfl
theorem mgl_len (a r : List I) : ∀ out, (mgl a out r).length ≤ out.length + r.length := by
  induction r with
  | nil => intro out; simp [mgl]
  | cons x r ih =>
    intro out
    rw [mgl]
    refine Nat.le_trans (ih _) ?_
    rw [List.length_cons]
    split
    · omega
    · rw [ins_len]; omega
end If
set_option maxRecDepth 100000 in
set_option maxHeartbeats 8000000 in
theorem rhas_any (v : Value) (l : List If.I) (x0 x1 x2 x3 : Int) (x4 : ByteArray) (w : World) (h : InV w v l) (hm : l.length ≤ 100000) :
    Calls Try.prog 52 #[v, .agg #[.int .i64 x0, .int .i64 x1, .int .i64 x2, .int .i64 x3, .string x4]] w fun e w' => e = .returned (.bool (If.isin (x0, x1, x2, x3, x4) l)) ∧ Below w.heap.size w w' := by
  obtain ⟨A, c, rfl, -⟩ := id h
  have b0 : Below w.heap.size w (w.alloc (.cells #[.int .i64 x0, .int .i64 x1, .int .i64 x2, .int .i64 x3, .string x4] 36)) := (Below.refl _ _).alloc (Nat.le_refl _) _
  have K0 := Lib.hid (Blk.new w 36 #[.int .i64 x0, .int .i64 x1, .int .i64 x2, .int .i64 x3, .string x4])
  have B0 := Lib.hid b0
  have H := Lib.hid h
  obtain ⟨n, hn⟩ : ∃ n, l.length = n := ⟨_, rfl⟩
  rw [hn] at H hm ⊢
  have HN := Lib.hid hn
  obtain ⟨r, hr⟩ : ∃ r, If.isin (x0, x1, x2, x3, x4) l = r := ⟨_, rfl⟩
  rw [hr]
  have HR := Lib.hid hr
  clear h b0 hn hr
  go_enter Try.func52, Try.ntmps52
  go_wp2_with fail
  generalize hw1 : w.alloc (.cells #[.int .i64 x0, .int .i64 x1, .int .i64 x2, .int .i64 x3, .string x4] 36) = w1 at *
  have G1 := Lib.hid (show w.heap.size < w1.heap.size by rw [← hw1]; simp)
  clear hw1
  go_loopw [9] (fun i wr => ∃ (k : Nat), k ≤ n ∧ i = .int .i64 k ∧ Hid (If.isin (x0, x1, x2, x3, x4) (l.drop k) = r) ∧ Hid (Below w1.heap.size w1 wr)) (fun i _ => n - (intOf i).toNat)
  case atStart => exact ⟨0, Nat.zero_le _, rfl, HR, Lib.hid (Below.refl _ _)⟩
  case round =>
    rename World => w2
    obtain ⟨k, hk, rfl, hinv, D⟩ := hrel
    have B := Lib.hid (below_step B0.out D.out)
    have K2 := Lib.hid (K0.out.on D.out)
    by_cases hlt : k < n
    · have hkl : k < l.length := by rw [HN.out]; exact hlt
      have hd := hinv.out
      rw [If.isin_drop _ l k hkl] at hd
      obtain ⟨a, rfl, hab, g1, g2, g3, g4, g5⟩ := (H.out.on B.out).get k hkl
      generalize hp : l[k] = p at *
      obtain ⟨y0, y1, y2, y3, y4⟩ := p
      dsimp only at g1 g2 g3 g4 g5 hd
      clear hp hinv
      have DD := Lib.hid hd
      clear hd
      have i1 : (k : Int) < n := by omega
      go_upto_region 4 with (fail)
      have P2 := Lib.hid (Blk.new w2 36 #[.int .i64 y0, .int .i64 y1, .int .i64 y2, .int .i64 y3, .string y4])
      have bb : Below w2.heap.size w2 (w2.alloc (.cells #[.int .i64 y0, .int .i64 y1, .int .i64 y2, .int .i64 y3, .string y4] 36)) := (Below.refl _ _).alloc (Nat.le_refl _) _
      have D3 := Lib.hid (below_step D.out bb)
      have K3 := Lib.hid (K2.out.on bb)
      have B3 := Lib.hid (below_step B.out bb)
      clear D B bb K2 g1 g2 g3 g4 g5 hab
      generalize w2.alloc (.cells #[.int .i64 y0, .int .i64 y1, .int .i64 y2, .int .i64 y3, .string y4] 36) = w3 at *
      generalize w2.heap.size = g2 at *
      have c0 := K3.out.c0; have c1 := K3.out.c1; have c2 := K3.out.c2; have c3 := K3.out.c3; have c4 := K3.out.c4
      have p0 := P2.out.c0; have p1 := P2.out.c1; have p2 := P2.out.c2; have p3 := P2.out.c3; have p4 := P2.out.c4
      clear K3 P2
      cases he : decide ((x0, x1, x2, x3, x4) = (y0, y1, y2, y3, y4))
      · have E := Lib.hid (show If.isin (x0, x1, x2, x3, x4) (l.drop (k + 1)) = r by have := DD.out; rw [he] at this; simpa using this)
        have NE := Lib.hid (of_decide_eq_false he)
        clear he DD
        by_cases h0 : x0 = y0
        · subst h0
          by_cases h1 : x1 = y1
          · subst h1
            by_cases h2 : x2 = y2
            · subst h2
              by_cases h3 : x3 = y3
              · subst h3
                have h4 : ¬ x4 = y4 := fun e => NE.out (by rw [e])
                have n1 := str_ne h4
                have n2 : (x4.toList == y4.toList) = false := by rw [beq_eq_false_iff_ne]; exact n1
                go_wp2
                go_roundw
                case rel => exact ⟨k + 1, by omega, by go_num, E, D3⟩
                case measure => simp [intOf]; omega
              · have n2 : (x3 == y3) = false := by rw [beq_eq_false_iff_ne]; exact h3
                go_wp2
                go_roundw
                case rel => exact ⟨k + 1, by omega, by go_num, E, D3⟩
                case measure => simp [intOf]; omega
            · have n2 : (x2 == y2) = false := by rw [beq_eq_false_iff_ne]; exact h2
              go_wp2
              go_roundw
              case rel => exact ⟨k + 1, by omega, by go_num, E, D3⟩
              case measure => simp [intOf]; omega
          · have n2 : (x1 == y1) = false := by rw [beq_eq_false_iff_ne]; exact h1
            go_wp2
            go_roundw
            case rel => exact ⟨k + 1, by omega, by go_num, E, D3⟩
            case measure => simp [intOf]; omega
        · have n2 : (x0 == y0) = false := by rw [beq_eq_false_iff_ne]; exact h0
          go_wp2
          go_roundw
          case rel => exact ⟨k + 1, by omega, by go_num, E, D3⟩
          case measure => simp [intOf]; omega
      · have E := Lib.hid (show true = r by have := DD.out; rw [he] at this; simpa using this)
        have e := of_decide_eq_true he
        simp only [Prod.mk.injEq] at e
        obtain ⟨rfl, rfl, rfl, rfl, rfl⟩ := e
        clear he DD
        go_wp2
        go_ret
        exact ⟨by rw [← E.out]; rfl, B3.out⟩
    · have E := Lib.hid (show false = r by rw [← hinv.out, List.drop_of_length_le (by rw [HN.out]; omega)]; simp [If.isin])
      clear hinv
      go_wp2
      go_ret
      exact ⟨by rw [← E.out]; rfl, B.out⟩
end Go.Proofs.Ytmnmmbeageddkaa

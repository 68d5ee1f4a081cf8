/- The walk of FieldsNothing, where the bulk is bounded. -/
import Derived.Test.YtndophkojnfcaaaFdQ
set_option linter.unusedVariables false
set_option linter.unusedSimpArgs false
namespace Go.Proofs.Ytndophkojnfcaaa
open Go.RowKit Go.Sort

namespace Fd
/-- The blanks between two fields. -/
def gp : Nat → List UInt8
  | 0 => []
  | k + 1 => gp k ++ [9, 32]
theorem gp_w : ∀ k, ∀ c ∈ gp k, isW c.toNat = true
  | 0, c, h => by cases h
  | k + 1, c, h => by
    rcases List.mem_append.1 h with h | h
    · exact gp_w k c h
    · rcases List.mem_cons.1 h with rfl | h
      · decide
      · rw [List.mem_singleton.1 h]; decide
theorem gp_len : ∀ k, (gp k).length = 2 * k
  | 0 => rfl
  | k + 1 => by rw [gp, List.length_append, gp_len k]; show 2 * k + 2 = _; omega
theorem shut_gap (g r : List UInt8) (h : ∀ c ∈ g, isW c.toNat = true) : Shut (g ++ 35 :: r) := by
  cases g with
  | nil => exact .inr ⟨35, r, rfl, by decide, by decide⟩
  | cons c t =>
    have hw := h c (List.mem_cons_self ..)
    exact .inr ⟨c, t ++ 35 :: r, rfl, mk_w hw, by rintro rfl; cases hw⟩
/-- Fields, one behind the other, with so many blanks between. -/
def fj (g acc : List UInt8) (k : Nat) : List (List UInt8) → List UInt8
  | [] => acc
  | x :: r => fj g (acc ++ ((if k = 0 then [] else 32 :: g) ++ (tx x).1)) (k + 1) r
theorem fj_next (g acc : List UInt8) (k : Nat) (x : List UInt8) (r : List (List UInt8)) : fj g acc k (x :: r) = fj g (acc ++ ((if k = 0 then [] else 32 :: g) ++ (tx x).1)) (k + 1) r := rfl
theorem fj_le (g : List UInt8) : ∀ (l : List (List UInt8)) (acc : List UInt8) (k : Nat), acc.length ≤ (fj g acc k l).length
  | [], acc, k => Nat.le_refl _
  | x :: r, acc, k => by
    rw [fj_next]
    refine Nat.le_trans ?_ (fj_le g r _ _)
    rw [List.length_append]; omega
theorem fj_len (g : List UInt8) : ∀ (l : List (List UInt8)) (acc : List UInt8) (k : Nat), (fj g acc k l).length ≤ acc.length + sm l + (3 + g.length) * l.length
  | [], acc, k => by show acc.length ≤ _; omega
  | x :: r, acc, k => by
    rw [fj_next]
    refine Nat.le_trans (fj_len g r _ _) ?_
    have hx := tx_len x
    have hs : (if k = 0 then ([] : List UInt8) else 32 :: g).length ≤ 1 + g.length := by
      split
      · simp
      · rw [List.length_cons]; omega
    rw [sm_cons, List.length_append, List.length_append, List.length_cons, Nat.mul_succ]
    omega
theorem fj_ok (g : List UInt8) (hg : ∀ c ∈ g, isW c.toNat = true) : ∀ (l : List (List UInt8)) (acc : List UInt8) (k : Nat), (∀ x ∈ l, (tx x).2 = 0) → ∃ T, fj g acc k l = acc ++ T ∧ (k ≠ 0 → T = [] ∨ ∃ r, T = 32 :: r) ∧ ∀ out R, Shut R → go out [] false false (T ++ R) = go (out ++ l) [] false false R
  | [], acc, k, h => ⟨[], by rw [List.append_nil]; rfl, fun _ => .inl rfl, fun out R _ => by rw [List.append_nil]; rfl⟩
  | x :: r, acc, k, h => by
    obtain ⟨T, hJ, hT, hgo⟩ := fj_ok g hg r (acc ++ ((if k = 0 then [] else 32 :: g) ++ (tx x).1)) (k + 1) (fun y hy => h y (List.mem_cons_of_mem _ hy))
    have key : ∀ out R, Shut R → go out [] false false (((tx x).1 ++ T) ++ R) = go (out ++ x :: r) [] false false R := fun out R hR => by
      have hs : Shut (T ++ R) := by
        rcases hT (by omega) with rfl | ⟨u, rfl⟩
        · exact hR
        · exact shut_32 _
      rw [List.append_assoc, go_field out x (T ++ R) (h x (List.mem_cons_self ..)) hs, hgo _ R hR, List.append_assoc]; rfl
    rw [fj_next, hJ]
    by_cases hk : k = 0
    · rw [if_pos hk]
      exact ⟨(tx x).1 ++ T, by simp, fun h => absurd hk h, key⟩
    · rw [if_neg hk]
      refine ⟨32 :: (g ++ ((tx x).1 ++ T)), by simp, fun _ => .inr ⟨_, rfl⟩, fun out R hR => ?_⟩
      show go out [] false false (32 :: ((g ++ ((tx x).1 ++ T)) ++ R)) = _
      rw [go_blank _ _ _ (by decide), List.append_assoc, go_blanks _ _ g hg]
      exact key out R hR
theorem of_fj (g rem : List UInt8) (hg : ∀ c ∈ g, isW c.toNat = true) (l : List (List UInt8)) (h : ∀ x ∈ l, (tx x).2 = 0) (h16 : l.length ≤ 16) : of (((fj g g 0 l ++ g) ++ [35]) ++ rem) = (l, 0) := by
  obtain ⟨T, hJ, -, hgo⟩ := fj_ok g hg l g 0 h
  unfold of
  have e : ((fj g g 0 l ++ g) ++ [35]) ++ rem = g ++ (T ++ (g ++ 35 :: rem)) := by rw [hJ]; simp
  rw [e, go_blanks _ _ g hg, hgo [] _ (shut_gap g rem hg), List.nil_append, go_blanks _ _ g hg, show go l [] false false (35 :: rem) = some l from rfl]
  exact if_neg (by omega)
end Fd
set_option maxHeartbeats 4000000 in
set_option maxRecDepth 100000 in
theorem fdnot_walk (v : Value) (l : List ByteArray) (s : ByteArray) (wide : Int) (w : World) (S : StS w v l) (hz : Fd.tot l + l.length ≤ 1048576) (hs : s.size ≤ 1048576) (hw1 : -9223372036854775808 ≤ wide) (hw2 : wide ≤ 9223372036854775807) :
    Calls Try.prog 6 #[v, .string s, .int .i64 wide] w fun e w' => e = .returned (.bool true) ∧ Below w.heap.size w w' := by
  have T := S
  obtain ⟨A, c, rfl, -⟩ := T
  have HS := Lib.hid S
  clear S
  have LV := Lib.hid (fun W => lives14 W)
  obtain ⟨N, hN⟩ : ∃ N, N = l.length := ⟨_, rfl⟩
  have HN := Lib.hid hN
  have HS : Hid (StS w (.slice A N c) l) := by rw [hN]; exact HS
  rw [← hN]
  have HZ := Lib.hid hz
  clear hN hz
  have hNz : N ≤ 1048576 := by have := HN.out; have := HZ.out; omega
  have J1 := Lib.hid (fun v W (S : StS W v l) => fjoin_any v l W S (by have := HN.out; have := HZ.out; omega) (by have := HZ.out; omega))
  obtain ⟨JX1, hJX⟩ : ∃ B : ByteArray, B = ⟨(Fd.jn (Fd.bl l)).1.toArray⟩ := ⟨_, rfl⟩
  have OJ : (Fd.jn (Fd.bl l)).2 = 0 → Hid ((∀ W, Calls Try.prog 28 #[.string JX1] W (AnsF (Fd.bl l, 0) W)) ∧ (∀ x ∈ Fd.bl l, (Fd.tx x).2 = 0) ∧ N ≤ 16) := fun h => Lib.hid (by
    have hjl : (Fd.jn (Fd.bl l)).1.length ≤ 2000000 := by have := Fd.jn_len (Fd.bl l); rw [← Fd.tot_sm] at this; have := HZ.out; omega
    have h16 : ¬ 16 < (Fd.bl l).length := by
      intro h16
      unfold Fd.jn at h
      rw [if_pos h16] at h; cases h
    refine ⟨fun W => ?_, ?_, ?_⟩
    · have := fof_any ⟨(Fd.jn (Fd.bl l)).1.toArray⟩ W (by rw [Fd.arr_len]; omega)
      rw [arr_list, Fd.of_jn (Fd.bl l) _ (by rw [← h])] at this
      rw [hJX]; exact this
    · unfold Fd.jn at h
      rw [if_neg h16] at h
      exact Fd.jr_all _ _ _ h
    · unfold Fd.bl at h16; rw [List.length_map] at h16; have := HN.out; omega)
  rw [← hJX] at J1
  clear hJX
  generalize (Fd.jn (Fd.bl l)).2 = jy at J1 OJ
  by_cases hj : jy = 0
  · subst hj
    obtain ⟨OK7, OT, ON⟩ : Hid (∀ W, Calls Try.prog 28 #[.string JX1] W (AnsF (Fd.bl l, 0) W)) ∧ Hid (∀ x ∈ Fd.bl l, (Fd.tx x).2 = 0) ∧ N ≤ 16 := by
      obtain ⟨a, b, c⟩ := (OJ rfl).out
      exact ⟨Lib.hid a, Lib.hid b, c⟩
    clear OJ
    have g16 : ¬ 16 < (N : Int) := by omega
    by_cases h1 : 500 < (s.size : Int)
    · go_enter Try.func6, Try.ntmps6
      go_wp2_with fail
      refine (LV.out _).mono ?_; rintro e w1 ⟨rfl, b1⟩
      have B1 := Lib.hid b1
      clear b1
      go_wp2_with fail
      refine (J1.out _ _ (HS.out.on B1.out)).mono ?_; rintro e w2 ⟨rfl, b2⟩
      have B2 := Lib.hid (below_step B1.out b2)
      clear b2 B1
      go_wp2_with fail
      go_ret
      exact ⟨rfl, B2.out⟩
    · by_cases h2 : wide < 0
      · go_enter Try.func6, Try.ntmps6
        go_wp2_with fail
        refine (LV.out _).mono ?_; rintro e w1 ⟨rfl, b1⟩
        have B1 := Lib.hid b1
        clear b1
        go_wp2_with fail
        refine (J1.out _ _ (HS.out.on B1.out)).mono ?_; rintro e w2 ⟨rfl, b2⟩
        have B2 := Lib.hid (below_step B1.out b2)
        clear b2 B1
        go_wp2_with fail
        go_ret
        exact ⟨rfl, B2.out⟩
      · by_cases h3 : 20 < wide
        · go_enter Try.func6, Try.ntmps6
          go_wp2_with fail
          refine (LV.out _).mono ?_; rintro e w1 ⟨rfl, b1⟩
          have B1 := Lib.hid b1
          clear b1
          go_wp2_with fail
          refine (J1.out _ _ (HS.out.on B1.out)).mono ?_; rintro e w2 ⟨rfl, b2⟩
          have B2 := Lib.hid (below_step B1.out b2)
          clear b2 B1
          go_wp2_with fail
          go_ret
          exact ⟨rfl, B2.out⟩
        · obtain ⟨n, rfl⟩ : ∃ n : Nat, wide = (n : Int) := ⟨wide.toNat, by omega⟩
          have hn : n ≤ 20 := by omega
          have hsb : s.size ≤ 500 := by omega
          clear hw1 hw2 hs
          go_enter Try.func6, Try.ntmps6
          go_wp2_with fail
          refine (LV.out _).mono ?_; rintro e w1 ⟨rfl, b1⟩
          have B1 := Lib.hid b1
          clear b1
          go_wp2_with fail
          refine (J1.out _ _ (HS.out.on B1.out)).mono ?_; rintro e w2 ⟨rfl, b2⟩
          have B2 := Lib.hid (below_step B1.out b2)
          clear b2 B1
          go_wp2_with fail
          go_loopw [9, 10] (fun gap i wr => ∃ k : Nat, k ≤ n ∧ i = .int .i64 k ∧ gap = .string ⟨(Fd.gp k).toArray⟩ ∧ wr = w2) (fun _ i _ => n - (intOf i).toNat)
          case atStart => exact ⟨0, Nat.zero_le _, rfl, rfl, rfl⟩
          case round =>
            obtain ⟨k, hk, rfl, rfl, hw⟩ := hrel
            obtain rfl : w2 = wr := hw.symm
            by_cases hlt : k < n
            · have za := Fd.arr_len (Fd.gp k)
              rw [Fd.gp_len] at za
              have HR := Lib.hid (show (⟨(Fd.gp (k + 1)).toArray⟩ : ByteArray) = ⟨(Fd.gp k).toArray⟩ ++ ⟨#[9, 32]⟩ by rw [Fd.gp, Fd.arr_app])
              obtain ⟨GB, hGB⟩ : ∃ B : ByteArray, B = ⟨(Fd.gp k).toArray⟩ := ⟨_, rfl⟩
              rw [← hGB] at za HR ⊢
              clear hGB
              have e2 : (GB ++ ⟨#[9, 32]⟩ : ByteArray).size = GB.size + 2 := ByteArray.size_append ..
              go_wp2_with fail
              go_roundw
              case rel => exact ⟨k + 1, by omega, by go_num, by rw [HR.out], by first | rfl | trivial⟩
              case measure => simp [intOf]; omega
            · obtain rfl : k = n := by omega
              obtain ⟨g, hg⟩ : ∃ g, g = Fd.gp k := ⟨_, rfl⟩
              have hgl : g.length ≤ 40 := by rw [hg, Fd.gp_len]; omega
              have HG := Lib.hid (show ∀ c ∈ g, Fd.isW c.toNat = true by rw [hg]; exact Fd.gp_w k)
              rw [← hg]
              clear hg
              obtain ⟨TT, hTT⟩ : ∃ T, T = Fd.fj g g 0 (Fd.bl l) := ⟨_, rfl⟩
              have hTl : TT.length ≤ 1100000 := by
                rw [hTT]
                refine Nat.le_trans (Fd.fj_len g _ _ _) ?_
                rw [← Fd.tot_sm, show (Fd.bl l).length = N by unfold Fd.bl; rw [List.length_map, HN.out]]
                have h1 := HZ.out
                have h2 : (3 + g.length) * N ≤ 43 * 16 := Nat.mul_le_mul (by omega) ON
                omega
              have hOF := Lib.hid (show Fd.of (((TT ++ g) ++ [35]) ++ s.data.toList) = (Fd.bl l, 0) by
                rw [hTT]; exact Fd.of_fj g _ HG.out _ OT.out (by unfold Fd.bl; rw [List.length_map, ← HN.out]; exact ON))
              have HTT := Lib.hid hTT
              clear hTT
              have zg := Fd.arr_len g
              obtain ⟨GB, hGB⟩ : ∃ B : ByteArray, B = ⟨g.toArray⟩ := ⟨_, rfl⟩
              have HGB := Lib.hid hGB
              rw [← hGB] at zg ⊢
              clear hGB
              go_wp2_with fail
              go_loopw [11, 57] (fun t i wr => ∃ (k : Nat) (a : List UInt8), k ≤ N ∧ i = .int .i64 k ∧ t = .string ⟨a.toArray⟩ ∧ Hid (Fd.fj g a k ((Fd.bl l).drop k) = TT) ∧ Hid (Below w.heap.size w wr)) (fun _ i _ => N - (intOf i).toNat)
              case atStart => exact ⟨0, g, Nat.zero_le _, rfl, by rw [HGB.out], HTT.out.symm, B2⟩
              case round =>
                obtain ⟨j, a, hj, rfl, rfl, hinv, hB⟩ := hrel
                have hal : a.length ≤ 1100000 := by have := Fd.fj_le g ((Fd.bl l).drop j) a j; rw [hinv.out] at this; omega
                by_cases hjt : j < N
                · have hjl : j < l.length := by have := HN.out; omega
                  obtain ⟨p, rfl, gx⟩ := (HS.out.on hB.out).get j hjl
                  have hd := hinv.out
                  rw [Fd.bl_drop l j hjl, Fd.fj_next] at hd
                  have hxz : l[j].size ≤ 1048576 := by
                    have h1 := Fd.tot_drop l j hjl
                    have h2 : Fd.tot (l.drop j) ≤ Fd.tot l := by
                      have : Fd.tot l = Fd.tot (l.take j) + Fd.tot (l.drop j) := by
                        conv => lhs; rw [← List.take_append_drop j l]
                        rw [Fd.tot_sm, Fd.tot_sm, Fd.tot_sm, ← Fd.sm_app]; unfold Fd.bl; rw [List.map_append]
                      omega
                    have := HZ.out
                    omega
                  have hle2 : (a ++ ((if j = 0 then [] else 32 :: g) ++ (Fd.tx l[j].data.toList).1)).length ≤ 1100000 := by
                    have := Fd.fj_le g ((Fd.bl l).drop (j + 1)) (a ++ ((if j = 0 then [] else 32 :: g) ++ (Fd.tx l[j].data.toList).1)) (j + 1)
                    rw [hd] at this; omega
                  generalize l[j] = x at gx hd hxz hle2
                  have C := Lib.hid (fun W => fdtext_any x W (by omega))
                  generalize (Fd.tx x.data.toList).1 = t at C hd hle2
                  generalize (Fd.tx x.data.toList).2 = ty at C
                  have HH : Hid (Fd.fj g (a ++ ((if j = 0 then [] else 32 :: g) ++ t)) (j + 1) ((Fd.bl l).drop (j + 1)) = TT) := hd
                  have zt := Fd.arr_len t
                  have za := Fd.arr_len a
                  clear hd hinv
                  rcases Nat.eq_zero_or_pos j with hk0 | hp
                  · have gk : ¬ 0 < (j : Int) := by omega
                    have e1 : a ++ ((if j = 0 then [] else 32 :: g) ++ t) = a ++ t := by rw [if_pos hk0]; rfl
                    rw [e1] at HH hle2
                    rw [List.length_append] at hle2
                    have HR := Lib.hid (Fd.arr_app a t)
                    generalize (⟨t.toArray⟩ : ByteArray) = TB at C zt HR
                    obtain ⟨AB, hAB⟩ : ∃ AB : ByteArray, AB = ⟨a.toArray⟩ := ⟨_, rfl⟩
                    rw [← hAB] at za HR ⊢
                    clear hAB hk0 e1
                    have e2 : (AB ++ TB : ByteArray).size = AB.size + TB.size := ByteArray.size_append ..
                    go_wp2_with fail
                    refine (C.out _).mono ?_; rintro e w3 ⟨rfl, b3⟩
                    have B3 := Lib.hid (below_step hB.out b3)
                    clear b3
                    go_wp2_with fail
                    go_roundw
                    case rel => exact ⟨j + 1, a ++ t, by omega, by go_num, by rw [HR.out], HH, B3⟩
                    case measure => simp [intOf]; omega
                  · have gk : 0 < (j : Int) := by omega
                    have e1 : a ++ ((if j = 0 then [] else 32 :: g) ++ t) = (a ++ (32 :: g)) ++ t := by rw [if_neg (by omega), List.append_assoc]
                    rw [e1] at HH hle2
                    rw [List.length_append, List.length_append, List.length_cons] at hle2
                    have HR := Lib.hid (show (⟨((a ++ (32 :: g)) ++ t).toArray⟩ : ByteArray) = (⟨a.toArray⟩ ++ (⟨#[32]⟩ ++ GB)) ++ ⟨t.toArray⟩ by
                      rw [HGB.out, Fd.arr_app, Fd.arr_app, show (⟨(32 :: g).toArray⟩ : ByteArray) = ⟨#[32]⟩ ++ ⟨g.toArray⟩ from Fd.arr_app [32] g])
                    generalize (⟨t.toArray⟩ : ByteArray) = TB at C zt HR
                    obtain ⟨AB, hAB⟩ : ∃ AB : ByteArray, AB = ⟨a.toArray⟩ := ⟨_, rfl⟩
                    rw [← hAB] at za HR ⊢
                    clear hAB hp e1
                    have e4 : (⟨#[32]⟩ ++ GB : ByteArray).size = 1 + GB.size := ByteArray.size_append ..
                    have e3 : (AB ++ (⟨#[32]⟩ ++ GB) : ByteArray).size = AB.size + (1 + GB.size) := by rw [ByteArray.size_append, e4]
                    have e2 : ((AB ++ (⟨#[32]⟩ ++ GB)) ++ TB : ByteArray).size = AB.size + (1 + GB.size) + TB.size := by rw [ByteArray.size_append, e3]
                    go_wp2_with fail
                    refine (C.out _).mono ?_; rintro e w3 ⟨rfl, b3⟩
                    have B3 := Lib.hid (below_step hB.out b3)
                    clear b3
                    go_wp2_with fail
                    go_roundw
                    case rel => exact ⟨j + 1, (a ++ (32 :: g)) ++ t, by omega, by go_num, by rw [HR.out], HH, B3⟩
                    case measure => simp [intOf]; omega
                · have hat : a = TT := by
                    rw [← hinv.out, List.drop_of_length_le (by unfold Fd.bl; rw [List.length_map]; have := HN.out; omega)]; rfl
                  subst hat
                  have za := Fd.arr_len a
                  obtain ⟨AB, hAB⟩ : ∃ AB : ByteArray, AB = ⟨a.toArray⟩ := ⟨_, rfl⟩
                  have e2 : (AB ++ GB : ByteArray).size = AB.size + GB.size := ByteArray.size_append ..
                  have e3 : ((AB ++ GB) ++ ⟨#[35]⟩ : ByteArray).size = AB.size + GB.size + 1 := by rw [ByteArray.size_append, e2]; rfl
                  have e4 : (((AB ++ GB) ++ ⟨#[35]⟩) ++ s : ByteArray).size = AB.size + GB.size + 1 + s.size := by rw [ByteArray.size_append, e3]
                  rw [← hAB] at za
                  have O2 : Hid (∀ W, Calls Try.prog 28 #[.string (((AB ++ GB) ++ ⟨#[35]⟩) ++ s)] W (AnsF (Fd.bl l, 0) W)) := Lib.hid (fun W => by
                    have := fof_any (((AB ++ GB) ++ ⟨#[35]⟩) ++ s) W (by omega)
                    rw [show (((AB ++ GB) ++ ⟨#[35]⟩) ++ s : ByteArray).data.toList = ((a ++ g) ++ [35]) ++ s.data.toList by
                      rw [fd_app, fd_app, fd_app, hAB, HGB.out, arr_list, arr_list], hOF.out] at this
                    exact this)
                  rw [← hAB]
                  clear hAB hinv
                  have O1 := OK7
                  unfold AnsF at O1 O2
                  go_wp2_with fail
                  refine (O1.out _).mono ?_; rintro e w3 ⟨v3, l3, s3, hl3, rfl, b3⟩
                  have B3 := Lib.hid (below_step hB.out b3)
                  obtain rfl : l3 = l := fd_bytes (hl3.trans rfl)
                  have S3 := Lib.hid s3
                  clear b3 hl3 s3 O1
                  go_wp2_with fail
                  refine (O2.out _).mono ?_; rintro e w4 ⟨v4, l4, s4, hl4, rfl, b4⟩
                  have B4 := Lib.hid (below_step B3.out b4)
                  have S3 := Lib.hid (S3.out.on b4)
                  obtain rfl : l4 = l3 := fd_bytes (hl4.trans rfl)
                  have S4 := Lib.hid s4
                  clear b4 hl4 s4 O2 B3
                  go_wp2_with fail
                  refine (same13_yes _ _ l4 _ (by have := HN.out; omega) S3.out S4.out).mono ?_; rintro e w5 ⟨rfl, b5⟩
                  have B5 := Lib.hid (below_step B4.out b5)
                  have S3 := Lib.hid (S3.out.on b5)
                  clear b5 B4 S4
                  go_wp2_with fail
                  refine (same13_yes _ _ l4 _ (by have := HN.out; omega) S3.out (HS.out.on B5.out)).mono ?_; rintro e w6 ⟨rfl, b6⟩
                  have B6 := Lib.hid (below_step B5.out b6)
                  clear b6 B5 S3
                  go_wp2_with fail
                  go_ret
                  exact ⟨rfl, B6.out⟩
  · have gj : (jy == 0) = false := by rw [beq_eq_false_iff_ne]; exact hj
    have gj' : (jy != 0) = true := by unfold bne; rw [gj]; rfl
    clear OJ hj
    go_enter Try.func6, Try.ntmps6
    go_wp2_with fail
    refine (LV.out _).mono ?_; rintro e w1 ⟨rfl, b1⟩
    have B1 := Lib.hid b1
    clear b1
    go_wp2_with fail
    refine (J1.out _ _ (HS.out.on B1.out)).mono ?_; rintro e w2 ⟨rfl, b2⟩
    have B2 := Lib.hid (below_step B1.out b2)
    clear b2 B1
    go_wp2_with fail
    go_ret
    exact ⟨rfl, B2.out⟩
end Go.Proofs.Ytndophkojnfcaaa


/- The walk of FieldsBack, where the bulk is bounded. -/
import Derived.Test.YtndophkojnfcaaaFdO
import Derived.Test.YtndophkojnfcaaaFdN
set_option linter.unusedVariables false
set_option linter.unusedSimpArgs false
namespace Go.Proofs.Ytndophkojnfcaaa
open Go.RowKit Go.Sort

namespace Fd
theorem tot_sm : ∀ l : List ByteArray, tot l = sm (bl l)
  | [] => rfl
  | x :: l => by rw [tot_cons, tot_sm l, show bl (x :: l) = x.data.toList :: bl l from rfl, sm_cons, fd_len]
end Fd
set_option maxHeartbeats 4000000 in
set_option maxRecDepth 100000 in
theorem fdback_walk (s : ByteArray) (v : Value) (l : List ByteArray) (w : World) (hs : s.size ≤ 1048576) (S : StS w v l) (hz : Fd.tot l + l.length ≤ 1048576) :
    Calls Try.prog 5 #[.string s, v] w fun e w' => e = .returned (.bool true) ∧ Below w.heap.size w w' := by
  have T := S
  obtain ⟨A, c, rfl, -⟩ := T
  have HS := Lib.hid S
  clear S
  have LV := Lib.hid (fun W => lives14 W)
  obtain ⟨N, hN⟩ : ∃ N, N = l.length := ⟨_, rfl⟩
  have HN := Lib.hid hN
  have HS : Hid (StS w (.slice A N c) l) := by rw [hN]; exact HS
  rw [← hN]
  have HZ := Lib.hid hz
  clear hN hz
  have hNz : N ≤ 1048576 := by have := HN.out; have := HZ.out; omega
  by_cases h1 : 2000 < (s.size : Int)
  · go_enter Try.func5, Try.ntmps5
    go_wp2_with fail
    refine (LV.out _).mono ?_; rintro e w1 ⟨rfl, b1⟩
    go_wp2_with fail
    go_ret
    exact ⟨rfl, b1⟩
  · by_cases h2 : 40 < N
    · have h3 : 40 < (N : Int) := by omega
      go_enter Try.func5, Try.ntmps5
      go_wp2_with fail
      refine (LV.out _).mono ?_; rintro e w1 ⟨rfl, b1⟩
      go_wp2_with fail
      go_ret
      exact ⟨rfl, b1⟩
    · have h3 : ¬ 40 < (N : Int) := by omega
      have hsb : s.size ≤ 2000 := by omega
      have hNb : N ≤ 40 := by omega
      clear h2 hNz
      have J1 := Lib.hid (fun v W (S : StS W v l) => fjoin_any v l W S (by have := HN.out; omega) (by have := HZ.out; omega))
      have hjl : (Fd.jn (Fd.bl l)).1.length ≤ 2000000 := by have := Fd.jn_len (Fd.bl l); rw [← Fd.tot_sm] at this; have := HZ.out; omega
      have OJ : (Fd.jn (Fd.bl l)).2 = 0 → Hid (∀ W, Calls Try.prog 28 #[.string ⟨(Fd.jn (Fd.bl l)).1.toArray⟩] W (AnsF (Fd.bl l, 0) W)) := fun h => Lib.hid (fun W => by
        have := fof_any ⟨(Fd.jn (Fd.bl l)).1.toArray⟩ W (by rw [Fd.arr_len]; omega)
        rw [arr_list, Fd.of_jn (Fd.bl l) _ (by rw [← h])] at this
        exact this)
      have O1 := Lib.hid (fun W => fof_any s W (by omega))
      have hof := Lib.hid (Fd.of_len s.data.toList)
      rw [fd_len] at hof
      have hpy := Fd.of_why s.data.toList
      unfold AnsF at O1
      obtain ⟨P, hP⟩ : ∃ P, P = (Fd.of s.data.toList).1 := ⟨_, rfl⟩
      obtain ⟨py, hpye⟩ : ∃ py, py = (Fd.of s.data.toList).2 := ⟨_, rfl⟩
      have hofE := Lib.hid (show (P, py) = Fd.of s.data.toList by rw [hP, hpye])
      rw [← hP, ← hpye] at O1 hpy
      rw [← hP] at hof
      clear hP hpye
      have hpy := Lib.hid (show py = 0 ∨ (py ≠ 0 ∧ P = []) by
        by_cases h : py = 0
        · exact .inl h
        · exact .inr ⟨h, hpy h⟩)
      obtain ⟨JX1, hJX⟩ : ∃ B : ByteArray, B = ⟨(Fd.jn (Fd.bl l)).1.toArray⟩ := ⟨_, rfl⟩
      rw [← hJX] at J1 OJ
      clear hJX hjl
      generalize (Fd.jn (Fd.bl l)).2 = jy at J1 OJ
      by_cases hj : jy = 0
      · subst hj
        have OK7 := OJ rfl
        clear OJ
        go_enter Try.func5, Try.ntmps5
        go_wp2_with fail
        refine (LV.out _).mono ?_; rintro e w1 ⟨rfl, b1⟩
        have B1 := Lib.hid b1
        clear b1
        go_wp2_with fail
        refine (J1.out _ _ (HS.out.on B1.out)).mono ?_; rintro e w2 ⟨rfl, b2⟩
        have B2 := Lib.hid (below_step B1.out b2)
        clear b2 B1
        go_wp2_with fail
        refine (OK7.out _).mono ?_; rintro e w7 ⟨v7, l7, s7, hl7, rfl, b7⟩
        have B7 := Lib.hid (below_step B2.out b7)
        obtain rfl : l7 = l := fd_bytes (hl7.trans rfl)
        have S7 := Lib.hid s7
        clear b7 hl7 s7 OK7 B2
        go_wp2_with fail
        refine (same13_yes _ _ l7 _ (by have := HN.out; omega) S7.out (HS.out.on B7.out)).mono ?_; rintro e w8 ⟨rfl, b8⟩
        have B8 := Lib.hid (below_step B7.out b8)
        clear b8 B7 S7
        · skip
          go_wp2_with fail
          refine (O1.out _).mono ?_; rintro e w3 ⟨v3, l3, s3, hl3, rfl, b3⟩
          have B3 := Lib.hid (below_step B8.out b3)
          have HL3 := Lib.hid hl3
          have S3 := Lib.hid s3
          clear b3 hl3 s3 O1
          obtain ⟨A3, c3, rfl, -⟩ := id S3.out
          rcases hpy.out with hp0 | hp0
          · have hp0 := hp0
            have h9 : Hid (l3.length ≤ 16 ∧ Fd.tot l3 ≤ 3000) := by
              have h1 := hof.out
              refine Lib.hid ⟨?_, ?_⟩
              · have := congrArg List.length HL3.out
                rw [List.length_map] at this; omega
              · rw [Fd.tot_sm, show Fd.bl l3 = P from HL3.out]; omega
            have HJN := Lib.hid (Fd.jn_of s.data.toList P (by rw [← hofE.out, hp0]))
            have J2 := Lib.hid (fun v W (S : StS W v l3) => fjoin_any v l3 W S (by have := h9.out; omega) (by have := h9.out; omega))
            rw [show Fd.bl l3 = P from HL3.out] at J2
            have hjl := Fd.jn_len P
            have hj2 : (Fd.jn P).2 = 0 := by rw [HJN.out.1]
            rw [hj2] at J2
            have hO : Fd.of (Fd.jn P).1 = (P, 0) := Fd.of_jn P _ (by rw [← hj2])
            have hsp := hof.out
            have O3 := Lib.hid (fun W => fof_any ⟨(Fd.jn P).1.toArray⟩ W (by rw [Fd.arr_len]; omega))
            rw [arr_list, hO] at O3
            unfold AnsF at O3
            subst hp0
            have H3l := Lib.hid (show l3.length = l3.length from rfl)
            obtain ⟨M, hM⟩ : ∃ M, M = l3.length := ⟨_, rfl⟩
            have HM := Lib.hid hM
            have S3 : Hid (StS w3 (.slice A3 M c3) l3) := by rw [hM]; exact S3
            rw [← hM]
            clear hM hjl hj2 hO hsp H3l
            generalize (⟨(Fd.jn P).1.toArray⟩ : ByteArray) = JX at J2 O3
            go_wp2_with fail
            refine (J2.out _ _ S3.out).mono ?_; rintro e w4 ⟨rfl, b4⟩
            have B4 := Lib.hid (below_step B3.out b4)
            have S4 := Lib.hid (S3.out.on b4)
            clear b4 J2 S3 B3
            go_wp2_with fail
            refine (O3.out _).mono ?_; rintro e w5 ⟨v5, l5, s5, hl5, rfl, b5⟩
            have B5 := Lib.hid (below_step B4.out b5)
            obtain rfl : l3 = l5 := fd_bytes (HL3.out.trans hl5.symm)
            have S5 := Lib.hid (S4.out.on b5)
            have S6 := Lib.hid s5
            clear b5 hl5 s5 S4 O3 B4
            go_wp2_with fail
            refine (same13_yes _ _ l3 _ (by have := h9.out; omega) S5.out S6.out).mono ?_; rintro e w6 ⟨rfl, b6⟩
            have B6 := Lib.hid (below_step B5.out b6)
            clear b6 B5
            go_wp2_with fail
            go_ret
            exact ⟨rfl, B6.out⟩
          · have g : (py == 0) = false := by rw [beq_eq_false_iff_ne]; exact hp0.1
            have g' : (py != 0) = true := by unfold bne; rw [g]; rfl
            have h0 : l3 = [] := by have := HL3.out; rw [hp0.2] at this; simpa using this
            subst h0
            clear hp0
            go_wp2_with fail
            go_ret
            exact ⟨rfl, B3.out⟩
      · have gj : (jy == 0) = false := by rw [beq_eq_false_iff_ne]; exact hj
        clear OJ hj
        go_enter Try.func5, Try.ntmps5
        go_wp2_with fail
        refine (LV.out _).mono ?_; rintro e w1 ⟨rfl, b1⟩
        have B1 := Lib.hid b1
        clear b1
        go_wp2_with fail
        refine (J1.out _ _ (HS.out.on B1.out)).mono ?_; rintro e w2 ⟨rfl, b2⟩
        have B2 := Lib.hid (below_step B1.out b2)
        clear b2 B1
        · skip
          go_wp2_with fail
          refine (O1.out _).mono ?_; rintro e w3 ⟨v3, l3, s3, hl3, rfl, b3⟩
          have B3 := Lib.hid (below_step B2.out b3)
          have HL3 := Lib.hid hl3
          have S3 := Lib.hid s3
          clear b3 hl3 s3 O1
          obtain ⟨A3, c3, rfl, -⟩ := id S3.out
          rcases hpy.out with hp0 | hp0
          · have hp0 := hp0
            have h9 : Hid (l3.length ≤ 16 ∧ Fd.tot l3 ≤ 3000) := by
              have h1 := hof.out
              refine Lib.hid ⟨?_, ?_⟩
              · have := congrArg List.length HL3.out
                rw [List.length_map] at this; omega
              · rw [Fd.tot_sm, show Fd.bl l3 = P from HL3.out]; omega
            have HJN := Lib.hid (Fd.jn_of s.data.toList P (by rw [← hofE.out, hp0]))
            have J2 := Lib.hid (fun v W (S : StS W v l3) => fjoin_any v l3 W S (by have := h9.out; omega) (by have := h9.out; omega))
            rw [show Fd.bl l3 = P from HL3.out] at J2
            have hjl := Fd.jn_len P
            have hj2 : (Fd.jn P).2 = 0 := by rw [HJN.out.1]
            rw [hj2] at J2
            have hO : Fd.of (Fd.jn P).1 = (P, 0) := Fd.of_jn P _ (by rw [← hj2])
            have hsp := hof.out
            have O3 := Lib.hid (fun W => fof_any ⟨(Fd.jn P).1.toArray⟩ W (by rw [Fd.arr_len]; omega))
            rw [arr_list, hO] at O3
            unfold AnsF at O3
            subst hp0
            have H3l := Lib.hid (show l3.length = l3.length from rfl)
            obtain ⟨M, hM⟩ : ∃ M, M = l3.length := ⟨_, rfl⟩
            have HM := Lib.hid hM
            have S3 : Hid (StS w3 (.slice A3 M c3) l3) := by rw [hM]; exact S3
            rw [← hM]
            clear hM hjl hj2 hO hsp H3l
            generalize (⟨(Fd.jn P).1.toArray⟩ : ByteArray) = JX at J2 O3
            go_wp2_with fail
            refine (J2.out _ _ S3.out).mono ?_; rintro e w4 ⟨rfl, b4⟩
            have B4 := Lib.hid (below_step B3.out b4)
            have S4 := Lib.hid (S3.out.on b4)
            clear b4 J2 S3 B3
            go_wp2_with fail
            refine (O3.out _).mono ?_; rintro e w5 ⟨v5, l5, s5, hl5, rfl, b5⟩
            have B5 := Lib.hid (below_step B4.out b5)
            obtain rfl : l3 = l5 := fd_bytes (HL3.out.trans hl5.symm)
            have S5 := Lib.hid (S4.out.on b5)
            have S6 := Lib.hid s5
            clear b5 hl5 s5 S4 O3 B4
            go_wp2_with fail
            refine (same13_yes _ _ l3 _ (by have := h9.out; omega) S5.out S6.out).mono ?_; rintro e w6 ⟨rfl, b6⟩
            have B6 := Lib.hid (below_step B5.out b6)
            clear b6 B5
            go_wp2_with fail
            go_ret
            exact ⟨rfl, B6.out⟩
          · have g : (py == 0) = false := by rw [beq_eq_false_iff_ne]; exact hp0.1
            have g' : (py != 0) = true := by unfold bne; rw [g]; rfl
            have h0 : l3 = [] := by have := HL3.out; rw [hp0.2] at this; simpa using this
            subst h0
            clear hp0
            go_wp2_with fail
            go_ret
            exact ⟨rfl, B3.out⟩
end Go.Proofs.Ytndophkojnfcaaa


/- The walk of TopRows, where the bulk is bounded. -/
import Derived.Test.YtnkmpchonlajpaaDoorTrL
import Derived.Test.YtnkmpchonlajpaaDoorFdK
import Derived.Test.YtnkmpchonlajpaaDoorFdF
import Derived.Test.YtnkmpchonlajpaaDoorFdO
set_option linter.unusedVariables false
set_option linter.unusedSimpArgs false
namespace Go.Proofs.YtnkmpchonlajpaaDoor
open Go.RowKit Go.Sort

namespace Ln
/-- No line feed. -/
def noB (l : List UInt8) : Bool := l.all fun c => !(decide (c = 10))
def fineB (L : List ByteArray) : Bool := L.all fun x => noB x.data.toList
theorem cut_app (a r cur : List UInt8) (h : noB a = true) : cut cur (a ++ 10 :: r) = (cur ++ a) :: cut [] r := by
  induction a generalizing cur with
  | nil =>
    show cut cur (10 :: r) = _
    rw [cut, if_pos rfl, List.append_nil]
  | cons c a ih =>
    unfold noB at h
    simp only [List.all_cons, Bool.and_eq_true, Bool.not_eq_true', decide_eq_false_iff_not] at h
    rw [List.cons_append, cut, if_neg h.1, ih (cur ++ [c]) h.2, List.append_assoc]
    rfl
theorem cut_jn (L : List ByteArray) (h : fineB L = true) : cut [] (jn L) = L.map (·.data.toList) := by
  induction L with
  | nil => rfl
  | cons x r ih =>
    unfold fineB at h
    rw [List.all_cons, Bool.and_eq_true] at h
    have e : jn (x :: r) = x.data.toList ++ 10 :: jn r := by unfold jn; rw [List.flatMap_cons, List.append_assoc]; rfl
    rw [e, cut_app _ _ _ h.1, List.nil_append, ih h.2]
    rfl
/-- The text of a row, if all fields may be written. -/
def rowOk (r : List ByteArray) (x : ByteArray) : Prop := Fd.jn (Fd.bl r) = (x.data.toList, 0) ∧ x.size ≤ 2000 ∧ noB x.data.toList = true
theorem jn_len (R : List ByteArray) (h : ∀ x ∈ R, x.size ≤ 2000) : (jn R).length ≤ 2001 * R.length := by
  induction R with
  | nil => exact Nat.zero_le _
  | cons x r ih =>
    have e : jn (x :: r) = (x.data.toList ++ [10]) ++ jn r := by unfold jn; rw [List.flatMap_cons]
    have h1 := ih (fun y hy => h y (List.mem_cons_of_mem _ hy))
    have h2 := h x (List.mem_cons_self ..)
    rw [e, List.length_append, List.length_append, fd_len]
    show x.size + 1 + (jn r).length ≤ 2001 * (r.length + 1)
    omega
end Ln
/-- A slice of slices of strings. -/
structure RwS (w : World) (v : Value) (vs : List Value) (L : List (List ByteArray)) : Prop where
  row : Lst w w.heap.size v vs.length vs
  len : vs.length = L.length
  each : ∀ k (h1 : k < vs.length) (h2 : k < L.length), StS w vs[k] L[k]
theorem RwS.on {w w' : World} {v : Value} {vs : List Value} {L : List (List ByteArray)} (h : RwS w v vs L) (k : Below w.heap.size w w') : RwS w' v vs L :=
  ⟨h.row.on k, h.len, fun j h1 h2 => (h.each j h1 h2).on k⟩
theorem RwS.get {w : World} {A : Option Addr} {n c : Nat} {vs : List Value} {L : List (List ByteArray)} (h : RwS w (.slice A n c) vs L) (k : Nat) (hk : k < L.length) : ∃ a B d, A = some a ∧ w.cell? (a.add k) = some (.slice B L[k].length d) ∧ StS w (.slice B L[k].length d) L[k] := by
  have hk2 : k < vs.length := by rw [h.len]; exact hk
  obtain ⟨A', c', hv, ha⟩ := h.row
  cases hv
  obtain ⟨a, e, hb, hc⟩ := ha (by omega)
  have he := h.each k hk2 hk
  have S := he
  obtain ⟨B, d, hvs, -⟩ := he
  refine ⟨a, B, d, e, ?_, ?_⟩
  · rw [← hvs]
    exact hc k _ (List.getElem?_eq_getElem hk2)
  · rw [← hvs]; exact S
theorem RwS.form {w : World} {v : Value} {vs : List Value} {L : List (List ByteArray)} (h : RwS w v vs L) : ∃ A c, v = .slice A L.length c := by
  obtain ⟨A, c, hv, -⟩ := h.row
  exact ⟨A, c, by rw [hv, h.len]⟩
theorem fof_ab (W : World) : Calls Tryd.prog 15 #[.string ⟨#[97, 32, 98]⟩] W fun e w' => ∃ A c, e = .returned (.tuple #[.slice A 2 c, .int .i64 0]) ∧ Below W.heap.size W w' :=
  (fof_any ⟨#[97, 32, 98]⟩ W (by decide)).mono fun e w' ⟨v, l, S, hl, he, hb⟩ => by
    have h : Fd.of (⟨#[97, 32, 98]⟩ : ByteArray).data.toList = (([⟨#[97]⟩, ⟨#[98]⟩] : List ByteArray).map (·.data.toList), 0) := by decide +kernel
    rw [h] at hl he
    obtain rfl := fd_bytes hl
    obtain ⟨A, c, rfl, -⟩ := S
    exact ⟨A, c, he, hb⟩
set_option maxHeartbeats 4000000 in
set_option maxRecDepth 100000 in
theorem toprows_walk (v : Value) (vs : List Value) (L : List (List ByteArray)) (w : World) (S : RwS w v vs L) (hz : ∀ r ∈ L, Fd.tot r + r.length ≤ 1048576) (hLb : L.length ≤ 1048576) (m : Int) (hm : w.cell? ⟨0, 0, none⟩ = some (.int .i64 m)) :
    Calls Tryd.prog 4 #[v] w fun e w' => e = .returned (.bool true) ∧ Below w.heap.size w w' := by
  obtain ⟨i0, hi, hz0, hz1, hz2⟩ := fd_parts fd_info
  obtain ⟨A, c, rfl⟩ := S.form
  have AB := Lib.hid (fun W => fof_ab W)
  obtain ⟨N, hN⟩ : ∃ N, N = L.length := ⟨_, rfl⟩
  have HN := Lib.hid hN
  have HS : Hid (RwS w (.slice A N c) vs L) := by rw [hN]; exact S
  rw [← hN] at hLb ⊢
  have HZ := Lib.hid hz
  have HM := Lib.hid hm
  clear hN S hz hm
  by_cases h2 : 40 < N
  · have h3 : 40 < (N : Int) := by omega
    go_enter Tryd.func4, Tryd.ntmps4
    go_wp2_with fail
    refine (AB.out _).mono ?_; rintro e w1 ⟨A1, c1, rfl, b1⟩
    go_wp2_with fail
    go_ret
    exact ⟨rfl, b1⟩
  · have h3 : ¬ 40 < (N : Int) := by omega
    have hNb : N ≤ 40 := by omega
    clear h2 hLb
    go_enter Tryd.func4, Tryd.ntmps4
    go_wp2_with fail
    refine (AB.out _).mono ?_; rintro e w1 ⟨A1, c1, rfl, b1⟩
    have B1 := Lib.hid b1
    clear b1
    go_wp2_with fail
    go_loopw [5, 33] (fun lv i wr => ∃ (k : Nat) (R : List ByteArray), k ≤ N ∧ R.length = k ∧ i = .int .i64 k ∧ Hid (wr.ownsRow w.heap.size 9 1 lv k (R.map Value.string)) ∧ Hid (∀ j (h1 : j < R.length) (h2 : j < L.length), Ln.rowOk L[j] R[j]) ∧ Hid (Below w.heap.size w wr)) (fun _ i _ => N - (intOf i).toNat)
    case atStart => exact ⟨0, [], Nat.zero_le _, rfl, rfl, World.ownsRow_nil _ _ _ _, Lib.hid (fun j h1 h2 => absurd h1 (by simp)), B1⟩
    case round =>
      obtain ⟨k, R, hk, hRk, rfl, hown, hok, hbw⟩ := hrel
      by_cases hlt : k < N
      · have hkl : k < L.length := by have := HN.out; omega
        obtain ⟨a, B, d, rfl, g, SR⟩ := (HS.out.on hbw.out).get k hkl
        have hzr := HZ.out L[k] (List.getElem_mem hkl)
        have SR := Lib.hid SR
        have hok2 : ∀ x : ByteArray, Ln.rowOk L[k] x → Hid (∀ j (h1 : j < (R ++ [x]).length) (h2 : j < L.length), Ln.rowOk L[j] (R ++ [x])[j]) := fun x hx => Lib.hid (fun j h1 h2 => by
          by_cases hj : j < R.length
          · rw [List.getElem_append_left hj]; exact hok.out j hj h2
          · have hjk : j = R.length := by rw [List.length_append] at h1; simp at h1; omega
            subst hjk
            have e : (R ++ [x])[R.length] = x := by simp
            rw [e]
            subst hRk
            exact hx)
        generalize hr : L[k] = r at g SR hzr hok2
        clear hr
        have J := Lib.hid (fun W (S : StS W (.slice B r.length d) r) => fjoin_any (.slice B r.length d) r W S (by omega) (by omega))
        obtain ⟨jx, hjx⟩ : ∃ x : ByteArray, x = ⟨(Fd.jn (Fd.bl r)).1.toArray⟩ := ⟨_, rfl⟩
        obtain ⟨jy, hjy⟩ : ∃ y, y = (Fd.jn (Fd.bl r)).2 := ⟨_, rfl⟩
        have HJX := Lib.hid (show jx.data.toList = (Fd.jn (Fd.bl r)).1 by rw [hjx])
        have HJY := Lib.hid hjy
        have hjl : jx.size ≤ 2000000 := by
          rw [hjx, Fd.arr_len]
          have := Fd.jn_len (Fd.bl r)
          rw [show Fd.sm (Fd.bl r) = Fd.tot r by unfold Fd.sm Fd.tot Fd.bl; rw [List.map_map]; first | done | rfl] at this
          omega
        rw [← hjx, ← hjy] at J
        obtain ⟨rn, hrn⟩ : ∃ n, n = r.length := ⟨_, rfl⟩
        have HRN := Lib.hid hrn
        rw [← hrn] at J SR g
        clear hjx hjy hrn hzr
        by_cases hy : jy = 0
        · subst hy
          by_cases hbig : 2000 < (jx.size : Int)
          · clear hok2
            go_wp2_with fail
            refine (J.out _ SR.out).mono ?_; rintro e w2 ⟨rfl, b2⟩
            have B2 := Lib.hid (below_step hbw.out b2)
            clear b2
            go_wp2_with fail
            go_ret
            exact ⟨rfl, B2.out⟩
          · have hsm : jx.size ≤ 2000 := by omega
            go_wp2_with fail
            refine (J.out _ SR.out).mono ?_; rintro e w2 ⟨rfl, b2⟩
            have B2 := Lib.hid (below_step hbw.out b2)
            have hown2 := Lib.hid (own_on hown.out b2)
            clear b2 hown hbw
            go_wp2_with fail
            go_loopw [10] (fun i wr2 => ∃ q : Nat, q ≤ jx.size ∧ i = .int .i64 q ∧ Hid (Ln.noB (jx.data.toList.take q) = true) ∧ wr2 = w2) (fun i _ => jx.size - (intOf i).toNat)
            case atStart => exact ⟨0, Nat.zero_le _, rfl, Lib.hid rfl, rfl⟩
            case round =>
              obtain ⟨q, hq, rfl, hnb, hw⟩ := hrel
              obtain rfl : w2 = wr := hw.symm
              by_cases hqt : q < jx.size
              · have IX := fun W => fd_ix jx q hqt W
                have hnx := List.take_succ_eq_append_getElem (l := jx.data.toList) (i := q) (by rw [fd_len]; exact hqt)
                have hgq : jx.data.toList[q]'(by rw [fd_len]; exact hqt) = jx[q] := rfl
                rw [hgq] at hnx
                by_cases h10 : jx[q] = 10
                · rw [h10] at IX
                  have IX : ∀ W, Sem.run Tryd.prog (Instr.index 9 (.string jx) (.int .i64 (q : Int))) W = .ok (.int .u8 10) W := IX
                  clear hnx hgq h10 hok2
                  go_wp2_with fail
                  go_ret
                  exact ⟨rfl, B2.out⟩
                · have HB := Lib.hid (show Ln.noB (jx.data.toList.take (q + 1)) = true by
                    rw [hnx]
                    have h := hnb.out
                    unfold Ln.noB at h ⊢
                    rw [List.all_append, h]
                    simp [h10])
                  have g2 : ((jx[q].toNat : Int) == 10) = false := by rw [beq_eq_false_iff_ne]; intro h; exact h10 (UInt8.toNat_inj.1 (by rw [show (10 : UInt8).toNat = 10 from rfl]; omega))
                  generalize (jx[q].toNat : Int) = C at IX g2
                  clear hnx hgq h10
                  go_wp2_with fail
                  go_roundw
                  case rel => exact ⟨q + 1, by omega, by go_num, HB, by first | rfl | trivial⟩
                  case measure => simp [intOf]; omega
              · have hno : Ln.noB jx.data.toList = true := by
                  have := hnb.out
                  rw [List.take_of_length_le (by rw [fd_len]; omega)] at this
                  exact this
                have OK2 := hok2 jx ⟨by rw [HJX.out]; exact Prod.ext rfl HJY.out.symm, hsm, hno⟩
                have hsz2 := B2.out.size
                clear hok2 hno hnb
                go_wp2_with (at_builtin; refine wpList_append_own _ rfl _ _ 22 rfl w.heap.size 9 i0 (.string ⟨#[]⟩) 1 16 Tryd.underlying22 hi hz0 hz1 hz2 rfl (by decide) _ _ _ rfl (hown2.out.alloc _) ⟨w2.heap.size, 0, none⟩ 1 1 [.string jx] rfl rfl (by intro j u hj; match j, hj with | 0, hj => (simp at hj; subst hj; simp [go_sem])) (by intro u hu; simp at hu; subst hu; rfl) (by unfold maxLen; omega) (by omega) (by simp; omega) ?_)
                intro v6 w6 own6 grow6 _
                have B6 := Lib.hid (show Below w.heap.size w w6 from ((B2.out.alloc hsz2 _).trans (below_grown grow6 (by simp; omega) (own_row hown2.out))))
                have O6 := Lib.hid (show w6.ownsRow w.heap.size 9 1 v6 (k + 1) ((R ++ [jx]).map Value.string) from by rw [List.map_append]; exact own6)
                clear own6 grow6 hown2 B2
                go_wp2_with fail
                go_roundw
                case rel => exact ⟨k + 1, R ++ [jx], by omega, by rw [List.length_append, hRk]; rfl, by go_num, O6, OK2, B6⟩
                case measure => first | (simp [intOf]; done) | (simp [intOf]; omega)
        · have gy : (jy == 0) = false := by rw [beq_eq_false_iff_ne]; exact hy
          have gy' : (jy != 0) = true := by unfold bne; rw [gy]; rfl
          clear hok2 hy
          go_wp2_with fail
          refine (J.out _ SR.out).mono ?_; rintro e w2 ⟨rfl, b2⟩
          have B2 := Lib.hid (below_step hbw.out b2)
          clear b2
          go_wp2_with fail
          go_ret
          exact ⟨rfl, B2.out⟩
      · have hRN : R.length = L.length := by have := HN.out; omega
        have hmapN : N = R.length := by omega
        have hRz : ∀ x ∈ R, x.size ≤ 2000 := fun x hx => by
          obtain ⟨j, hj, rfl⟩ := List.getElem_of_mem hx
          exact (hok.out j hj (by omega)).2.1
        have hfine : Ln.fineB R = true := by
          unfold Ln.fineB
          rw [List.all_eq_true]
          intro x hx
          obtain ⟨j, hj, rfl⟩ := List.getElem_of_mem hx
          exact (hok.out j hj (by omega)).2.2
        have hjn := Ln.jn_len R hRz
        have LJ := Lib.hid (fun W v (S : StS W v R) => ljoin_any v R W S (by omega) (by omega))
        have LO := Lib.hid (fun W hm => lof_any ⟨(Ln.jn R).toArray⟩ W m (by rw [Fd.arr_len]; omega) hm)
        rw [arr_list, Ln.cut_jn R hfine] at LO
        generalize (⟨(Ln.jn R).toArray⟩ : ByteArray) = JB at LJ LO
        have HRZ := Lib.hid hRz
        have hSR0 := Lst.own hown.out
        rw [show k = R.length from hRk.symm] at hSR0
        have hSR : StS wr _ R := hSR0
        clear hSR0
        have HSR := Lib.hid hSR
        obtain ⟨A3, c3, rfl, -⟩ := id hSR
        rw [← hmapN] at HSR ⊢
        have HNR := Lib.hid hmapN
        have HRL := Lib.hid hRN
        clear hown hRz hfine hjn hSR hmapN hRN hRk
        go_wp2_with fail
        refine (LJ.out _ _ HSR.out).mono ?_; rintro e w2 ⟨rfl, b2⟩
        have B2 := Lib.hid (below_step hbw.out b2)
        clear b2 hbw
        go_wp2_with fail
        refine (LO.out _ (fd_keep HM.out B2.out)).mono ?_; rintro e w3 ⟨v3, R3, S3, hl3, rfl, b3⟩
        have B3 := Lib.hid (below_step B2.out b3)
        obtain rfl : R3 = R := fd_bytes hl3
        have hmapN := HNR.out
        have S3' := Lib.hid S3
        obtain ⟨A4, c4, rfl, -⟩ := id S3
        rw [← hmapN] at S3' ⊢
        clear b3 hl3 S3 B2 HSR hmapN
        go_wp2_with fail
        go_loopw [74] (fun i wr => ∃ q : Nat, q ≤ N ∧ i = .int .i64 q ∧ Hid (Below w.heap.size w wr) ∧ Hid (Below w3.heap.size w3 wr)) (fun i _ => N - (intOf i).toNat)
        case atStart => exact ⟨0, Nat.zero_le _, rfl, B3, Lib.hid (Below.refl _ _)⟩
        case round =>
          obtain ⟨q, hq, rfl, hB, hB3⟩ := hrel
          by_cases hqt : q < N
          · have hql : q < L.length := by have := HN.out; omega
            have hqr : q < R3.length := by have := HNR.out; omega
            obtain ⟨a, B, d, rfl, g, SR⟩ := (HS.out.on hB.out).get q hql
            obtain ⟨a4, rfl, g4⟩ := (S3'.out.on hB3.out).get q hqr
            have hro := hok.out q hqr hql
            have hzr := HZ.out L[q] (List.getElem_mem hql)
            have SR := Lib.hid SR
            generalize hr : L[q] = r at g SR hro hzr
            generalize hx : R3[q] = x at g4 hro
            clear hr hx
            have OX := Lib.hid (fun W => fof_any x W (by have := hro.2.1; omega))
            rw [Fd.of_jn (Fd.bl r) _ hro.1] at OX
            have hr16 : r.length ≤ 16 := by
              have h := hro.1
              unfold Fd.jn at h
              by_cases h16 : 16 < (Fd.bl r).length
              · rw [if_pos h16] at h; have h6 : (6 : Int) = 0 := congrArg Prod.snd h; exact absurd h6 (by decide)
              · unfold Fd.bl at h16; rw [List.length_map] at h16; omega
            obtain ⟨rn, hrn⟩ : ∃ n, n = r.length := ⟨_, rfl⟩
            have HRN := Lib.hid hrn
            have SR : Hid (StS wr (.slice B rn d) r) := by rw [hrn]; exact SR
            rw [← hrn] at g hr16
            unfold AnsF at OX
            clear hro hzr hrn
            go_wp2_with fail
            refine (OX.out _).mono ?_; rintro e w5 ⟨v5, r5, S5, hl5, rfl, b5⟩
            have B5 := Lib.hid (below_step hB.out b5)
            have B53 := Lib.hid (below_step hB3.out b5)
            obtain rfl : r5 = r := fd_bytes (hl5.trans rfl)
            have SR5 := Lib.hid (SR.out.on b5)
            obtain ⟨A5, c5, rfl, -⟩ := id S5
            rw [← HRN.out]
            have S5 : Hid (StS w5 (.slice A5 rn c5) r5) := by rw [HRN.out]; exact S5
            clear b5 hl5 SR hB hB3
            go_wp2_with fail
            go_loopw [98] (fun i wr => ∃ t : Nat, t ≤ rn ∧ i = .int .i64 t ∧ Hid (Below w5.heap.size w5 wr)) (fun i _ => rn - (intOf i).toNat)
            case atStart => exact ⟨0, Nat.zero_le _, rfl, Lib.hid (Below.refl _ _)⟩
            case round =>
              obtain ⟨t, ht, rfl, hB6⟩ := hrel
              by_cases htt : t < rn
              · have htr : t < r5.length := by have := HRN.out; omega
                obtain ⟨a5, rfl, g5⟩ := (S5.out.on hB6.out).get t htr
                obtain ⟨a6, rfl, g6⟩ := (SR5.out.on hB6.out).get t htr
                generalize r5[t] = y at g5 g6
                go_wp2_with fail
                go_quiet (fail)
                go_wp2_with fail
                go_roundw
                case rel => exact ⟨t + 1, by omega, by go_num, Lib.hid (hB6.out.trans (below_draw _ _))⟩
                case measure => simp [intOf]; omega
              · have B7 := Lib.hid (below_step B5.out hB6.out)
                have B73 := Lib.hid (below_step B53.out hB6.out)
                go_wp2_with fail
                go_roundw
                case rel => exact ⟨q + 1, by omega, by go_num, B7, B73⟩
                case measure => simp [intOf]; omega
          · go_wp2_with fail
            go_ret
            exact ⟨rfl, hB.out⟩
end Go.Proofs.YtnkmpchonlajpaaDoor


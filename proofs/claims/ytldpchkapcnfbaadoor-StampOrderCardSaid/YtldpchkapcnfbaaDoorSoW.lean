/- The walk of StampOrder: whatever two numbers, the law answers true; nothing old turns. -/
import Derived.Test.YtldpchkapcnfbaaDoorSoA
import Derived.Test.YtldpchkapcnfbaaDoorSoB
set_option linter.unusedVariables false
set_option linter.unusedSimpArgs false
namespace Go.Proofs.YtldpchkapcnfbaaDoor
open Go.RowKit Go.Sort


/-- A number that has a stamp. -/
theorem so_parts (t : Int) (h : Cal.hasD (t / 86400) = true) : St.rB (Cal.dY (t / 86400)) (Cal.dM (t / 86400)) (Cal.dD (t / 86400)) (t % 86400 / 3600) (t % 86400 / 60 % 60) (t % 86400 % 60) = true ∧
    St.sec (Cal.dY (t / 86400)) (Cal.dM (t / 86400)) (Cal.dD (t / 86400)) (t % 86400 / 3600) (t % 86400 / 60 % 60) (t % 86400 % 60) = t := by
  have hb := Cal.hasD_true.1 h
  have R := Cal.date_right (t / 86400) hb.1 hb.2
  have n := Cal.date_num (t / 86400)
  refine ⟨St.rB_true.2 ⟨right_true.2 R, by omega, by omega, by omega, by omega, by omega, by omega⟩, ?_⟩
  unfold St.sec
  rw [n]
  omega
theorem so_walk (t u : Int) (w : World) (htab : Lib.TabIs Tryd.prog w "internal/strconv.uint64pow10" .u64 Lib.pow10Tab) (t0 : -9223372036854775808 ≤ t) (t1 : t ≤ 9223372036854775807) (u0 : -9223372036854775808 ≤ u) (u1 : u ≤ 9223372036854775807) :
    Calls Tryd.prog 4 #[.int .i64 t, .int .i64 u] w fun e w' => e = .returned (.bool true) ∧ Below w.heap.size w w' := by
  have SP := Lib.hid (fun W => split_any t W t0 t1)
  cases ht : Cal.hasD (t / 86400)
  · have OA := Lib.hid (fun W => sof_no t W t0 t1 ht)
    cases hu : Cal.hasD (u / 86400)
    · exact so_n t u _ _ _ _ _ _ _ _ _ _ _ _ _ _ 1 1 w htab rfl rfl (by omega) (by omega) OA (Lib.hid (fun W => sof_no u W u0 u1 hu)) SP
    · exact so_n t u _ _ _ _ _ _ _ _ _ _ _ _ _ _ 1 0 w htab rfl rfl (by omega) (by omega) OA (Lib.hid (fun W => sof_yes u W u0 u1 hu)) SP
  · have OA := Lib.hid (fun W => sof_yes t W t0 t1 ht)
    cases hu : Cal.hasD (u / 86400)
    · exact so_yn t u _ _ _ _ _ _ _ _ _ _ _ _ _ _ 1 w htab rfl rfl (by omega) (by omega) OA (Lib.hid (fun W => sof_no u W u0 u1 hu)) SP
    · have OB := Lib.hid (fun W => sof_yes u W u0 u1 hu)
      obtain ⟨ra, ea⟩ := so_parts t ht
      obtain ⟨rb, eb⟩ := so_parts u hu
      have qb := Cal.hasD_true.1 ht
      have DA : Hid (∀ W, Calls Tryd.prog 24 #[.agg #[.int .i64 (Cal.dY (t / 86400)), .int .i64 (Cal.dM (t / 86400)), .int .i64 (Cal.dD (t / 86400))]] W fun e w' => e = .returned (.tuple #[.int .i64 (t / 86400), .int .i64 0]) ∧ Below W.heap.size W w') := fun W => by
        have := days_any (Cal.dY (t / 86400)) (Cal.dM (t / 86400)) (Cal.dD (t / 86400)) W
        rw [(St.rB_true.1 ra).1, Cal.date_num] at this
        exact this
      have CC := Lib.hid (fun W => dcompare (Cal.dY (t / 86400)) (Cal.dM (t / 86400)) (Cal.dD (t / 86400)) (Cal.dY (u / 86400)) (Cal.dM (u / 86400)) (Cal.dD (u / 86400)) W)
      have XF : Hid (∀ y m d h i s W, Lib.TabIs Tryd.prog W "internal/strconv.uint64pow10" .u64 Lib.pow10Tab → Calls Tryd.prog 26 #[.agg #[.int .i64 y, .int .i64 m, .int .i64 d, .int .i64 h, .int .i64 i, .int .i64 s]] W fun e w' => e = .returned (.string ((fun y m d h i s => (⟨(St.tx y m d h i s).toArray⟩ : ByteArray)) y m d h i s)) ∧ Below W.heap.size W w') := fun y m d h i s W T => stext_any y m d h i s W T
      have GT : ∀ n1 : ¬ Cal.dY (t / 86400) < 0, ∀ n2 : ¬ 9999 < Cal.dY (t / 86400), ∀ n3 : ¬ Cal.dY (u / 86400) < 0, ∀ n4 : ¬ 9999 < Cal.dY (u / 86400), Op.bytesLess (⟨(St.tx (Cal.dY (t / 86400)) (Cal.dM (t / 86400)) (Cal.dD (t / 86400)) (t % 86400 / 3600) (t % 86400 / 60 % 60) (t % 86400 % 60)).toArray⟩ : ByteArray).toList (⟨(St.tx (Cal.dY (u / 86400)) (Cal.dM (u / 86400)) (Cal.dD (u / 86400)) (u % 86400 / 3600) (u % 86400 / 60 % 60) (u % 86400 % 60)).toArray⟩ : ByteArray).toList = decide (t < u) := by
        intro n1 n2 n3 n4
        rw [ByteArray.toList_eq, ByteArray.toList_eq]
        show Op.bytesLess (St.tx _ _ _ _ _ _) (St.tx _ _ _ _ _ _) = _
        unfold St.tx
        rw [ra, rb]
        rw [Bool.eq_iff_iff, decide_eq_true_eq]
        have := So.less_txt ra rb (by omega) (by omega) (by omega) (by omega)
        simp only [if_true]
        rw [this, So.sec_lt ra rb, ea, eb]
      have order : (cmpD (Cal.dY (t / 86400)) (Cal.dM (t / 86400)) (Cal.dD (t / 86400)) (Cal.dY (u / 86400)) (Cal.dM (u / 86400)) (Cal.dD (u / 86400)) < 0 ↔ t / 86400 < u / 86400) ∧ (cmpD (Cal.dY (t / 86400)) (Cal.dM (t / 86400)) (Cal.dD (t / 86400)) (Cal.dY (u / 86400)) (Cal.dM (u / 86400)) (Cal.dD (u / 86400)) = 0 ↔ t / 86400 = u / 86400) := by
        have Ra := right_true.1 (St.rB_true.1 ra).1
        have Rb := right_true.1 (St.rB_true.1 rb).1
        have na := Cal.date_num (t / 86400)
        have nb := Cal.date_num (u / 86400)
        rw [cmpD_lt, cmpD_zero]
        refine ⟨⟨fun h => by have := Cal.num_lt Ra Rb h; omega, fun h => ?_⟩, ⟨fun ⟨a, b, c⟩ => by rw [a, b, c] at na; omega, fun h => by rw [h]; exact ⟨rfl, rfl, rfl⟩⟩⟩
        rcases Cal.lt_or (y := Cal.dY (t / 86400)) (m := Cal.dM (t / 86400)) (d := Cal.dD (t / 86400)) (y' := Cal.dY (u / 86400)) (m' := Cal.dM (u / 86400)) (d' := Cal.dD (u / 86400)) with a | ⟨a, b, c⟩ | a
        · exact a
        · rw [a, b, c] at na; omega
        · have := Cal.num_lt Rb Ra a; omega
      obtain ⟨o1, o2⟩ := order
      generalize hc : cmpD (Cal.dY (t / 86400)) (Cal.dM (t / 86400)) (Cal.dD (t / 86400)) (Cal.dY (u / 86400)) (Cal.dM (u / 86400)) (Cal.dD (u / 86400)) = c at CC o1 o2
      clear hc ra rb ea eb
      by_cases htu : t < u
      · by_cases hq : t / 86400 < u / 86400
        · skip
          by_cases n1 : Cal.dY (t / 86400) < 0
          · exact so_l1a t u _ _ _ _ _ _ _ _ _ _ _ _ (t / 86400) (t % 86400) (u % 86400) c w htab (by omega) (by omega) (by omega) (by omega) (by omega) (by omega) (by omega) (by omega) (by omega) (by omega) (by omega) (by omega) qb.1 qb.2 (by omega) (by omega) (by omega) (by omega) htu n1 OA OB SP DA CC
          by_cases n2 : 9999 < Cal.dY (t / 86400)
          · exact so_l1b t u _ _ _ _ _ _ _ _ _ _ _ _ (t / 86400) (t % 86400) (u % 86400) c w htab (by omega) (by omega) (by omega) (by omega) (by omega) (by omega) (by omega) (by omega) (by omega) (by omega) (by omega) (by omega) qb.1 qb.2 (by omega) (by omega) (by omega) (by omega) htu n1 n2 OA OB SP DA CC
          by_cases n3 : Cal.dY (u / 86400) < 0
          · exact so_l1c t u _ _ _ _ _ _ _ _ _ _ _ _ (t / 86400) (t % 86400) (u % 86400) c w htab (by omega) (by omega) (by omega) (by omega) (by omega) (by omega) (by omega) (by omega) (by omega) (by omega) (by omega) (by omega) qb.1 qb.2 (by omega) (by omega) (by omega) (by omega) htu n1 n2 n3 OA OB SP DA CC
          by_cases n4 : 9999 < Cal.dY (u / 86400)
          · exact so_l1d t u _ _ _ _ _ _ _ _ _ _ _ _ (t / 86400) (t % 86400) (u % 86400) c w htab (by omega) (by omega) (by omega) (by omega) (by omega) (by omega) (by omega) (by omega) (by omega) (by omega) (by omega) (by omega) qb.1 qb.2 (by omega) (by omega) (by omega) (by omega) htu n1 n2 n3 n4 OA OB SP DA CC
          exact so_l1i t u _ _ _ _ _ _ _ _ _ _ _ _ (t / 86400) (t % 86400) (u % 86400) c w htab (by omega) (by omega) (by omega) (by omega) (by omega) (by omega) (by omega) (by omega) (by omega) (by omega) (by omega) (by omega) qb.1 qb.2 (by omega) (by omega) (by omega) (by omega) htu n1 n2 n3 n4 OA OB SP DA CC (fun y m d h i s => (⟨(St.tx y m d h i s).toArray⟩ : ByteArray)) XF (by rw [GT n1 n2 n3 n4]; exact decide_eq_true htu)
        · skip
          by_cases n1 : Cal.dY (t / 86400) < 0
          · exact so_l2a t u _ _ _ _ _ _ _ _ _ _ _ _ (t / 86400) (t % 86400) (u % 86400) c w htab (by omega) (by omega) (by omega) (by omega) (by omega) (by omega) (by omega) (by omega) (by omega) (by omega) (by omega) (by omega) qb.1 qb.2 (by omega) (by omega) (by omega) (by omega) (by omega) (by omega) htu n1 OA OB SP DA CC
          by_cases n2 : 9999 < Cal.dY (t / 86400)
          · exact so_l2b t u _ _ _ _ _ _ _ _ _ _ _ _ (t / 86400) (t % 86400) (u % 86400) c w htab (by omega) (by omega) (by omega) (by omega) (by omega) (by omega) (by omega) (by omega) (by omega) (by omega) (by omega) (by omega) qb.1 qb.2 (by omega) (by omega) (by omega) (by omega) (by omega) (by omega) htu n1 n2 OA OB SP DA CC
          by_cases n3 : Cal.dY (u / 86400) < 0
          · exact so_l2c t u _ _ _ _ _ _ _ _ _ _ _ _ (t / 86400) (t % 86400) (u % 86400) c w htab (by omega) (by omega) (by omega) (by omega) (by omega) (by omega) (by omega) (by omega) (by omega) (by omega) (by omega) (by omega) qb.1 qb.2 (by omega) (by omega) (by omega) (by omega) (by omega) (by omega) htu n1 n2 n3 OA OB SP DA CC
          by_cases n4 : 9999 < Cal.dY (u / 86400)
          · exact so_l2d t u _ _ _ _ _ _ _ _ _ _ _ _ (t / 86400) (t % 86400) (u % 86400) c w htab (by omega) (by omega) (by omega) (by omega) (by omega) (by omega) (by omega) (by omega) (by omega) (by omega) (by omega) (by omega) qb.1 qb.2 (by omega) (by omega) (by omega) (by omega) (by omega) (by omega) htu n1 n2 n3 n4 OA OB SP DA CC
          exact so_l2i t u _ _ _ _ _ _ _ _ _ _ _ _ (t / 86400) (t % 86400) (u % 86400) c w htab (by omega) (by omega) (by omega) (by omega) (by omega) (by omega) (by omega) (by omega) (by omega) (by omega) (by omega) (by omega) qb.1 qb.2 (by omega) (by omega) (by omega) (by omega) (by omega) (by omega) htu n1 n2 n3 n4 OA OB SP DA CC (fun y m d h i s => (⟨(St.tx y m d h i s).toArray⟩ : ByteArray)) XF (by rw [GT n1 n2 n3 n4]; exact decide_eq_true htu)
      · by_cases hq : t / 86400 = u / 86400
        · skip
          by_cases n1 : Cal.dY (t / 86400) < 0
          · exact so_g1a t u _ _ _ _ _ _ _ _ _ _ _ _ (t / 86400) (t % 86400) (u % 86400) c w htab (by omega) (by omega) (by omega) (by omega) (by omega) (by omega) (by omega) (by omega) (by omega) (by omega) (by omega) (by omega) qb.1 qb.2 (by omega) (by omega) (by omega) (by omega) (by omega) (decide_eq_false (by omega)) (decide_eq_false htu) n1 OA OB SP DA CC
          by_cases n2 : 9999 < Cal.dY (t / 86400)
          · exact so_g1b t u _ _ _ _ _ _ _ _ _ _ _ _ (t / 86400) (t % 86400) (u % 86400) c w htab (by omega) (by omega) (by omega) (by omega) (by omega) (by omega) (by omega) (by omega) (by omega) (by omega) (by omega) (by omega) qb.1 qb.2 (by omega) (by omega) (by omega) (by omega) (by omega) (decide_eq_false (by omega)) (decide_eq_false htu) n1 n2 OA OB SP DA CC
          by_cases n3 : Cal.dY (u / 86400) < 0
          · exact so_g1c t u _ _ _ _ _ _ _ _ _ _ _ _ (t / 86400) (t % 86400) (u % 86400) c w htab (by omega) (by omega) (by omega) (by omega) (by omega) (by omega) (by omega) (by omega) (by omega) (by omega) (by omega) (by omega) qb.1 qb.2 (by omega) (by omega) (by omega) (by omega) (by omega) (decide_eq_false (by omega)) (decide_eq_false htu) n1 n2 n3 OA OB SP DA CC
          by_cases n4 : 9999 < Cal.dY (u / 86400)
          · exact so_g1d t u _ _ _ _ _ _ _ _ _ _ _ _ (t / 86400) (t % 86400) (u % 86400) c w htab (by omega) (by omega) (by omega) (by omega) (by omega) (by omega) (by omega) (by omega) (by omega) (by omega) (by omega) (by omega) qb.1 qb.2 (by omega) (by omega) (by omega) (by omega) (by omega) (decide_eq_false (by omega)) (decide_eq_false htu) n1 n2 n3 n4 OA OB SP DA CC
          exact so_g1i t u _ _ _ _ _ _ _ _ _ _ _ _ (t / 86400) (t % 86400) (u % 86400) c w htab (by omega) (by omega) (by omega) (by omega) (by omega) (by omega) (by omega) (by omega) (by omega) (by omega) (by omega) (by omega) qb.1 qb.2 (by omega) (by omega) (by omega) (by omega) (by omega) (decide_eq_false (by omega)) (decide_eq_false htu) n1 n2 n3 n4 OA OB SP DA CC (fun y m d h i s => (⟨(St.tx y m d h i s).toArray⟩ : ByteArray)) XF (by rw [GT n1 n2 n3 n4]; exact decide_eq_false htu)
        · skip
          by_cases n1 : Cal.dY (t / 86400) < 0
          · exact so_g2a t u _ _ _ _ _ _ _ _ _ _ _ _ (t / 86400) (t % 86400) (u % 86400) c w htab (by omega) (by omega) (by omega) (by omega) (by omega) (by omega) (by omega) (by omega) (by omega) (by omega) (by omega) (by omega) qb.1 qb.2 (by omega) (by omega) (by omega) (by omega) (by rw [beq_eq_false_iff_ne]; omega) (decide_eq_false htu) n1 OA OB SP DA CC
          by_cases n2 : 9999 < Cal.dY (t / 86400)
          · exact so_g2b t u _ _ _ _ _ _ _ _ _ _ _ _ (t / 86400) (t % 86400) (u % 86400) c w htab (by omega) (by omega) (by omega) (by omega) (by omega) (by omega) (by omega) (by omega) (by omega) (by omega) (by omega) (by omega) qb.1 qb.2 (by omega) (by omega) (by omega) (by omega) (by rw [beq_eq_false_iff_ne]; omega) (decide_eq_false htu) n1 n2 OA OB SP DA CC
          by_cases n3 : Cal.dY (u / 86400) < 0
          · exact so_g2c t u _ _ _ _ _ _ _ _ _ _ _ _ (t / 86400) (t % 86400) (u % 86400) c w htab (by omega) (by omega) (by omega) (by omega) (by omega) (by omega) (by omega) (by omega) (by omega) (by omega) (by omega) (by omega) qb.1 qb.2 (by omega) (by omega) (by omega) (by omega) (by rw [beq_eq_false_iff_ne]; omega) (decide_eq_false htu) n1 n2 n3 OA OB SP DA CC
          by_cases n4 : 9999 < Cal.dY (u / 86400)
          · exact so_g2d t u _ _ _ _ _ _ _ _ _ _ _ _ (t / 86400) (t % 86400) (u % 86400) c w htab (by omega) (by omega) (by omega) (by omega) (by omega) (by omega) (by omega) (by omega) (by omega) (by omega) (by omega) (by omega) qb.1 qb.2 (by omega) (by omega) (by omega) (by omega) (by rw [beq_eq_false_iff_ne]; omega) (decide_eq_false htu) n1 n2 n3 n4 OA OB SP DA CC
          exact so_g2i t u _ _ _ _ _ _ _ _ _ _ _ _ (t / 86400) (t % 86400) (u % 86400) c w htab (by omega) (by omega) (by omega) (by omega) (by omega) (by omega) (by omega) (by omega) (by omega) (by omega) (by omega) (by omega) qb.1 qb.2 (by omega) (by omega) (by omega) (by omega) (by rw [beq_eq_false_iff_ne]; omega) (decide_eq_false htu) n1 n2 n3 n4 OA OB SP DA CC (fun y m d h i s => (⟨(St.tx y m d h i s).toArray⟩ : ByteArray)) XF (by rw [GT n1 n2 n3 n4]; exact decide_eq_false htu)
end Go.Proofs.YtldpchkapcnfbaaDoor


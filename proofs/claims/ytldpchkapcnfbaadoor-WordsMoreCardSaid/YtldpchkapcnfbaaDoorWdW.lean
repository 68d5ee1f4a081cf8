/- The walk of WordsMore: whatever words and number, the law answers true; nothing old turns. -/
import Derived.Test.YtldpchkapcnfbaaDoorLiv15
import Derived.Test.YtldpchkapcnfbaaDoorWdG
import Derived.Deep.RegionLaw
import Derived.SizedLaws
set_option linter.unusedVariables false
set_option linter.unusedSimpArgs false
namespace Go.Proofs.YtldpchkapcnfbaaDoor
open Go.RowKit Go.Sort

set_option maxRecDepth 100000 in
theorem month_mt (k : Nat) (h1 : 1 ≤ k) (h2 : k ≤ 12) (w : World) (T : Wd.Tabs w) :
    Calls Tryd.prog 15 #[.string (Wd.t3 Wd.months ((k : Int) - 1))] w fun e w' => e = .returned (.tuple #[.int .i64 (k : Int), .int .i64 0]) ∧ Below w.heap.size w w' := by
  obtain rfl | rfl | rfl | rfl | rfl | rfl | rfl | rfl | rfl | rfl | rfl | rfl : k = 1 ∨ k = 2 ∨ k = 3 ∨ k = 4 ∨ k = 5 ∨ k = 6 ∨ k = 7 ∨ k = 8 ∨ k = 9 ∨ k = 10 ∨ k = 11 ∨ k = 12 := by omega
  all_goals exact month_c _ _ _ (by decide +kernel) (by decide +kernel) (by unfold maxLen; decide +kernel) w T
set_option maxRecDepth 100000 in
theorem weekday_mt (k : Nat) (h2 : k ≤ 6) (w : World) (T : Wd.Tabs w) :
    Calls Tryd.prog 17 #[.string (Wd.t3 Wd.days ((k : Int) - 0))] w fun e w' => e = .returned (.tuple #[.int .i64 (k : Int), .int .i64 0]) ∧ Below w.heap.size w w' := by
  obtain rfl | rfl | rfl | rfl | rfl | rfl | rfl : k = 0 ∨ k = 1 ∨ k = 2 ∨ k = 3 ∨ k = 4 ∨ k = 5 ∨ k = 6 := by omega
  all_goals exact weekday_c _ _ _ (by decide +kernel) (by decide +kernel) (by unfold maxLen; decide +kernel) w T
theorem step_append_own {P : Program} {ops : Array Oper} {o : Oper} {a : Act} {w : World} {K : Act → World → Prop} {Q : Exit → Act → World → Prop} {E : Prop} (hg : o.guard = none) (s x : Operand) (t : TypeId)
    (ho : o.op = .call { callee := .builtin .append, args := #[s, x], argTypes := #[t, t] })
    (base : Nat) (e : TypeId) (i : TypeInfo) (z : Value) (size bytes : Nat) (ht : P.underlying t = some (.slice e)) (hi : P.info? e = some i) (hz : i.zero = some z)
    (hsize : i.size = size) (hby : i.bytes = bytes) (hzs : z.cells.size = size) (hsz : 0 < size)
    (v : Value) (n : Nat) (xs : List Value) (hs : a.eval s = v) (hown : w.ownsRow base e size v n xs)
    (ad : Addr) (m c : Nat) (news : List Value) (hx : a.eval x = .slice (some ad) m c) (hl : news.length = m * size) (hnews : ∀ j u, news[j]? = some u → w.cell? (ad.add j) = some u) (h1 : ∀ u ∈ news, u.oneCell' = true)
    (h63 : n + m ≤ maxLen) (hbytes : (n + m) * bytes ≤ 140737488355328) (hbase : base ≤ w.heap.size)
    (h : ∀ v' w', w'.ownsRow base e size v' (n + m) (xs ++ news) → w.grownBy w' v.ownBlock → K (a.put o.dst v') w') : if Region.wanted o (yielded ops a.tmps) = true then Oper.wp P o a w K Q else E := by
  rw [if_pos (by simp [Region.wanted, hg])]
  exact wp_append_own w s x t ho base e i z size bytes ht hi hz hsize hby hzs hsz v n xs hs hown ad m c news hx hl hnews h1 h63 hbytes hbase fun v' w' h1 h2 _ => h v' w' h1 h2
theorem ss_app (a b : ByteArray) : (a ++ b).size = a.size + b.size := by simp
theorem StS.cells {w : World} {a : Addr} {N c : Nat} {l : List ByteArray} (h : StS w (.slice (some a) N c) l) (hN : 0 < l.length) : ∀ (j : Nat) (u : Value), (l.map Value.string)[j]? = some u → w.cell? (a.add j) = some u := by
  obtain ⟨A', c', hv, ha⟩ := h
  cases hv
  obtain ⟨a', e, -, hc⟩ := ha hN
  cases e
  exact hc
theorem StS.own {w : World} {base : Nat} {e : TypeId} {v : Value} {N : Nat} {l : List ByteArray} {y : ByteArray} (hN : N = l.length) (h : w.ownsRow base e 1 v (N + 1) ((l.map Value.string) ++ [.string y])) : StS w v (l ++ [y]) := by
  have := Lst.own h
  unfold StS
  rw [List.length_append, List.map_append, ← hN]
  exact this
theorem own_start {W : World} {base : Nat} {e : TypeId} (hb : base ≤ W.heap.size) : (W.alloc (.cells #[] e)).ownsRow base e 1 (.slice (some ⟨W.heap.size, 0, none⟩) 0 0) 0 [] := World.ownsRow_made W #[] 0 hb (Nat.zero_le _) rfl
theorem own_start2 {W : World} {base : Nat} {e : TypeId} {o : Obj} (hb : base ≤ W.heap.size) : ((W.alloc o).alloc (.cells #[] e)).ownsRow base e 1 (.slice (some ⟨W.heap.size + 1, 0, none⟩) 0 0) 0 [] := by
  have hs : (W.alloc o).heap.size = W.heap.size + 1 := by simp
  have := own_start (W := W.alloc o) (e := e) (base := base) (by omega)
  rw [hs] at this
  exact this
theorem one_cell {w : World} {b : Nat} {x : Value} (h0 : w.cell? ⟨b, 0, none⟩ = some x) : ∀ (j : Nat) (v : Value), [x][j]? = some v → w.cell? ((⟨b, 0, none⟩ : Addr).add j) = some v := by
  intro j v hj
  match j, hj with
  | 0, hj => simp at hj; subst hj; simpa [Addr.add] using h0
theorem ck3 {B : Nat} {W W' : World} {a : Addr} {v : Value} (k : Below B W W') (hB : B = W.heap.size) (h : W.cell? a = some v) : W'.cell? a = some v := (k.cell (hB ▸ World.block_lt_of_cell? _ _ h)).trans h
theorem info_string : (Tryd.prog.info? 9).map (fun i => (i.zero, i.size, i.bytes)) = some (some (.string ⟨#[]⟩), 1, 16) := by kernel_rfl
/-- What Match means, as the law asks for it. -/
theorem wm_facts (s : ByteArray) (l : List ByteArray) : Wd.mat s.data.toList l = (0, 3) ∨ ∃ (p : Nat) (hp : p < l.length), Wd.mat s.data.toList l = ((p : Int), 0) ∧
    ((l[p].size = s.size ∧ Wd.same l[p].data.toList s.data.toList = true) ∨ (s.size < l[p].size ∧ (∃ (j : Nat) (hj : j < l.length), Wd.mat (s ++ l[p].extract s.size (s.size + 1)).data.toList l = ((j : Int), 0) ∧ Wd.same l[j].data.toList l[p].data.toList = true) ∧
      Wd.mat s.data.toList (l ++ [l[p] ++ ⟨#[120]⟩]) = (0, 3))) := by
  have bd := Wd.mat_bd s.data.toList l
  rcases bd.2.2 with h | h
  · obtain ⟨p, hp, e, hs, hw⟩ := Wd.mat_ok h
    refine .inr ⟨p, hp, e, ?_⟩
    by_cases c2 : l[p].size = s.size
    · left
      refine ⟨c2, ?_⟩
      rcases hw with h | ⟨_, h, _⟩
      · exact h
      · unfold Wd.same; rw [blen, blen, c2, h]; simp
    · right
      obtain ⟨hno, hb, hc⟩ : (∀ x ∈ l, ¬ Wd.same x.data.toList s.data.toList = true) ∧ Wd.beg l[p].data.toList s.data.toList = true ∧ ∀ y ∈ l, Wd.beg y.data.toList s.data.toList = true → Wd.same l[p].data.toList y.data.toList = true := by
        rcases hw with h | h
        · have := (Wd.same_iff.1 h).1; rw [blen, blen] at this; omega
        · exact h
      have hle : s.size ≤ l[p].size := by have := (Wd.beg_iff.1 hb).1; rw [blen, blen] at this; exact this
      have hlt : s.data.toList.length < l[p].data.toList.length := by rw [blen, blen]; omega
      have hcut : (l[p].extract s.size (s.size + 1)).data.toList = [l[p].data.toList[s.data.toList.length]] := bytes_cut1 _ s.data.toList.length hlt
      have ht : Wd.beg l[p].data.toList (s.data.toList ++ (l[p].extract s.size (s.size + 1)).data.toList) = true := by rw [hcut]; exact Wd.beg_next hb hlt
      obtain ⟨j, hj, e2, hjk⟩ := Wd.mat_more hp hs ht hc
      refine ⟨by omega, ⟨j, hj, by rw [bytes_app]; exact e2, hjk⟩, ?_⟩
      exact Wd.mat_also hp hs _ (by rw [bytes_app]; simp) hb (by rw [bytes_app]; exact Wd.beg_longer hb) hno
  · exact .inl (Prod.ext h.2 h.1)
theorem below_gr {w W W' : World} {row : Option Nat} (h : Below w.heap.size w W) (g : W.grownBy W' row) (hr : ∀ k, row = some k → w.heap.size ≤ k) : Below w.heap.size w W' := h.trans (below_grown g h.size hr)

set_option maxHeartbeats 1000000 in
set_option maxRecDepth 100000 in
theorem wmore_out1 (s : ByteArray) (v : Value) (l : List ByteArray) (n : Int) (w : World) (T : Wd.Tabs w) (hv : StS w v l) (h : (500 : Int) < (s.size : Int)) :
    Calls Tryd.prog 3 #[.string s, v, .int .i64 n] w fun e w' => e = .returned (.bool true) ∧ Below w.heap.size w w' := by
  have L := Lib.hid (fun w h => lives15 w h)
  have T0 := Lib.hid T
  obtain ⟨A, c, rfl, -⟩ := hv
  clear T
  go_enter Tryd.func3, Tryd.ntmps3
  go_wp2_with fail
  refine (L.out _ T0.out).mono ?_; rintro e w1 ⟨rfl, b1⟩
  have B1 := Lib.hid b1; clear b1
  go_wp2_with fail
  go_ret
  exact ⟨rfl, B1.out⟩
set_option maxHeartbeats 1000000 in
set_option maxRecDepth 100000 in
theorem wmore_out2 (s : ByteArray) (v : Value) (l : List ByteArray) (n : Int) (w : World) (T : Wd.Tabs w) (hv : StS w v l) (h0 : ¬ (500 : Int) < (s.size : Int)) (h : (60 : Int) < (l.length : Int)) :
    Calls Tryd.prog 3 #[.string s, v, .int .i64 n] w fun e w' => e = .returned (.bool true) ∧ Below w.heap.size w w' := by
  have L := Lib.hid (fun w h => lives15 w h)
  have T0 := Lib.hid T
  obtain ⟨A, c, rfl, -⟩ := hv
  clear T
  go_enter Tryd.func3, Tryd.ntmps3
  go_wp2_with fail
  refine (L.out _ T0.out).mono ?_; rintro e w1 ⟨rfl, b1⟩
  have B1 := Lib.hid b1; clear b1
  go_wp2_with fail
  go_ret
  exact ⟨rfl, B1.out⟩
set_option maxHeartbeats 4000000 in
set_option maxRecDepth 100000 in
theorem wmore_in (s : ByteArray) (v : Value) (l : List ByteArray) (n : Int) (w : World) (T : Wd.Tabs w) (hv : StS w v l) (hz : ∀ x ∈ l, x.size ≤ reachBytes) (h0 : ¬ (500 : Int) < (s.size : Int)) (h2 : ¬ (60 : Int) < (l.length : Int)) :
    Calls Tryd.prog 3 #[.string s, v, .int .i64 n] w fun e w' => e = .returned (.bool true) ∧ Below w.heap.size w w' := by
  have L := Lib.hid (fun w h => lives15 w h)
  have T0 := Lib.hid T
  have hzM : ∀ x ∈ l, x.size ≤ maxLen := fun x hx => Nat.le_trans (hz x hx) (by unfold reachBytes maxLen; decide)
  have ms : s.size ≤ maxLen := by unfold maxLen; omega
  have ml : l.length ≤ maxLen := by unfold maxLen; omega
  have MT := Lib.hid (fun n W h => mtext_any n W h)
  have MM := Lib.hid month_mt
  have DT := Lib.hid (fun n W h => dtext_any n W h)
  have DM := Lib.hid weekday_mt
  have HV := Lib.hid hv
  have HZ := Lib.hid hz
  have HZM := Lib.hid hzM
  have HM := Lib.hid (wm_facts s l)
  obtain ⟨A, c, rfl, -⟩ := hv
  have MS := Lib.hid ms; have ML := Lib.hid ml
  obtain ⟨N, hn⟩ : ∃ N, N = l.length := ⟨_, rfl⟩
  rw [← hn] at h2 HV ⊢
  have MC : Hid (∀ p q, Wd.mat s.data.toList l = (p, q) → ∀ W, StS W (.slice A N c) l → Calls Tryd.prog 19 #[.string s, .slice A N c] W fun e w' => e = .returned (.tuple #[.int .i64 p, .int .i64 q]) ∧ Below W.heap.size W w') := fun p q e W h => match_c s l p q e ms hzM ml W _ h
  have HN := Lib.hid hn
  clear hn T hz hzM ms ml
  go_enter Tryd.func3, Tryd.ntmps3
  go_wp2_with fail
  refine (L.out _ T0.out).mono ?_; rintro e w1 ⟨rfl, b1⟩
  have B1 := Lib.hid b1; clear b1
  go_wp2_with fail
  go_loopw [7] (fun i wr => ∃ (k : Nat), 1 ≤ k ∧ k ≤ 13 ∧ i = .int .i64 k ∧ Hid (Below w.heap.size w wr)) (fun i _ => 13 - (intOf i).toNat)
  case atStart => exact ⟨1, by omega, by omega, rfl, B1⟩
  case round =>
    obtain ⟨k, k1, k2, rfl, hB⟩ := hrel
    by_cases hlt : k < 13
    · go_wp2_with fail
      refine (MT.out _ _ (Wd.Tabs.on T0.out hB.out)).mono ?_; rintro e wa ⟨rfl, ba⟩
      have hA := Lib.hid (below_step hB.out ba); clear ba
      go_wp2_with fail
      refine (MM.out k k1 (by omega) _ (Wd.Tabs.on T0.out hA.out)).mono ?_; rintro e wb ⟨rfl, bb⟩
      have hC := Lib.hid (below_step hA.out bb); clear bb
      go_wp2_with fail
      go_roundw
      case rel => exact ⟨k + 1, by omega, by omega, by go_num, hC⟩
      case measure => simp [intOf]; omega
    · go_wp2_with fail
      go_loopw [10] (fun i wx => ∃ (k : Nat), k ≤ 7 ∧ i = .int .i64 k ∧ Hid (Below w.heap.size w wx)) (fun i _ => 7 - (intOf i).toNat)
      case atStart => exact ⟨0, by omega, rfl, hB⟩
      case round =>
        obtain ⟨k', k1', rfl, hB'⟩ := hrel
        by_cases hlt' : k' < 7
        · go_wp2_with fail
          refine (DT.out _ _ (Wd.Tabs.on T0.out hB'.out)).mono ?_; rintro e wa ⟨rfl, ba⟩
          have hA := Lib.hid (below_step hB'.out ba); clear ba
          go_wp2_with fail
          refine (DM.out k' (by omega) _ (Wd.Tabs.on T0.out hA.out)).mono ?_; rintro e wb ⟨rfl, bb⟩
          have hC := Lib.hid (below_step hA.out bb); clear bb
          go_wp2_with fail
          go_roundw
          case rel => exact ⟨k' + 1, by omega, by go_num, hC⟩
          case measure => simp [intOf]; omega
        · rcases HM.out with e0 | ⟨p, hp, e0, hw⟩
          · go_wp2_with fail
            refine (MC.out 0 3 e0 _ (StS.on HV.out hB'.out)).mono ?_; rintro e wa ⟨rfl, ba⟩
            have hA := Lib.hid (below_step hB'.out ba); clear ba
            go_wp2_with fail
            go_ret
            exact ⟨rfl, hA.out⟩
          · clear HM
            have xz := HZ.out _ (List.getElem_mem hp)
            have xm := HZM.out _ (List.getElem_mem hp)
            have pN : p < N := by rw [HN.out]; exact hp
            have hw' := Lib.hid hw; clear hw
            go_wp2_with fail
            refine (MC.out p 0 e0 _ (StS.on HV.out hB'.out)).mono ?_; rintro e wa ⟨rfl, ba⟩
            have hA := Lib.hid (below_step hB'.out ba); clear ba
            obtain ⟨a, rfl, g1⟩ := (StS.on HV.out hA.out).get p hp
            have GW := Lib.hid (show w.cell? (a.add p) = some (.string l[p]) by obtain ⟨a', ha', h⟩ := HV.out.get p hp; cases ha'; exact h)
            generalize hx : l[p]'hp = x at *
            rcases hw'.out with ⟨c2, hsm⟩ | ⟨c2, ⟨j, hj, e2, hjk⟩, e3⟩
            · have C := Lib.hid (wsame_c x s true hsm xm MS.out)
              have g : ((x.size : Int) == (s.size : Int)) = true := by rw [beq_iff_eq]; omega
              clear hsm hw'
              go_wp2_with fail
              refine (C.out _).mono ?_; rintro e wb ⟨rfl, bb⟩
              have hC := Lib.hid (below_step hA.out bb); clear bb
              go_wp2_with fail
              go_ret
              exact ⟨rfl, hC.out⟩
            · have g : ((x.size : Int) == (s.size : Int)) = false := by rw [beq_eq_false_iff_ne]; omega
              have C2 : Hid (∀ W, StS W (.slice (some a) N c) l → Calls Tryd.prog 19 #[.string (s ++ x.extract s.size (s.size + 1)), .slice (some a) N c] W fun e w' => e = .returned (.tuple #[.int .i64 (j : Int), .int .i64 0]) ∧ Below W.heap.size W w') := fun W h => match_c _ l _ _ e2 (by rw [ss_app, ByteArray.size_extract]; unfold maxLen; omega) HZM.out ML.out W _ h
              have XZ : (x ++ ⟨#[120]⟩ : ByteArray).size ≤ maxLen := by rw [ss_app]; show x.size + 1 ≤ maxLen; unfold reachBytes at xz; unfold maxLen; omega
              have C3 : Hid (∀ W v, StS W v (l ++ [x ++ ⟨#[120]⟩]) → Calls Tryd.prog 19 #[.string s, v] W fun e w' => e = .returned (.tuple #[.int .i64 0, .int .i64 3]) ∧ Below W.heap.size W w') := fun W v h => match_c _ _ _ _ e3 MS.out (by intro y hy; rcases List.mem_append.1 hy with hy | hy; exact HZM.out _ hy; simp at hy; rw [hy]; exact XZ) (by have := ML.out; rw [List.length_append]; rw [← HN.out]; unfold maxLen; simp; omega) W _ h
              have jm := HZM.out _ (List.getElem_mem hj)
              have C4 : Hid (∀ W, Calls Tryd.prog 20 #[.string l[j], .string x] W fun e w' => e = .returned (.bool true) ∧ ∃ k, w' = W.drewN k) := fun W => by have := wsame_any l[j] x W jm xm; rw [hjk] at this; exact this
              have jN : j < N := by rw [HN.out]; exact hj
              have GWJ0 := Lib.hid (show w.cell? (a.add j) = some (.string l[j]) by obtain ⟨a', ha', h⟩ := HV.out.get j hj; cases ha'; exact h)
              obtain ⟨y, HJ⟩ : ∃ y, Hid (∃ h : j < l.length, l[j] = y) := ⟨_, hj, rfl⟩
              have GWJ : Hid (w.cell? (a.add j) = some (.string y)) := by have := GWJ0.out; rw [HJ.out.2] at this; exact this
              rw [show l[j] = y from HJ.out.2] at jm C4
              have xz6 : x.size ≤ 140737488351232 := xz
              have xz7 : ¬ 9223372036854775807 < x.size + 1 := by omega
              have xz8 : x.size + 1 ≤ 9223372036854775807 := by omega
              have lpos := Lib.hid (show 0 < l.length by omega)
              obtain ⟨i0, hi, hz0, hz1, hz2⟩ := info_parts info_string
              clear GWJ0
              clear hw' e2 hjk e3 hj
              go_wp2_with fail
              refine (C2.out _ (StS.on HV.out hA.out)).mono ?_; rintro e wb ⟨rfl, bb⟩
              have hC := Lib.hid (below_step hA.out bb); clear bb
              go_wp2_with fail
              have Gb := ck3 hC.out rfl GW.out
              have Gl := World.block_lt_of_cell? _ _ Gb
              rw [blk_add] at Gl
              have Gb2 : (wb.alloc (Obj.cells #[] 9)).cell? (a.add p) = some (.string x) := by rw [← Gb]; exact Below.cell ((Below.refl wb.heap.size wb).alloc (Nat.le_refl _) _) (by rw [blk_add]; exact Gl)
              have Gb3 : (wb.alloc (Obj.cells #[] 9)).drew.cell? (a.add p) = some (.string x) := Gb2
              go_region_law (first
                | (
                   refine step_append_own rfl (.tmp 124) (.tmp 125) 22 rfl w.heap.size 9 i0 (.string ⟨#[]⟩) 1 16 Tryd.underlying22 hi hz0 hz1 hz2 rfl (by decide) (.slice (some ⟨wb.heap.size, 0, none⟩) 0 0) 0 [] ?_ ?_ a N c (l.map Value.string) ?_ ?_ ?_ ?_ ?_ ?_ ?_ ?_
                   · simp [Act.eval, Act.put]; done
                   · exact (own_start hC.out.size)
                   · simp [Act.eval, Act.put]; done
                   · rw [List.length_map, ← HN.out, Nat.mul_one]
                   · exact (StS.cells (StS.on HV.out (by have hz := hC.out.size; repeat (first | exact hC.out | refine Below.drew ?_ | refine Below.alloc ?_ (by first | omega | (simp; omega)) _))) lpos.out)
                   · intro u hu; obtain ⟨y, _, rfl⟩ := List.mem_map.1 hu; rfl
                   · unfold maxLen; omega
                   · omega
                   · have := hC.out.size; first | omega | (simp <;> omega)
                   intro v1 W1 own1 grow1
                   have hr1 : ∀ k, (Value.slice (some ⟨wb.heap.size, 0, none⟩) 0 0).ownBlock = some k → w.heap.size ≤ k := by
                     intro k hk
                     have e : wb.heap.size = k := Option.some.inj hk
                     have := hC.out.size
                     omega
                   have bel0 : Below w.heap.size w (wb.alloc (Obj.cells #[] 9)).drew := (by have hz := hC.out.size; repeat (first | exact hC.out | refine Below.drew ?_ | refine Below.alloc ?_ (by first | omega | (simp; omega)) _))
                   have H1 := Lib.hid (below_gr bel0 grow1 hr1)
                   have O1 : Hid (W1.ownsRow w.heap.size 9 1 v1 N (l.map Value.string)) := by
                     have := own1
                     rw [Nat.zero_add] at this
                     exact this
                   have G1 := ck3 H1.out rfl GW.out
                   clear own1 grow1 bel0 hr1)
                | (
                   refine step_append_own rfl (.tmp 124) (.tmp 125) 22 rfl w.heap.size 9 i0 (.string ⟨#[]⟩) 1 16 Tryd.underlying22 hi hz0 hz1 hz2 rfl (by decide) (.slice (some ⟨wb.heap.size, 0, none⟩) 0 0) 0 [] ?_ ?_ a N c (l.map Value.string) ?_ ?_ ?_ ?_ ?_ ?_ ?_ ?_
                   · simp [Act.eval, Act.put]; done
                   · exact ((own_start hC.out.size).alloc _)
                   · simp [Act.eval, Act.put]; done
                   · rw [List.length_map, ← HN.out, Nat.mul_one]
                   · exact (StS.cells (StS.on HV.out (by have hz := hC.out.size; repeat (first | exact hC.out | refine Below.drew ?_ | refine Below.alloc ?_ (by first | omega | (simp; omega)) _))) lpos.out)
                   · intro u hu; obtain ⟨y, _, rfl⟩ := List.mem_map.1 hu; rfl
                   · unfold maxLen; omega
                   · omega
                   · have := hC.out.size; first | omega | (simp <;> omega)
                   intro v1 W1 own1 grow1
                   have hr1 : ∀ k, (Value.slice (some ⟨wb.heap.size, 0, none⟩) 0 0).ownBlock = some k → w.heap.size ≤ k := by
                     intro k hk
                     have e : wb.heap.size = k := Option.some.inj hk
                     have := hC.out.size
                     omega
                   have bel0 : Below w.heap.size w ((wb.alloc (Obj.cells #[] 9)).alloc (Obj.cells #[.string (x ++ ⟨#[120]⟩)] 9)).drew := (by have hz := hC.out.size; repeat (first | exact hC.out | refine Below.drew ?_ | refine Below.alloc ?_ (by first | omega | (simp; omega)) _))
                   have H1 := Lib.hid (below_gr bel0 grow1 hr1)
                   have O1 : Hid (W1.ownsRow w.heap.size 9 1 v1 N (l.map Value.string)) := by
                     have := own1
                     rw [Nat.zero_add] at this
                     exact this
                   have G1 := ck3 H1.out rfl GW.out
                   have G2 : W1.cell? ⟨(wb.heap.size + 1), 0, none⟩ = some (.string (x ++ ⟨#[120]⟩)) := by
                     refine grow1.cell ?_ ?_
                     · simp [go_sem]
                     · intro h
                       have e : (wb.heap.size + 1) = wb.heap.size := Option.some.inj h
                       omega
                   clear own1 grow1 bel0 hr1)
                | (
                   refine step_append_own rfl (.tmp 124) (.tmp 125) 22 rfl w.heap.size 9 i0 (.string ⟨#[]⟩) 1 16 Tryd.underlying22 hi hz0 hz1 hz2 rfl (by decide) (.slice (some ⟨(wb.heap.size + 1), 0, none⟩) 0 0) 0 [] ?_ ?_ a N c (l.map Value.string) ?_ ?_ ?_ ?_ ?_ ?_ ?_ ?_
                   · simp [Act.eval, Act.put]; done
                   · exact (own_start2 hC.out.size)
                   · simp [Act.eval, Act.put]; done
                   · rw [List.length_map, ← HN.out, Nat.mul_one]
                   · exact (StS.cells (StS.on HV.out (by have hz := hC.out.size; repeat (first | exact hC.out | refine Below.drew ?_ | refine Below.alloc ?_ (by first | omega | (simp; omega)) _))) lpos.out)
                   · intro u hu; obtain ⟨y, _, rfl⟩ := List.mem_map.1 hu; rfl
                   · unfold maxLen; omega
                   · omega
                   · have := hC.out.size; first | omega | (simp <;> omega)
                   intro v1 W1 own1 grow1
                   have hr1 : ∀ k, (Value.slice (some ⟨(wb.heap.size + 1), 0, none⟩) 0 0).ownBlock = some k → w.heap.size ≤ k := by
                     intro k hk
                     have e : (wb.heap.size + 1) = k := Option.some.inj hk
                     have := hC.out.size
                     omega
                   have bel0 : Below w.heap.size w ((wb.alloc (Obj.cells #[.string (x ++ ⟨#[120]⟩)] 9)).alloc (Obj.cells #[] 9)).drew := (by have hz := hC.out.size; repeat (first | exact hC.out | refine Below.drew ?_ | refine Below.alloc ?_ (by first | omega | (simp; omega)) _))
                   have H1 := Lib.hid (below_gr bel0 grow1 hr1)
                   have O1 : Hid (W1.ownsRow w.heap.size 9 1 v1 N (l.map Value.string)) := by
                     have := own1
                     rw [Nat.zero_add] at this
                     exact this
                   have G1 := ck3 H1.out rfl GW.out
                   have G3 : W1.cell? ⟨wb.heap.size, 0, none⟩ = some (.string (x ++ ⟨#[120]⟩)) := by
                     refine grow1.cell ?_ ?_
                     · simp [go_sem]
                     · intro h
                       have e : wb.heap.size = (wb.heap.size + 1) := Option.some.inj h
                       omega
                   clear own1 grow1 bel0 hr1)
                | (
                   refine step_append_own rfl (.tmp 126) (.tmp 132) 22 rfl w.heap.size 9 i0 (.string ⟨#[]⟩) 1 16 Tryd.underlying22 hi hz0 hz1 hz2 rfl (by decide) v1 N (l.map Value.string) ?_ ?_ ⟨W1.heap.size, 0, none⟩ 1 1 [.string (x ++ ⟨#[120]⟩)] ?_ ?_ ?_ ?_ ?_ ?_ ?_ ?_
                   · simp [Act.eval, Act.put]; done
                   · exact (O1.out.alloc _)
                   · simp [Act.eval, Act.put]; done
                   · rfl
                   · exact one_cell (by simp [go_sem])
                   · intro u hu; simp at hu; subst hu; rfl
                   · unfold maxLen; omega
                   · omega
                   · have := H1.out.size; first | omega | (simp <;> omega)
                   intro v2 W2 own2 grow2
                   have bel1 : Below w.heap.size w (W1.alloc (Obj.cells #[.string (x ++ ⟨#[120]⟩)] 9)) := H1.out.alloc H1.out.size _
                   have H2 := Lib.hid (below_gr bel1 grow2 (own_row O1.out))
                   have S2 := Lib.hid (StS.own HN.out own2)
                   clear own2 grow2)
                | (
                   refine step_append_own rfl (.tmp 126) (.tmp 132) 22 rfl w.heap.size 9 i0 (.string ⟨#[]⟩) 1 16 Tryd.underlying22 hi hz0 hz1 hz2 rfl (by decide) v1 N (l.map Value.string) ?_ ?_ ⟨wb.heap.size + 1, 0, none⟩ 1 1 [.string (x ++ ⟨#[120]⟩)] ?_ ?_ ?_ ?_ ?_ ?_ ?_ ?_
                   · simp [Act.eval, Act.put]; done
                   · exact O1.out
                   · simp [Act.eval, Act.put]; done
                   · rfl
                   · exact one_cell G2
                   · intro u hu; simp at hu; subst hu; rfl
                   · unfold maxLen; omega
                   · omega
                   · have := H1.out.size; first | omega | (simp <;> omega)
                   intro v2 W2 own2 grow2
                   have H2 := Lib.hid (below_gr H1.out grow2 (own_row O1.out))
                   have S2 := Lib.hid (StS.own HN.out own2)
                   clear own2 grow2)
                | (
                   refine step_append_own rfl (.tmp 126) (.tmp 132) 22 rfl w.heap.size 9 i0 (.string ⟨#[]⟩) 1 16 Tryd.underlying22 hi hz0 hz1 hz2 rfl (by decide) v1 N (l.map Value.string) ?_ ?_ ⟨wb.heap.size, 0, none⟩ 1 1 [.string (x ++ ⟨#[120]⟩)] ?_ ?_ ?_ ?_ ?_ ?_ ?_ ?_
                   · simp [Act.eval, Act.put]; done
                   · exact O1.out
                   · simp [Act.eval, Act.put]; done
                   · rfl
                   · exact one_cell G3
                   · intro u hu; simp at hu; subst hu; rfl
                   · unfold maxLen; omega
                   · omega
                   · have := H1.out.size; first | omega | (simp <;> omega)
                   intro v2 W2 own2 grow2
                   have H2 := Lib.hid (below_gr H1.out grow2 (own_row O1.out))
                   have S2 := Lib.hid (StS.own HN.out own2)
                   clear own2 grow2)
                | (
                   go_simp
                   refine (C3.out _ _ S2.out).mono ?_
                   rintro e W3 ⟨rfl, b3⟩
                   have H3 := Lib.hid (below_step H2.out b3)
                   have G6 := ck3 H3.out rfl GW.out
                   have G7 := ck3 H3.out rfl GWJ.out
                   clear b3))
              all_goals (
                clear C2 C3 hC hA
                go_wp2_with fail
                go_quiet ((go_at_call 20; exact Calls.quiet_of (C4.out _)))
                go_wp2_with fail
                go_ret
                exact ⟨rfl, by repeat (first | exact H3.out | refine below_drewN ?_ _ | refine Below.drew ?_)⟩)
theorem wmore_walk (s : ByteArray) (v : Value) (l : List ByteArray) (n : Int) (w : World) (T : Wd.Tabs w) (hs : s.size ≤ maxLen) (hv : StS w v l) (hz : ∀ x ∈ l, x.size ≤ reachBytes) :
    Calls Tryd.prog 3 #[.string s, v, .int .i64 n] w fun e w' => e = .returned (.bool true) ∧ Below w.heap.size w w' := by
  by_cases h0 : (500 : Int) < (s.size : Int)
  · exact wmore_out1 s v l n w T hv h0
  by_cases h2 : (60 : Int) < (l.length : Int)
  · exact wmore_out2 s v l n w T hv h0 h2
  exact wmore_in s v l n w T hv hz h0 h2
end Go.Proofs.YtldpchkapcnfbaaDoor

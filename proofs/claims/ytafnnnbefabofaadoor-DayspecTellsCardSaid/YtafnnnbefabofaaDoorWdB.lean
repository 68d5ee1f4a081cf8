/- Words: lists of strings in memory; the contract of Match. -/
import Derived.Test.YtafnnnbefabofaaDoorWdA
import Derived.Test.YtafnnnbefabofaaDoorSl
set_option linter.unusedVariables false
set_option linter.unusedSimpArgs false
namespace Go.Proofs.YtafnnnbefabofaaDoor
open Go.RowKit Go.Sort

/-- A slice value that reads as strings. -/
def StS (w : World) (v : Value) (l : List ByteArray) : Prop := Lst w w.heap.size v l.length (l.map Value.string)
theorem StS.on {w w' : World} {v : Value} {l : List ByteArray} (h : StS w v l) (k : Below w.heap.size w w') : StS w' v l := Lst.on h k
theorem StS.get {w : World} {A : Option Addr} {n c : Nat} {l : List ByteArray} (h : StS w (.slice A n c) l) (k : Nat) (hk : k < l.length) : ∃ a, A = some a ∧ w.cell? (a.add k) = some (.string l[k]) := by
  obtain ⟨A', c', hv, ha⟩ := h
  cases hv
  obtain ⟨a, e, hb, hc⟩ := ha (by omega)
  refine ⟨a, e, hc k _ ?_⟩
  rw [List.getElem?_map, List.getElem?_eq_getElem hk]; rfl
theorem StS.len {w : World} {A : Option Addr} {n c : Nat} {l : List ByteArray} (h : StS w (.slice A n c) l) : n = l.length := by
  obtain ⟨A', c', hv, _⟩ := h
  cases hv; rfl

namespace Wd
/-- Word by word: the place found so far (-1: none), and whether there are several. -/
def run (s : List UInt8) (all : List ByteArray) : List ByteArray → Nat → Int → Bool → Int × Int
  | [], _, f, sv => if f < 0 ∨ sv = true then (0, 3) else (f, 0)
  | x :: r, i, f, sv => if same x.data.toList s = true then ((i : Int), 0) else if beg x.data.toList s = false then run s all r (i + 1) f sv else if f < 0 then run s all r (i + 1) (i : Int) sv
    else if same x.data.toList (all.getD f.toNat ByteArray.empty).data.toList = true then run s all r (i + 1) f sv else run s all r (i + 1) f true
def mat (s : List UInt8) (all : List ByteArray) : Int × Int := if s = [] then (0, 3) else run s all all 0 (-1) false
theorem run_nil {s : List UInt8} {all : List ByteArray} {k : Nat} {f : Int} {sv : Bool} : run s all [] k f sv = if f < 0 ∨ sv = true then (0, 3) else (f, 0) := rfl
theorem run_step {s : List UInt8} {all : List ByteArray} {k : Nat} {f : Int} {sv : Bool} (h : k < all.length) : run s all (all.drop k) k f sv =
    if same all[k].data.toList s = true then ((k : Int), 0) else if beg all[k].data.toList s = false then run s all (all.drop (k + 1)) (k + 1) f sv else if f < 0 then run s all (all.drop (k + 1)) (k + 1) (k : Int) sv
    else if same all[k].data.toList (all.getD f.toNat ByteArray.empty).data.toList = true then run s all (all.drop (k + 1)) (k + 1) f sv else run s all (all.drop (k + 1)) (k + 1) f true := by
  rw [List.drop_eq_getElem_cons h]
  rfl
end Wd
theorem wdne {ds : ByteArray} (h : 0 < ds.size) : ds.toList.isEmpty = false ∧ ¬ ds.toList = [] := by
  have : ds.toList ≠ [] := by
    intro e
    have hl := blen ds
    rw [← ByteArray.toList_eq] at hl
    rw [e] at hl; simp at hl; omega
  exact ⟨by simpa using this, this⟩
theorem s_nil {s : ByteArray} (h : s.size = 0) : s = ByteArray.empty := by
  apply ByteArray.ext
  have : s.data.size = 0 := h
  exact Array.size_eq_zero_iff.1 this

set_option maxHeartbeats 4000000 in
set_option maxRecDepth 100000 in
theorem match_any (s : ByteArray) (v : Value) (l : List ByteArray) (w : World) (hv : StS w v l) (hs : s.size ≤ maxLen) (hz : ∀ x ∈ l, x.size ≤ maxLen) (hm : l.length ≤ maxLen) :
    Calls Tryd.prog 150 #[.string s, v] w fun e w' => e = .returned (.tuple #[.int .i64 (Wd.mat s.data.toList l).1, .int .i64 (Wd.mat s.data.toList l).2]) ∧ ∃ k, w' = w.drewN k := by
  unfold maxLen at hm
  have HS := Lib.hid hs; clear hs
  by_cases h0 : s.size = 0
  · rw [show Wd.mat s.data.toList l = (0, 3) by unfold Wd.mat; rw [if_pos (by rw [← List.length_eq_zero_iff, blen]; exact h0)]]
    obtain rfl := s_nil h0
    obtain ⟨A, c, rfl, -⟩ := hv
    go_enter Tryd.func150, Tryd.ntmps150
    go_wp2
    go_ret2
    exact ⟨rfl, 0, rfl⟩
  · obtain ⟨t1, t2⟩ := wdne (ds := s) (by omega)
    obtain ⟨ans, hans⟩ : ∃ ans, ans = Wd.mat s.data.toList l := ⟨_, rfl⟩
    rw [← hans]
    have HA := Lib.hid (show Wd.run s.data.toList l (l.drop 0) 0 (-1) false = ans by rw [hans]; unfold Wd.mat; rw [if_neg (by rw [← List.length_eq_zero_iff, blen]; exact h0)]; rfl)
    have HV := Lib.hid hv
    obtain ⟨A, c, rfl, -⟩ := hv
    generalize hn : l.length = n at *
    have HN := Lib.hid hn
    have HZ := Lib.hid hz
    clear hn hz hans h0
    go_enter Tryd.func150, Tryd.ntmps150
    go_wp2_with fail
    go_loopw [6, 7, 14] (fun fv sv i wr => ∃ (k j : Nat) (f : Int) (b : Bool), k ≤ n ∧ i = .int .i64 k ∧ fv = .int .i64 f ∧ sv = .bool b ∧ -1 ≤ f ∧ f < n ∧ Wd.run s.data.toList l (l.drop k) k f b = ans ∧ wr = w.drewN j) (fun _ _ i _ => n - (intOf i).toNat)
    case atStart => exact ⟨0, 0, -1, false, Nat.zero_le _, rfl, rfl, rfl, by omega, by omega, HA.out, rfl⟩
    case round =>
      obtain ⟨k, j, f, b, hk, rfl, rfl, rfl, f0, f1, hr, rfl⟩ := hrel
      have HR := Lib.hid hr; clear hr
      by_cases hlt : k < n
      · obtain ⟨a, rfl, g1⟩ := HV.out.get k (by rw [HN.out]; exact hlt)
        have CS := Lib.hid (fun W => wsame_any (l[k]'(by rw [HN.out]; exact hlt)) s W (HZ.out _ (List.getElem_mem _)) HS.out)
        have CB := Lib.hid (fun W => begins_any (l[k]'(by rw [HN.out]; exact hlt)) s W (HZ.out _ (List.getElem_mem _)) HS.out)
        have ST := Lib.hid (Wd.run_step (s := s.data.toList) (all := l) (k := k) (f := f) (sv := b) (by rw [HN.out]; exact hlt))
        have KL : Hid (k < l.length) := by rw [HN.out]; exact hlt
        generalize hx : (l[k]'(by rw [HN.out]; exact hlt)) = x at *
        cases c1 : Wd.same x.data.toList s.data.toList
        · have C1 := Lib.hid c1
          cases c2 : Wd.beg x.data.toList s.data.toList
          · have C2 := Lib.hid c2
            have HE := Lib.hid (show Wd.run s.data.toList l (l.drop (k + 1)) (k + 1) f b = ans by rw [← HR.out, ST.out, c1, c2]; simp)
            clear c1 c2
            go_wp2_with fail
            refine (CS.out _).mono ?_; rintro e w1 ⟨rfl, j1, rfl⟩
            rw [C1.out]
            go_wp2_with fail
            refine (CB.out _).mono ?_; rintro e w2 ⟨rfl, j2, rfl⟩
            rw [C2.out]
            go_wp2_with fail
            go_roundw
            case rel => exact ⟨k + 1, _, f, b, by omega, by go_num, rfl, rfl, by omega, by omega, HE.out, by first | rfl | simp only [World.drewN_drewN]⟩
            case measure => simp [intOf]; omega
          · have C2 := Lib.hid c2
            by_cases c3 : f < 0
            · have HE := Lib.hid (show Wd.run s.data.toList l (l.drop (k + 1)) (k + 1) (k : Int) b = ans by rw [← HR.out, ST.out, c1, c2]; simp [c3])
              clear c1 c2
              go_wp2_with fail
              refine (CS.out _).mono ?_; rintro e w1 ⟨rfl, j1, rfl⟩
              rw [C1.out]
              go_wp2_with fail
              refine (CB.out _).mono ?_; rintro e w2 ⟨rfl, j2, rfl⟩
              rw [C2.out]
              go_wp2_with fail
              go_roundw
              case rel => exact ⟨k + 1, _, (k : Int), b, by omega, by go_num, rfl, rfl, by omega, by omega, HE.out, by first | rfl | simp only [World.drewN_drewN]⟩
              case measure => simp [intOf]; omega
            · have f2 : 0 ≤ f := by omega
              have hfl : f.toNat < l.length := by rw [HN.out]; omega
              obtain ⟨a', ha', g2⟩ := HV.out.get f.toNat hfl
              obtain rfl : a = a' := by injection ha'
              have CY := Lib.hid (fun W => wsame_any x (l[f.toNat]'hfl) W (by rw [← hx]; exact HZ.out _ (List.getElem_mem _)) (HZ.out _ (List.getElem_mem _)))
              have GD := Lib.hid (show l.getD f.toNat ByteArray.empty = l[f.toNat]'hfl by simp [List.getD, List.getElem?_eq_getElem hfl])
              generalize hy : l[f.toNat]'hfl = y at *
              cases c4 : Wd.same x.data.toList y.data.toList
              · have C4 := Lib.hid c4
                have HE := Lib.hid (show Wd.run s.data.toList l (l.drop (k + 1)) (k + 1) f true = ans by rw [← HR.out, ST.out, c1, c2, GD.out, c4]; simp [c3])
                clear c1 c2 c4
                go_wp2_with fail
                refine (CS.out _).mono ?_; rintro e w1 ⟨rfl, j1, rfl⟩
                rw [C1.out]
                go_wp2_with fail
                refine (CB.out _).mono ?_; rintro e w2 ⟨rfl, j2, rfl⟩
                rw [C2.out]
                go_wp2_with fail
                refine (CY.out _).mono ?_; rintro e w3 ⟨rfl, j3, rfl⟩
                rw [C4.out]
                go_wp2_with fail
                go_roundw
                case rel => exact ⟨k + 1, _, f, true, by omega, by go_num, rfl, rfl, by omega, by omega, HE.out, by first | rfl | simp only [World.drewN_drewN]⟩
                case measure => simp [intOf]; omega
              · have C4 := Lib.hid c4
                have HE := Lib.hid (show Wd.run s.data.toList l (l.drop (k + 1)) (k + 1) f b = ans by rw [← HR.out, ST.out, c1, c2, GD.out, c4]; simp [c3])
                clear c1 c2 c4
                go_wp2_with fail
                refine (CS.out _).mono ?_; rintro e w1 ⟨rfl, j1, rfl⟩
                rw [C1.out]
                go_wp2_with fail
                refine (CB.out _).mono ?_; rintro e w2 ⟨rfl, j2, rfl⟩
                rw [C2.out]
                go_wp2_with fail
                refine (CY.out _).mono ?_; rintro e w3 ⟨rfl, j3, rfl⟩
                rw [C4.out]
                go_wp2_with fail
                go_roundw
                case rel => exact ⟨k + 1, _, f, b, by omega, by go_num, rfl, rfl, by omega, by omega, HE.out, by first | rfl | simp only [World.drewN_drewN]⟩
                case measure => simp [intOf]; omega
        · have C1 := Lib.hid c1
          have HE := Lib.hid (show ans = ((k : Int), 0) by rw [← HR.out, ST.out, c1]; simp)
          clear c1
          go_wp2_with fail
          refine (CS.out _).mono ?_; rintro e w1 ⟨rfl, j1, rfl⟩
          rw [C1.out]
          go_wp2_with fail
          go_ret2
          exact ⟨by rw [HE.out]; rfl, _, by first | rfl | simp only [World.drewN_drewN]⟩
      · have HE := Lib.hid (show ans = if f < 0 ∨ b = true then (0, 3) else (f, 0) by rw [← HR.out, List.drop_of_length_le (by rw [HN.out]; omega)]; rfl)
        by_cases c3 : f < 0
        · have HE2 := Lib.hid (show ans = (0, 3) by rw [HE.out]; simp [c3])
          clear HE
          go_wp2_with fail
          go_ret2
          exact ⟨by rw [HE2.out]; rfl, _, rfl⟩
        · cases b
          · have HE2 := Lib.hid (show ans = (f, 0) by rw [HE.out]; simp [c3])
            clear HE
            go_wp2_with fail
            go_ret2
            exact ⟨by rw [HE2.out]; rfl, _, rfl⟩
          · have HE2 := Lib.hid (show ans = (0, 3) by rw [HE.out]; simp)
            clear HE
            go_wp2_with fail
            go_ret2
            exact ⟨by rw [HE2.out]; rfl, _, rfl⟩
end Go.Proofs.YtafnnnbefabofaaDoor

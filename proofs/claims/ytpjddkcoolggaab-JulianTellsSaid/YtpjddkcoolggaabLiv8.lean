/- The answers that noontidelaw08.lives asks for: it is true. -/
import Derived.Test.YtpjddkcoolggaabJulW
set_option linter.unusedVariables false
set_option linter.unusedSimpArgs false
namespace Go.Proofs.Ytpjddkcoolggaab
open Go.RowKit

namespace Fl
theorem op_nan {op : BinOp} {q y r : Nat} (hq : nan q = true) (ho : op = .sub ∨ op = .mul) (h : FOp op q y r) : nan r = true := by
  refine h.nan ?_
  have hr := Ieee.Format.read
  have e : Ieee.double.read q = _ := read_nan (nan_true.1 hq)
  rcases ho with rfl | rfl
  · show Ieee.double.sub q y = none
    unfold Ieee.Format.sub; rw [e]; rfl
  · show Ieee.double.mul q y = none
    unfold Ieee.Format.mul; rw [e]; rfl
theorem rk_nan {q : Nat} (h : nan q = true) : rk q = 0 := by unfold rk; rw [h]; rfl
theorem ww_nan {way : Ieee.Toward} {q : Nat} (h : nan q = true) : ww way q = 18 ∧ wv way q = 0 := by
  have e : ww way q = 18 := by unfold ww; rw [h, if_pos rfl]
  exact ⟨e, by unfold wv; rw [if_neg (by rw [e]; decide)]⟩
theorem Rd.eq {way : Ieee.Toward} {x y v : Nat} (h : Rd way x y) (hn : nan x = false) (hv : itg way x = v) : y = v := (h.2.2 hn).trans hv
end Fl
set_option maxHeartbeats 4000000 in
set_option maxRecDepth 100000 in
theorem lives8 (w : World) :
    Calls Try.prog 36 #[] w fun e w' => e = .returned (.bool true) ∧ Below w.heap.size w w' := by
  go_enter Try.func36, Try.ntmps36
  go_wp2_with fail
  refine (edges_any _).mono ?_; rintro e w1 ⟨q, b, hq, hq2, rfl, E1, b1⟩
  have B1 := Lib.hid b1; have HQ := Lib.hid hq; have HQ2 := Lib.hid hq2
  clear b1 hq hq2
  have cE_b := E1.hb
  have cE_f := E1.fz
  have cE_0 := E1.k0
  have cE_1 := E1.k1
  have cE_2 := E1.k2
  have cE_3 := E1.k3
  have cE_4 := E1.k4
  go_wp2_with fail
  refine (jul_secs 4702495532558319616 2 (by decide) (by decide) _).mono ?_; rintro e w2 ⟨s1, p1, n1, hs1, hp1, rfl, rfl⟩
  obtain rfl := hs1.eq (show floatBits .sub .f64 4702495532558319616 Fl.zero = some 13821547256400052224 by decide +kernel)
  obtain rfl := hp1.eq (show floatBits .mul .f64 13821547256400052224 Fl.day = some 13895038613600600064 by decide +kernel)
  rw [show Fl.wv (Fl.wayOf 2) 13895038613600600064 = -21600 by decide +kernel, show Fl.ww (Fl.wayOf 2) 13895038613600600064 = 0 by decide +kernel]
  clear hs1 hp1
  go_wp2_with fail
  refine (jul_secs q 2 (by decide) (by decide) _).mono ?_; rintro e w2 ⟨s2, p2, n2, hs2, hp2, rfl, rfl⟩
  have hn2 := Fl.op_nan (Fl.op_nan HQ.out (.inl rfl) hs2) (.inr rfl) hp2
  rw [(Fl.ww_nan hn2).1, (Fl.ww_nan hn2).2]
  clear hs2 hp2 hn2
  go_wp2_with fail
  refine (jul_secs 9218868437227405312 2 (by decide) (by decide) _).mono ?_; rintro e w2 ⟨s3, p3, n3, hs3, hp3, rfl, rfl⟩
  obtain rfl := hs3.eq (show floatBits .sub .f64 9218868437227405312 Fl.zero = some 9218868437227405312 by decide +kernel)
  obtain rfl := hp3.eq (show floatBits .mul .f64 9218868437227405312 Fl.day = some 9218868437227405312 by decide +kernel)
  rw [show Fl.wv (Fl.wayOf 2) 9218868437227405312 = 0 by decide +kernel, show Fl.ww (Fl.wayOf 2) 9218868437227405312 = 1 by decide +kernel]
  clear hs3 hp3
  go_wp2_with fail
  refine (jul_secs_no q 0 (by decide) _).mono ?_; rintro e w2 ⟨rfl, n4, rfl⟩
  go_wp2_with fail
  refine (jul_parts 13821547256400052224 (by decide) _).mono ?_; rintro e w2 ⟨y5, r5, n5, hy5, hr5, rfl, rfl⟩
  obtain rfl := hy5.eq (by decide +kernel) (show Fl.itg .down 13821547256400052224 = 13830554455654793216 by decide +kernel)
  obtain rfl := hr5.eq (show floatBits .sub .f64 13821547256400052224 13830554455654793216 = some 4604930618986332160 by decide +kernel)
  clear hy5 hr5
  go_wp2_with fail
  refine (jul_parts q HQ2.out _).mono ?_; rintro e w2 ⟨y6, r6, n6, hy6, hr6, rfl, rfl⟩
  have HY6 := Lib.hid (hy6.2.1 HQ.out)
  have HR6 := Lib.hid (Fl.op_nan HQ.out (.inl rfl) hr6)
  have L6 := Lib.hid hy6.1
  have M6 := Lib.hid hr6.1
  clear hy6 hr6
  go_wp2_with fail
  refine (jul_parts 9223372036854775808 (by decide) _).mono ?_; rintro e w2 ⟨y7, r7, n7, hy7, hr7, rfl, rfl⟩
  obtain rfl := hy7.eq (by decide +kernel) (show Fl.itg .down 9223372036854775808 = 9223372036854775808 by decide +kernel)
  obtain rfl := hr7.eq (show floatBits .sub .f64 9223372036854775808 9223372036854775808 = some 0 by decide +kernel)
  clear hy7 hr7
  go_wp2_with fail
  refine (jul_parts 18442240474082181120 (by decide) _).mono ?_; rintro e w2 ⟨y8, r8, n8, hy8, hr8, rfl, rfl⟩
  obtain rfl := hy8.eq (by decide +kernel) (show Fl.itg .down 18442240474082181120 = 18442240474082181120 by decide +kernel)
  have HR8 := Lib.hid (hr8.nan (show floatBits .sub .f64 18442240474082181120 18442240474082181120 = none by decide +kernel))
  have M8 := Lib.hid hr8.1
  clear hy8 hr8
  go_wp2_with fail
  refine (jul_of 0 (by decide) (by decide) _).mono ?_; rintro e w2 ⟨rfl, rfl⟩
  rw [show Fl.jdB 0 = 4702495533095190528 by decide +kernel]
  have o1 : (FloatKind.f64.format.order 4702495533095190528 4702495533095190528 == some Ordering.eq) = true := by decide +kernel
  go_wp2_with fail
  refine (jul_of 43200 (by decide) (by decide) _).mono ?_; rintro e w2 ⟨rfl, rfl⟩
  rw [show Fl.jdB 43200 = 4702495534168932352 by decide +kernel]
  have o2 : (FloatKind.f64.format.order 4702495534168932352 4702495534168932352 == some Ordering.eq) = true := by decide +kernel
  have o3 : (FloatKind.f64.format.order 13830554455654793216 13830554455654793216 == some Ordering.eq) = true := by decide +kernel
  have o4 : (FloatKind.f64.format.order 4604930618986332160 4604930618986332160 == some Ordering.eq) = true := by decide +kernel
  go_wp2_with fail
  refine (kind_any y6 L6.out _).mono ?_; rintro e w2 ⟨rfl, rfl⟩
  rw [Fl.rk_nan HY6.out, show Fl.kd 0 = 0 by decide]
  go_wp2_with fail
  refine (kind_any r6 M6.out _).mono ?_; rintro e w2 ⟨rfl, rfl⟩
  rw [Fl.rk_nan HR6.out, show Fl.kd 0 = 0 by decide]
  go_wp2_with fail
  refine (kind_any 9223372036854775808 (by decide) _).mono ?_; rintro e w2 ⟨rfl, rfl⟩
  rw [show Fl.kd (Fl.rk 9223372036854775808) = 3 by decide +kernel]
  go_wp2_with fail
  refine (kind_any 0 (by decide) _).mono ?_; rintro e w2 ⟨rfl, rfl⟩
  rw [show Fl.kd (Fl.rk 0) = 4 by decide +kernel]
  go_wp2_with fail
  refine (kind_any r8 M8.out _).mono ?_; rintro e w2 ⟨rfl, rfl⟩
  rw [Fl.rk_nan HR8.out, show Fl.kd 0 = 0 by decide]
  go_wp2_with fail
  refine (jul_mod 4702495533095190528 _).mono ?_; rintro e w2 ⟨m9, n9, hm9, rfl, rfl⟩
  obtain rfl := hm9.eq (show floatBits .sub .f64 4702495533095190528 4702408373176369152 = some 4675811048387772416 by decide +kernel)
  clear hm9
  have o5 : (FloatKind.f64.format.order 4675811048387772416 4675811048387772416 == some Ordering.eq) = true := by decide +kernel
  go_wp2_with fail
  refine (jul_mod 18442240474082181120 _).mono ?_; rintro e w2 ⟨m10, n10, hm10, rfl, rfl⟩
  obtain rfl := hm10.eq (show floatBits .sub .f64 18442240474082181120 4702408373176369152 = some 18442240474082181120 by decide +kernel)
  clear hm10
  go_wp2_with fail
  refine (kind_any 18442240474082181120 (by decide) _).mono ?_; rintro e w2 ⟨rfl, rfl⟩
  rw [show Fl.kd (Fl.rk 18442240474082181120) = 1 by decide +kernel]
  go_wp2_with fail
  go_ret
  exact ⟨rfl, below_drewN B1.out _⟩
end Go.Proofs.Ytpjddkcoolggaab


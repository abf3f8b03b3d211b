/- The laws of layer 8: the chapter's examples. -/
import Derived.Test.YtbhoodhcipegbaaLaw06
import Derived.Test.YtbhoodhcipegbaaDual3
import Derived.Test.YtbhoodhcipegbaaDual5
import Derived.Test.YtbhoodhcipegbaaRef08d
import Derived.Test.YtbhoodhcipegbaaRef08e
namespace Go.Proofs.Ytbhoodhcipegbaa.Wk
open Go.Proofs Go.RowKit Go.Proofs.Ytbhoodhcipegbaa.Kit Go.Proofs.Ytbhoodhcipegbaa.M01 Go.Proofs.Ytbhoodhcipegbaa.M02 Go.Proofs.Ytbhoodhcipegbaa.M06 Go.Proofs.Ytbhoodhcipegbaa.M07 Go.Proofs.Ytbhoodhcipegbaa.M08 Go.Proofs.Ytbhoodhcipegbaa.Bt Go.Proofs.Ytbhoodhcipegbaa.R02 Go.Proofs.Ytbhoodhcipegbaa.Un Go.Proofs.Ytbhoodhcipegbaa.R06 Go.Proofs.Ytbhoodhcipegbaa.Ri Go.Proofs.Ytbhoodhcipegbaa.R07 Go.Proofs.Ytbhoodhcipegbaa.Du Go.Proofs.Ytbhoodhcipegbaa.R08
set_option linter.unusedVariables false

theorem isD_small {d : D4} (h : (0 ≤ d.a ∧ d.a ≤ 100) ∧ (0 ≤ d.b ∧ d.b ≤ 100) ∧ (0 ≤ d.s ∧ d.s ≤ 68719476735) ∧ (0 ≤ d.t ∧ d.t ≤ 68719476735)) : isD d := by unfold isD; omega
theorem isD_st : isD stD := by unfold stD isD; decide
theorem isU_of {v : Int} (h : 0 ≤ v ∧ v ≤ 4294967295) : isU v := h

set_option maxHeartbeats 8000000 in
theorem alive8_any (w : World) : Calls Try.prog 17 #[] w fun e w' => e = .returned (.bool true) ∧ Below w.heap.size w w' := by
  have hSt := fun w' => start_any w'
  have hL := fun w' => dlen_any stD 5 w' isD_st (isU_of (by decide))
  have hLn := fun w' => learn_any stD 5 w' isD_st (isU_of (by decide))
  have hW := fun w' => dwr_any none 0 0 [] 0 stD 2000 w' RowIn.nil (isInt_small (by decide) (by decide)) isD_st (isU_of (by decide))
  have e1 : lnD stD 5 = ⟨9, 10, 15365, 16384⟩ := D4.ext' (by decide +kernel) (by decide +kernel) (by decide +kernel) (by decide +kernel)
  have e2 : dwD [] 0 stD 2000 = ⟨10, 9, 17360, 16336⟩ := D4.ext' (by decide +kernel) (by decide +kernel) (by decide +kernel) (by decide +kernel)
  simp only [show dlN stD 5 = 11 by decide +kernel, show chD stD = 0 by decide +kernel] at hL
  simp only [e1, show chD stD = 0 by decide +kernel] at hLn
  simp only [e2, show dwE [] 0 stD 2000 = 0 by decide +kernel, show dwL [] 0 stD 2000 = [65, 15] by decide +kernel, show dwN [] 0 stD 2000 = 12 by decide +kernel] at hW
  have hs1 : ((bstr [65, 15]).toList == [65, 15]) = true := by decide +kernel
  unfold bv at hW
  unfold dv at hSt hL hLn hW
  unfold stD at hSt hL hLn hW
  simp only [List.length_cons, List.length_nil, Nat.zero_add, Nat.reduceAdd] at hSt hL hLn hW
  clear e1 e2
  go_enter Try.func17, Try.ntmps17
  go_wp2_with (first | ((with_reducible refine (hSt _ ).mono ?_); rintro e w1 ⟨rfl, hb1⟩; have z1 := hb1.size; have hq1 : Below w.heap.size w w1 := (Below.refl _ w).trans (hb1.mono (by omega)); have hB1 := hq1) | ((with_reducible refine (hL _ ).mono ?_); rintro e w2 ⟨rfl, hb2⟩; rw [size1] at hb2; have z2 := hb2.size; rw [size1] at z2; have hq2 : Below w1.heap.size w1 w2 := (below1 w1 _).trans (hb2.mono (by omega)); have hB2 := hB1.trans (hq2.mono hB1.size); have Xd_2 := (Box4.of (blk1 w1 _)).below hb2 (by omega); have cd0_2 := Xd_2.c0; have cd1_2 := Xd_2.c1; have cd2_2 := Xd_2.c2; have cd3_2 := Xd_2.c3; have ld_2 : w1.heap.size < w2.heap.size := (by omega)) | ((with_reducible refine (hLn _ ).mono ?_); rintro e w3 ⟨rfl, hb3⟩; have z3 := hb3.size; have hq3 : Below w2.heap.size w2 w3 := (Below.refl _ w2).trans (hb3.mono (by omega)); have hB3 := hB2.trans (hq3.mono hB2.size); have Xd_3 := Xd_2.below hq3 (by omega); have cd0_3 := Xd_3.c0; have cd1_3 := Xd_3.c1; have cd2_3 := Xd_3.c2; have cd3_3 := Xd_3.c3; have ld_3 : w1.heap.size < w3.heap.size := (by omega); clear cd0_2 cd1_2 cd2_2 cd3_2 ld_2 Xd_2) | ((with_reducible refine (hW _ ).mono ?_); rintro e w4 ⟨a4, q4, rfl, h4, hb4, -⟩; rw [size1] at hb4; have z4 := hb4.size; rw [size1] at z4; have hq4 : Below w3.heap.size w3 w4 := (below1 w3 _).trans (hb4.mono (by omega)); have hB4 := hB3.trans (hq4.mono hB3.size); have Xd_4 := Xd_3.below hq4 (by omega); have Xx_4 := (Box4.of (blk1 w3 _)).below hb4 (by omega); have Rr_4 := h4; have cd0_4 := Xd_4.c0; have cd1_4 := Xd_4.c1; have cd2_4 := Xd_4.c2; have cd3_4 := Xd_4.c3; have ld_4 : w1.heap.size < w4.heap.size := (by omega); have cx0_4 := Xx_4.c0; have cx1_4 := Xx_4.c1; have cx2_4 := Xx_4.c2; have cx3_4 := Xx_4.c3; have lx_4 : w3.heap.size < w4.heap.size := (by omega); have hc1 := ((h4.same (below2 w4 (.cells #[.slice a4 2 q4, .int .i64 12] 24) (.cells #[.int .i64 10, .int .i64 9, .int .u64 17360, .int .u64 16336] 30))).rd.strD (P := Try.prog) 2 q4 rfl (src := 22) (dst := 9) Try.underlying22 Try.underlying5 Try.underlying9).1; clear cd0_3 cd1_3 cd2_3 cd3_3 ld_3 Xd_3))
  go_ret
  exact ⟨rfl, hB4.trans ((below2 w4 _ _).mono hB4.size)⟩
end Go.Proofs.Ytbhoodhcipegbaa.Wk

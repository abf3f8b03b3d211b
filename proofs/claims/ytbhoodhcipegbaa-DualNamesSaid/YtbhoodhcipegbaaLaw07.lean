/- The laws of layer 7: the chapter's examples. -/
import Derived.Test.YtbhoodhcipegbaaLaw06
import Derived.Test.YtbhoodhcipegbaaRef07b
namespace Go.Proofs.Ytbhoodhcipegbaa.Wk
open Go.Proofs Go.RowKit Go.Proofs.Ytbhoodhcipegbaa.Kit Go.Proofs.Ytbhoodhcipegbaa.M01 Go.Proofs.Ytbhoodhcipegbaa.M02 Go.Proofs.Ytbhoodhcipegbaa.M06 Go.Proofs.Ytbhoodhcipegbaa.M07 Go.Proofs.Ytbhoodhcipegbaa.Bt Go.Proofs.Ytbhoodhcipegbaa.R02 Go.Proofs.Ytbhoodhcipegbaa.Un Go.Proofs.Ytbhoodhcipegbaa.R06 Go.Proofs.Ytbhoodhcipegbaa.Ri Go.Proofs.Ytbhoodhcipegbaa.R07
set_option linter.unusedVariables false

theorem isU32_of {v : Int} (h : 0 ≤ v ∧ v ≤ 4294967295) : isU32 v := h

/-- What Write answers, nothing being there. -/
theorem rw_nil {v k : Int} (hv : isU32 v) (h0 : 0 ≤ k) (h1 : k ≤ 24) : rwE [] 0 v k = 0 ∧ rwL [] 0 v k = bl (cdS v k) (cdV v k) ∧ rwN [] 0 v k = cdS v k ∧ okB (bl (cdS v k) (cdV v k)) (cdS v k) = true ∧ val (bl (cdS v k) (cdV v k)) = cdV v k := by
  have hs := cdS_bd hv.1 h0 h1
  have hl := cd_bd hv.1 h0 h1
  have e : rwE [] 0 v k = 0 := by rw [rwE, if_pos ok_nil, if_neg (by omega), if_neg (by omega)]
  refine ⟨e, ?_, ?_, ok_bl (by omega) (by omega) hl.1 hl.2, val_bl (by omega) hl.1 hl.2⟩
  · rw [rwL, if_pos e, p2_zero, Int.mul_one, Int.zero_add, show val [] = 0 from rfl, Int.zero_add]
  · rw [rwN, if_pos e, Int.zero_add]

end Go.Proofs.Ytbhoodhcipegbaa.Wk

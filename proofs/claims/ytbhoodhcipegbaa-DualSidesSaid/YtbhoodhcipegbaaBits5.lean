/- What package bits fills up, puts, and joins. -/
import Derived.Test.YtbhoodhcipegbaaBits4
namespace Go.Proofs.Ytbhoodhcipegbaa.Bt
open Go.RowKit Go.Proofs.Ytbhoodhcipegbaa.Kit Go.Proofs.Ytbhoodhcipegbaa.M01 Go.Proofs.Ytbhoodhcipegbaa.M02
set_option linter.unusedVariables false

/-- An int. -/
def isInt (n : Int) : Prop := -9223372036854775808 ≤ n ∧ n ≤ 9223372036854775807

theorem ok_len {xs : List Int} {n : Int} (h : okB xs n = true) : xs.length ≤ 41250 := by
  have := okB_iff.1 h; omega

end Go.Proofs.Ytbhoodhcipegbaa.Bt

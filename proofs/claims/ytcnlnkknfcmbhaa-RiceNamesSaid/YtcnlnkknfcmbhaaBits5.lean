/- What package bits fills up, puts, and joins. -/
import Derived.Test.YtcnlnkknfcmbhaaBits4
namespace Go.Proofs.Ytcnlnkknfcmbhaa.Bt
open Go.RowKit Go.Proofs.Ytcnlnkknfcmbhaa.Kit Go.Proofs.Ytcnlnkknfcmbhaa.M01 Go.Proofs.Ytcnlnkknfcmbhaa.M02
set_option linter.unusedVariables false

/-- An int. -/
def isInt (n : Int) : Prop := -9223372036854775808 ≤ n ∧ n ≤ 9223372036854775807

theorem ok_len {xs : List Int} {n : Int} (h : okB xs n = true) : xs.length ≤ 41250 := by
  have := okB_iff.1 h; omega

end Go.Proofs.Ytcnlnkknfcmbhaa.Bt

/- The reference of layer 2: bits joined. -/
import Derived.Test.YtbhoodhcipegbaaRef02f
namespace Go.Proofs.Ytbhoodhcipegbaa.R02
open Go.RowKit Go.Proofs.Ytbhoodhcipegbaa.Kit Go.Proofs.Ytbhoodhcipegbaa.M01 Go.Proofs.Ytbhoodhcipegbaa.M02 Go.Proofs.Ytbhoodhcipegbaa.Bt
set_option linter.unusedVariables false

theorem join_step {V Y z n i : Int} (hn : 0 ≤ n) (hi : 0 ≤ i) (hz : Y / p2 i % 2 = z) : V + Y % p2 i * p2 n + z * p2 (n + i) = V + Y % p2 (i + 1) * p2 n := by
  rw [mod_p2_succ Y hi, hz, p2_add hn hi, Int.add_mul, Int.mul_assoc z, Int.mul_comm (p2 i) (p2 n)]; omega

end Go.Proofs.Ytbhoodhcipegbaa.R02

/- The reference of layer 2: bytes as bits, filled up bits. -/
import Derived.Test.YtbhoodhcipegbaaRef02e
namespace Go.Proofs.Ytbhoodhcipegbaa.R02
open Go.RowKit Go.Proofs.Ytbhoodhcipegbaa.Kit Go.Proofs.Ytbhoodhcipegbaa.M01 Go.Proofs.Ytbhoodhcipegbaa.M02 Go.Proofs.Ytbhoodhcipegbaa.Bt
set_option linter.unusedVariables false



end Go.Proofs.Ytbhoodhcipegbaa.R02

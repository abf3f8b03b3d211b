/- The reference of layer 2: bytes as bits, filled up bits. -/
import Derived.Test.YtcnlnkknfcmbhaaRef02e
namespace Go.Proofs.Ytcnlnkknfcmbhaa.R02
open Go.RowKit Go.Proofs.Ytcnlnkknfcmbhaa.Kit Go.Proofs.Ytcnlnkknfcmbhaa.M01 Go.Proofs.Ytcnlnkknfcmbhaa.M02 Go.Proofs.Ytcnlnkknfcmbhaa.Bt
set_option linter.unusedVariables false



end Go.Proofs.Ytcnlnkknfcmbhaa.R02

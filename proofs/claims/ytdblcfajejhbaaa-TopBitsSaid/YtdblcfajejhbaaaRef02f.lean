/- The reference of layer 2: bytes as bits, filled up bits. -/
import Derived.Test.YtdblcfajejhbaaaRef02e
namespace Go.Proofs.Ytdblcfajejhbaaa.R02
open Go.RowKit Go.Proofs.Ytdblcfajejhbaaa.Kit Go.Proofs.Ytdblcfajejhbaaa.M01 Go.Proofs.Ytdblcfajejhbaaa.M02 Go.Proofs.Ytdblcfajejhbaaa.Bt
set_option linter.unusedVariables false



end Go.Proofs.Ytdblcfajejhbaaa.R02

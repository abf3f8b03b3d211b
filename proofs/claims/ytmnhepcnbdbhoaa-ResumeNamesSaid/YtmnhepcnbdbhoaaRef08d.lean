/- What the reference of layer 8 returns: Write. -/
import Derived.Test.YtmnhepcnbdbhoaaRef08c
import Derived.Deep.Cut
namespace Go.Proofs.Ytmnhepcnbdbhoaa.R08
open Go.Proofs Go.RowKit Go.Proofs.Ytmnhepcnbdbhoaa.Kit Go.Proofs.Ytmnhepcnbdbhoaa.M01 Go.Proofs.Ytmnhepcnbdbhoaa.M02 Go.Proofs.Ytmnhepcnbdbhoaa.M06 Go.Proofs.Ytmnhepcnbdbhoaa.M07 Go.Proofs.Ytmnhepcnbdbhoaa.M08 Go.Proofs.Ytmnhepcnbdbhoaa.Bt Go.Proofs.Ytmnhepcnbdbhoaa.R02 Go.Proofs.Ytmnhepcnbdbhoaa.Un Go.Proofs.Ytmnhepcnbdbhoaa.R06 Go.Proofs.Ytmnhepcnbdbhoaa.Ri Go.Proofs.Ytmnhepcnbdbhoaa.R07 Go.Proofs.Ytmnhepcnbdbhoaa.Du
set_option linter.unusedVariables false
attribute [local irreducible] wpStill

theorem results_cct8 {fn : Func} {p q u : Tmp} {t1 t2 : TypeId} (h : fn.results = #[.cell p t1, .cell q t2, .tmp u]) (tmps : Array Value) (P : Program) (w : World) :
    (results fn tmps).run P w = ((asAddr (tmps.getD p undef)).run P w).andThen fun a w₁ => ((loadVar t1 a).run P w₁).andThen fun v w₂ =>
      ((asAddr (tmps.getD q undef)).run P w₂).andThen fun b w₃ => ((loadVar t2 b).run P w₃).andThen fun x w₄ => .ok (.tuple #[v, x, tmps.getD u undef]) w₄ := by
  simp only [results, h]
  simp [Sem.run_bind, Result.andThen]


end Go.Proofs.Ytmnhepcnbdbhoaa.R08

/- What the reference of layer 8 returns: writing. -/
import Derived.Test.YtmnhepcnbdbhoaaGR8
namespace Go.Proofs.Ytmnhepcnbdbhoaa.R08
open Go.Proofs Go.RowKit Go.Proofs.Ytmnhepcnbdbhoaa.Kit Go.Proofs.Ytmnhepcnbdbhoaa.M01 Go.Proofs.Ytmnhepcnbdbhoaa.M02 Go.Proofs.Ytmnhepcnbdbhoaa.M06 Go.Proofs.Ytmnhepcnbdbhoaa.M07 Go.Proofs.Ytmnhepcnbdbhoaa.M08 Go.Proofs.Ytmnhepcnbdbhoaa.Bt Go.Proofs.Ytmnhepcnbdbhoaa.R02 Go.Proofs.Ytmnhepcnbdbhoaa.Un Go.Proofs.Ytmnhepcnbdbhoaa.R06 Go.Proofs.Ytmnhepcnbdbhoaa.Ri Go.Proofs.Ytmnhepcnbdbhoaa.R07 Go.Proofs.Ytmnhepcnbdbhoaa.Du
set_option linter.unusedVariables false
attribute [local irreducible] wpStill

theorem add8_low {V v n : Int} {d : D4} (hn : 0 ≤ n) (hv : isU v) (hl : v < p2 d.a) : (V + 0 * p2 n) + (v % p2 d.a) * p2 (n + 1) = V + duV d v * p2 n := by
  unfold duV
  rw [if_pos hl, Int.emod_eq_of_lt hv.1 hl, p2_add hn (by omega), p2_1, Int.mul_comm (p2 n) 2, ← Int.mul_assoc]; omega
theorem add8_high {V v n : Int} {d : D4} (hn : 0 ≤ n) (hl : ¬ v < p2 d.a) : (V + 1 * p2 n) + cdV (v - p2 d.a) d.b * p2 (n + 1) = V + duV d v * p2 n := by
  unfold duV
  rw [if_neg hl, p2_add hn (by omega), p2_1, Int.mul_comm (p2 n) 2, ← Int.mul_assoc, Int.add_mul]; omega
theorem bit_lt {V n β : Int} (hn : 0 ≤ n) (h0 : 0 ≤ V) (h1 : V < p2 n) (hβ : β = 0 ∨ β = 1) : 0 ≤ V + β * p2 n ∧ V + β * p2 n < p2 (n + 1) := by
  have hp := p2_pos n
  rw [p2_add hn (by omega), p2_1]
  rcases hβ with rfl | rfl <;> omega


end Go.Proofs.Ytmnhepcnbdbhoaa.R08

/- The law Crc64Sums. -/
import Derived.Test.YtpbignknpccpkaaLaw04
namespace Go.Proofs.Ytpbignknpccpkaa.Wk
open Go.RowKit Go.Proofs.Ytpbignknpccpkaa.Kit Go.Proofs.Ytpbignknpccpkaa.M04 Go.Proofs.Ytpbignknpccpkaa.Cr6 Go.Proofs.Ytpbignknpccpkaa.R04
set_option linter.unusedVariables false

set_option maxHeartbeats 4000000 in
theorem crc64Sums_walk (a0 : Int) (a1 : Option Addr) (l1 c1 : Nat) (x1 : List Int) (w : World) (b0 : 0 ≤ a0 ∧ a0 ≤ 18446744073709551615) (r1 : RowIn .u8 w a1 l1 c1 x1) :
    Calls Try.prog 4 #[.int .u64 a0, .slice a1 l1 c1] w fun e w' => e = .returned (.bool true) ∧ Below w.heap.size w w' := by
  obtain ⟨i0, hi, hz0, hz1, hz2⟩ := info_parts info_u8
  have G := great_any a1 l1 c1 x1 w r1
  by_cases hg : greatC l1 = true
  · rw [hg] at G
    go_enter Try.func4, Try.ntmps4
    go_wp2_with ((with_reducible refine G.mono ?_); rintro e w' ⟨rfl, rfl⟩)
    go_ret
    exact ⟨rfl, Below.refl _ _⟩
  · have hl : l1 ≤ 100100 := by
      rw [greatC] at hg
      simp at hg
      omega
    rw [show greatC l1 = false by simpa using hg] at G
    have hll := r1.hl
    have O1 := OwnI.lit (k := .u8) w w.heap.size 5 [] (Nat.le_refl _) (by decide)
    have N1 := fun b cap w' (r : RowIn .u8 w' b l1 cap x1) => next_any a0 b l1 cap x1 w' r b0.1 (by omega)
    have N2 := fun w' (r : RowIn .u8 w' a1 l1 c1 x1) => rnext_any a0 a1 l1 c1 x1 w' r b0.1 (by omega)
    have N3 := fun b cap w' (r : RowIn .u8 w' b l1 cap x1) => sum_any b l1 cap x1 w' r
    have N4 := fun w' (r : RowIn .u8 w' a1 l1 c1 x1) => rsum_any a1 l1 c1 x1 w' r
    generalize nxN a0 x1 = y1 at *
    generalize nxE x1 = y2 at *
    generalize nxN 0 x1 = y3 at *
    go_enter Try.func4, Try.ntmps4
    go_wp2_with (first  | ((with_reducible refine G.mono ?_); rintro e w' ⟨rfl, rfl⟩)  | (at_builtin; refine appN rfl _ _ 28 rfl w.heap.size 5 i0 (.int .u8 0) 1 Try.underlying28 hi hz0 hz1 hz2 rfl .u8 _ _ O1 a1 l1 c1 x1 (r1.same (below1 _ _)).rd hll rfl rfl (by simp) (by simp; omega) (by simp; omega) ?_; intro v' w2 hown hgr hbw; replace hbw := (below1 w _).trans hbw; rw [List.nil_append] at hown; obtain ⟨a', cap', rfl, hrow⟩ := hown.row r1.rd.2.2; rw [hll] at hown hrow; have hr2 := r1.same hbw)  | ((with_reducible refine (N1 _ _ _ hrow).mono ?_); rintro e w' ⟨rfl, rfl⟩)  | ((with_reducible refine (N2 _ hr2).mono ?_); rintro e w' ⟨rfl, q, rfl⟩)  | ((with_reducible refine (N3 _ _ _ (hrow.same (below_drewN (Below.refl _ _) _))).mono ?_); rintro e w' ⟨rfl, rfl⟩)  | ((with_reducible refine (N4 _ (hr2.same (below_drewN (Below.refl _ _) _))).mono ?_); rintro e w' ⟨rfl, q2, rfl⟩; have s0 := ((hrow.same (below_drewN (Below.refl _ _) (q + q2))).rd.strD (P := Try.prog) l1 cap' hll (src := 28) (dst := 9) Try.underlying28 Try.underlying5 Try.underlying9).1; have s1 := ((hr2.same (below_drewN (Below.refl _ _) (q + q2))).rd.strD (P := Try.prog) l1 c1 hll (src := 28) (dst := 9) Try.underlying28 Try.underlying5 Try.underlying9).1))
    go_ret
    exact ⟨rfl, below_drewN hbw _⟩
end Go.Proofs.Ytpbignknpccpkaa.Wk

/- The law DualReads. -/
import Derived.Test.YtbhoodhcipegbaaLaw08
namespace Go.Proofs.Ytbhoodhcipegbaa.Wk
open Go.Proofs Go.RowKit Go.Proofs.Ytbhoodhcipegbaa.Kit Go.Proofs.Ytbhoodhcipegbaa.M01 Go.Proofs.Ytbhoodhcipegbaa.M02 Go.Proofs.Ytbhoodhcipegbaa.M06 Go.Proofs.Ytbhoodhcipegbaa.M07 Go.Proofs.Ytbhoodhcipegbaa.M08 Go.Proofs.Ytbhoodhcipegbaa.Bt Go.Proofs.Ytbhoodhcipegbaa.R02 Go.Proofs.Ytbhoodhcipegbaa.Un Go.Proofs.Ytbhoodhcipegbaa.R06 Go.Proofs.Ytbhoodhcipegbaa.Ri Go.Proofs.Ytbhoodhcipegbaa.R07 Go.Proofs.Ytbhoodhcipegbaa.Du Go.Proofs.Ytbhoodhcipegbaa.R08
set_option linter.unusedVariables false

set_option maxRecDepth 100000 in
set_option maxHeartbeats 8000000 in
theorem dualReads_walk (a00 : Option Addr) (l00 c00 : Nat) (x00 : List Int) (n01 : Int) (a1 : Int) (n20 : Int) (n21 : Int) (n22 : Int) (n23 : Int) (w : World) (r00 : RowIn .u8 w a00 l00 c00 x00) (b01 : -9223372036854775808 ≤ n01 ∧ n01 ≤ 9223372036854775807) (b1 : -9223372036854775808 ≤ a1 ∧ a1 ≤ 9223372036854775807) (b20 : -9223372036854775808 ≤ n20 ∧ n20 ≤ 9223372036854775807) (b21 : -9223372036854775808 ≤ n21 ∧ n21 ≤ 9223372036854775807) (b22 : 0 ≤ n22 ∧ n22 ≤ 18446744073709551615) (b23 : 0 ≤ n23 ∧ n23 ≤ 18446744073709551615) :
    Calls Try.prog 5 #[.agg #[.slice a00 l00 c00, .int .i64 n01], .int .i64 a1, .agg #[.int .i64 n20, .int .i64 n21, .int .u64 n22, .int .u64 n23]] w fun e w' => e = .returned (.bool true) ∧ Below w.heap.size w w' := by
  have hG := fun w' (r : RowIn .u8 w' a00 l00 c00 x00) => great_any a00 l00 c00 x00 n01 w' r
  unfold bv at hG
  cases hg : greatB l00
  rotate_left
  · simp only [hg] at hG
    clear hg
    go_enter Try.func5, Try.ntmps5
    go_wp2_with (first | ((with_reducible refine (hG _ (r00.same ((below2 w _ _)))).mono ?_); rintro e w1 ⟨rfl, hb1⟩; rw [size2] at hb1; have z1 := hb1.size; rw [size2] at z1; have hq1 : Below w.heap.size w w1 := (below2 w _ _).trans (hb1.mono (by omega)); have hB1 := hq1; have Xb_1 := (Box2.of (blk2a w _ _)).below hb1 (by omega); have Xd_1 := (Box4.of (blk2 w _ _)).below hb1 (by omega); have cb0_1 := Xb_1.c0; have cb1_1 := Xb_1.c1; have lb_1 : w.heap.size < w1.heap.size := (by omega); have cd0_1 := Xd_1.c0; have cd1_1 := Xd_1.c1; have cd2_1 := Xd_1.c2; have cd3_1 := Xd_1.c3; have ld_1 : w.heap.size + 1 < w1.heap.size := (by omega)))
    go_ret
    exact ⟨rfl, hB1⟩
  simp only [hg] at hG
  have hd : isD ⟨n20, n21, n22, n23⟩ := ⟨b20, b21, b22, b23⟩
  have hR := fun w' (r : RowIn .u8 w' a00 l00 c00 x00) => drd_any a00 l00 c00 x00 n01 a1 ⟨n20, n21, n22, n23⟩ w' r b01 b1 hd
  have hRR := fun w' (r : RowIn .u8 w' a00 l00 c00 x00) => rread8_any a00 l00 c00 x00 n01 a1 ⟨n20, n21, n22, n23⟩ w' r b01 b1 hd
  obtain ⟨N, hN⟩ : ∃ L, drN x00 n01 a1 ⟨n20, n21, n22, n23⟩ = L := ⟨_, rfl⟩
  obtain ⟨X, hX⟩ : ∃ L, drX x00 n01 a1 ⟨n20, n21, n22, n23⟩ = L := ⟨_, rfl⟩
  obtain ⟨E, hE⟩ : ∃ L, drE x00 n01 a1 ⟨n20, n21, n22, n23⟩ = L := ⟨_, rfl⟩
  obtain ⟨L, hL⟩ : ∃ L, drD x00 n01 a1 ⟨n20, n21, n22, n23⟩ = L := ⟨_, rfl⟩
  simp only [hN, hX, hE, hL] at hR hRR
  clear hN hX hE hL hd hg
  obtain ⟨la, lb, ls, lt⟩ := L
  unfold bv dv at hR hRR
  simp only at hR hRR
  go_enter Try.func5, Try.ntmps5
  go_wp2_with (first | ((with_reducible refine (hG _ (r00.same ((below2 w _ _)))).mono ?_); rintro e w1 ⟨rfl, hb1⟩; rw [size2] at hb1; have z1 := hb1.size; rw [size2] at z1; have hq1 : Below w.heap.size w w1 := (below2 w _ _).trans (hb1.mono (by omega)); have hB1 := hq1; have Xb_1 := (Box2.of (blk2a w _ _)).below hb1 (by omega); have Xd_1 := (Box4.of (blk2 w _ _)).below hb1 (by omega); have cb0_1 := Xb_1.c0; have cb1_1 := Xb_1.c1; have lb_1 : w.heap.size < w1.heap.size := (by omega); have cd0_1 := Xd_1.c0; have cd1_1 := Xd_1.c1; have cd2_1 := Xd_1.c2; have cd3_1 := Xd_1.c3; have ld_1 : w.heap.size + 1 < w1.heap.size := (by omega)) | ((with_reducible refine (hR _ (r00.same (hB1))).mono ?_); rintro e w2 ⟨rfl, hb2⟩; have z2 := hb2.size; have hq2 : Below w1.heap.size w1 w2 := (Below.refl _ w1).trans (hb2.mono (by omega)); have hB2 := hB1.trans (hq2.mono hB1.size); have Xb_2 := Xb_1.below hq2 (by omega); have Xd_2 := Xd_1.below hq2 (by omega); have cb0_2 := Xb_2.c0; have cb1_2 := Xb_2.c1; have lb_2 : w.heap.size < w2.heap.size := (by omega); have cd0_2 := Xd_2.c0; have cd1_2 := Xd_2.c1; have cd2_2 := Xd_2.c2; have cd3_2 := Xd_2.c3; have ld_2 : w.heap.size + 1 < w2.heap.size := (by omega); clear cb0_1 cb1_1 lb_1 Xb_1 cd0_1 cd1_1 cd2_1 cd3_1 ld_1 Xd_1) | ((with_reducible refine (hRR _ (r00.same (hB2.trans ((below1 w2 _).mono hB2.size)))).mono ?_); rintro e w3 ⟨rfl, hb3⟩; rw [size1] at hb3; have z3 := hb3.size; rw [size1] at z3; have hq3 : Below w2.heap.size w2 w3 := (below1 w2 _).trans (hb3.mono (by omega)); have hB3 := hB2.trans (hq3.mono hB2.size); have Xb_3 := Xb_2.below hq3 (by omega); have Xd_3 := Xd_2.below hq3 (by omega); have Xx_3 := (Box4.of (blk1 w2 _)).below hb3 (by omega); have cb0_3 := Xb_3.c0; have cb1_3 := Xb_3.c1; have lb_3 : w.heap.size < w3.heap.size := (by omega); have cd0_3 := Xd_3.c0; have cd1_3 := Xd_3.c1; have cd2_3 := Xd_3.c2; have cd3_3 := Xd_3.c3; have ld_3 : w.heap.size + 1 < w3.heap.size := (by omega); have cx0_3 := Xx_3.c0; have cx1_3 := Xx_3.c1; have cx2_3 := Xx_3.c2; have cx3_3 := Xx_3.c3; have lx_3 : w2.heap.size < w3.heap.size := (by omega); clear cb0_2 cb1_2 lb_2 Xb_2 cd0_2 cd1_2 cd2_2 cd3_2 ld_2 Xd_2))
  go_ret
  exact ⟨rfl, hB3.trans ((below1 w3 _).mono hB3.size)⟩
end Go.Proofs.Ytbhoodhcipegbaa.Wk

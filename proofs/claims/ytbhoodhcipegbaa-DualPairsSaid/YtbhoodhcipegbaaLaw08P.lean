/- The law DualPairs. -/
import Derived.Deep.Cut
import Derived.Test.YtbhoodhcipegbaaLaw08
namespace Go.Proofs.Ytbhoodhcipegbaa.Wk
open Go.Proofs Go.RowKit Go.Proofs.Ytbhoodhcipegbaa.Kit Go.Proofs.Ytbhoodhcipegbaa.M01 Go.Proofs.Ytbhoodhcipegbaa.M02 Go.Proofs.Ytbhoodhcipegbaa.M06 Go.Proofs.Ytbhoodhcipegbaa.M07 Go.Proofs.Ytbhoodhcipegbaa.M08 Go.Proofs.Ytbhoodhcipegbaa.Bt Go.Proofs.Ytbhoodhcipegbaa.R02 Go.Proofs.Ytbhoodhcipegbaa.Un Go.Proofs.Ytbhoodhcipegbaa.R06 Go.Proofs.Ytbhoodhcipegbaa.Ri Go.Proofs.Ytbhoodhcipegbaa.R07 Go.Proofs.Ytbhoodhcipegbaa.Du Go.Proofs.Ytbhoodhcipegbaa.R08
set_option linter.unusedVariables false
attribute [local irreducible] wpStill

set_option maxRecDepth 100000 in
set_option maxHeartbeats 8000000 in
theorem dualPairs_walk (n00 : Int) (n01 : Int) (n02 : Int) (n03 : Int) (a1 : Int) (a2 : Int) (a3 : Int) (w : World) (b00 : -9223372036854775808 ≤ n00 ∧ n00 ≤ 9223372036854775807) (b01 : -9223372036854775808 ≤ n01 ∧ n01 ≤ 9223372036854775807) (b02 : 0 ≤ n02 ∧ n02 ≤ 18446744073709551615) (b03 : 0 ≤ n03 ∧ n03 ≤ 18446744073709551615) (b1 : -9223372036854775808 ≤ a1 ∧ a1 ≤ 9223372036854775807) (b2 : 0 ≤ a2 ∧ a2 ≤ 18446744073709551615) (b3 : 0 ≤ a3 ∧ a3 ≤ 4294967295) :
    Calls Try.prog 8 #[.agg #[.int .i64 n00, .int .i64 n01, .int .u64 n02, .int .u64 n03], .int .i64 a1, .int .u64 a2, .int .u32 a3] w fun e w' => e = .returned (.bool true) ∧ Below w.heap.size w w' := by
  have hd : isD ⟨n00, n01, n02, n03⟩ := ⟨b00, b01, b02, b03⟩
  have hd2 : isD ⟨n00, a1, n02, a2⟩ := ⟨b00, b1, b02, b2⟩
  have hC1 := fun w' => rcheckD_any ⟨n00, n01, n02, n03⟩ w' hd
  have hC2 := fun w' => rcheckD_any ⟨n00, a1, n02, a2⟩ w' hd2
  unfold dv at hC1 hC2
  simp only at hC1 hC2
  by_cases h : okD ⟨n00, n01, n02, n03⟩ = true
  case neg =>
    rw [show chD ⟨n00, n01, n02, n03⟩ = 8 by unfold chD; rw [if_neg h]] at hC1
    clear h hd hd2 hC2
    go_enter Try.func8, Try.ntmps8
    go_wp2_with (first | ((with_reducible refine (hC1 _ ).mono ?_); rintro e w1 ⟨rfl, hb1⟩; rw [size2] at hb1; have z1 := hb1.size; rw [size2] at z1; have hq1 : Below w.heap.size w w1 := (below2 w _ _).trans (hb1.mono (by omega)); have hB1 := hq1; have Xd_1 := (Box4.of (blk2a w _ _)).below hb1 (by omega); have Xo_1 := (Box4.of (blk2 w _ _)).below hb1 (by omega); have cd0_1 := Xd_1.c0; have cd1_1 := Xd_1.c1; have cd2_1 := Xd_1.c2; have cd3_1 := Xd_1.c3; have ld_1 : w.heap.size < w1.heap.size := (by omega); have co0_1 := Xo_1.c0; have co1_1 := Xo_1.c1; have co2_1 := Xo_1.c2; have co3_1 := Xo_1.c3; have lo_1 : w.heap.size + 1 < w1.heap.size := (by omega)) | (go_at_call 17; (with_reducible refine (alive8_any _).mono ?_); rintro e wA ⟨rfl, hbA⟩))
    go_ret
    exact ⟨rfl, hB1.trans (hbA.mono hB1.size)⟩
  rw [show chD ⟨n00, n01, n02, n03⟩ = 0 by unfold chD; rw [if_pos h]] at hC1
  by_cases h2 : okD ⟨n00, a1, n02, a2⟩ = true
  case neg =>
    rw [show chD ⟨n00, a1, n02, a2⟩ = 8 by unfold chD; rw [if_neg h2]] at hC2
    clear h hd hd2 h2
    go_enter Try.func8, Try.ntmps8
    go_wp2_with (first | ((with_reducible refine (hC1 _ ).mono ?_); rintro e w1 ⟨rfl, hb1⟩; rw [size2] at hb1; have z1 := hb1.size; rw [size2] at z1; have hq1 : Below w.heap.size w w1 := (below2 w _ _).trans (hb1.mono (by omega)); have hB1 := hq1; have Xd_1 := (Box4.of (blk2a w _ _)).below hb1 (by omega); have Xo_1 := (Box4.of (blk2 w _ _)).below hb1 (by omega); have cd0_1 := Xd_1.c0; have cd1_1 := Xd_1.c1; have cd2_1 := Xd_1.c2; have cd3_1 := Xd_1.c3; have ld_1 : w.heap.size < w1.heap.size := (by omega); have co0_1 := Xo_1.c0; have co1_1 := Xo_1.c1; have co2_1 := Xo_1.c2; have co3_1 := Xo_1.c3; have lo_1 : w.heap.size + 1 < w1.heap.size := (by omega)) | ((with_reducible refine (hC2 _ ).mono ?_); rintro e w2 ⟨rfl, hb2⟩; have z2 := hb2.size; have hq2 : Below w1.heap.size w1 w2 := (Below.refl _ w1).trans (hb2.mono (by omega)); have hB2 := hB1.trans (hq2.mono hB1.size); have Xd_2 := Xd_1.below hq2 (by omega); have Xo_2 := Xo_1.below hq2 (by omega); have cd0_2 := Xd_2.c0; have cd1_2 := Xd_2.c1; have cd2_2 := Xd_2.c2; have cd3_2 := Xd_2.c3; have ld_2 : w.heap.size < w2.heap.size := (by omega); have co0_2 := Xo_2.c0; have co1_2 := Xo_2.c1; have co2_2 := Xo_2.c2; have co3_2 := Xo_2.c3; have lo_2 : w.heap.size + 1 < w2.heap.size := (by omega); clear cd0_1 cd1_1 cd2_1 cd3_1 ld_1 Xd_1 co0_1 co1_1 co2_1 co3_1 lo_1 Xo_1) | (go_at_call 17; (with_reducible refine (alive8_any _).mono ?_); rintro e wA ⟨rfl, hbA⟩))
    go_ret
    exact ⟨rfl, hB2.trans (hbA.mono hB2.size)⟩
  rw [show chD ⟨n00, a1, n02, a2⟩ = 0 by unfold chD; rw [if_pos h2]] at hC2
  have hL1 := fun w' => learn_any ⟨n00, n01, n02, n03⟩ a3 w' hd b3
  have hL2 := fun w' => learn_any ⟨n00, a1, n02, a2⟩ a3 w' hd2 b3
  rw [show chD ⟨n00, n01, n02, n03⟩ = 0 by unfold chD; rw [if_pos h], show lnD ⟨n00, n01, n02, n03⟩ a3 = learnD ⟨n00, n01, n02, n03⟩ a3 by unfold lnD; rw [if_pos h]] at hL1
  rw [show chD ⟨n00, a1, n02, a2⟩ = 0 by unfold chD; rw [if_pos h2], show lnD ⟨n00, a1, n02, a2⟩ a3 = learnD ⟨n00, a1, n02, a2⟩ a3 by unfold lnD; rw [if_pos h2]] at hL2
  obtain ⟨a0, a0', b0, b0', s0', t0'⟩ := okD_iff.1 h
  simp only at a0 a0' b0 b0' s0' t0'
  have hw0 := p2_24le a0'
  have hw1 := p2_pos n00
  have hS0 := lS_bd b02.1 s0' b3
  have q0 := wrap_p2 (k := n00) a0 (by omega)
  have q4 : IntKind.u64.wrap (16 * 2 ^ n00.toNat) = p2 (n00 + 4) := by
    have e := p2_add (n := 4) (m := n00) (by omega) a0
    rw [show p2 4 = 16 by decide +kernel, Int.add_comm] at e
    show IntKind.u64.wrap (16 * p2 n00) = _
    rw [← e]; simp [IntKind.wrap, IntKind.bits, IntKind.signed]; omega
  have q5 : IntKind.u64.wrap (32 * 2 ^ n00.toNat) = p2 (n00 + 5) := by
    have e := p2_add (n := 5) (m := n00) (by omega) a0
    rw [show p2 5 = 32 by decide +kernel, Int.add_comm] at e
    show IntKind.u64.wrap (32 * p2 n00) = _
    rw [← e]; simp [IntKind.wrap, IntKind.bits, IntKind.signed]; omega
  have hu := small_u64 b3
  have eS : n02 - n02 / 16 + a3 = lS n02 a3 := rfl
  have eK : lK n00 (lS n02 a3) = if 0 < n00 ∧ lS n02 a3 < p2 (n00 + 4) then n00 - 1 else if n00 < 24 ∧ p2 (n00 + 5) < lS n02 a3 then n00 + 1 else n00 := rfl
  have hKb := lK_bd (lS n02 a3) a0 a0'
  have e1 : learnD ⟨n00, n01, n02, n03⟩ a3 = ⟨lK n00 (lS n02 a3), if a3 < p2 n00 then n01 else lK n01 (lS n03 (a3 - p2 n00)), lS n02 a3, if a3 < p2 n00 then n03 else lS n03 (a3 - p2 n00)⟩ := rfl
  have e2 : learnD ⟨n00, a1, n02, a2⟩ a3 = ⟨lK n00 (lS n02 a3), if a3 < p2 n00 then a1 else lK a1 (lS a2 (a3 - p2 n00)), lS n02 a3, if a3 < p2 n00 then a2 else lS a2 (a3 - p2 n00)⟩ := rfl
  rw [e1] at hL1
  rw [e2] at hL2
  have hTl : ¬ a3 < p2 n00 → n03 - n03 / 16 + (a3 - p2 n00) = lS n03 (a3 - p2 n00) ∧ 0 ≤ lS n03 (a3 - p2 n00) ∧ lS n03 (a3 - p2 n00) ≤ 68719476735 := fun g => ⟨rfl, lS_bd b03.1 t0' (left_bd (d := ⟨n00, n01, n02, n03⟩) b3 g)⟩
  have hK1 := lK_bd (lS n03 (a3 - p2 n00)) b0 b0'
  have hP45 : p2 (n00 + 4) < p2 (n00 + 5) := by
    have := p2_add (n := n00 + 4) (m := 1) (by omega) (by omega)
    rw [show n00 + 4 + 1 = n00 + 5 by omega, p2_1] at this
    have := p2_pos (n00 + 4); omega
  obtain ⟨Y1, hY1⟩ : ∃ Y, (if a3 < p2 n00 then a1 else lK a1 (lS a2 (a3 - p2 n00))) = Y := ⟨_, rfl⟩
  obtain ⟨Y3, hY3⟩ : ∃ Y, (if a3 < p2 n00 then a2 else lS a2 (a3 - p2 n00)) = Y := ⟨_, rfl⟩
  rw [hY1, hY3] at hL2
  obtain ⟨X1, hX1⟩ : ∃ Y, (if a3 < p2 n00 then n01 else lK n01 (lS n03 (a3 - p2 n00))) = Y := ⟨_, rfl⟩
  obtain ⟨X3, hX3⟩ : ∃ Y, (if a3 < p2 n00 then n03 else lS n03 (a3 - p2 n00)) = Y := ⟨_, rfl⟩
  rw [hX1, hX3] at hL1
  obtain ⟨K, hK⟩ : ∃ Y, lK n00 (lS n02 a3) = Y := ⟨_, rfl⟩
  obtain ⟨S, hS⟩ : ∃ Y, lS n02 a3 = Y := ⟨_, rfl⟩
  obtain ⟨K1, hK1'⟩ : ∃ Y, lK n01 (lS n03 (a3 - p2 n00)) = Y := ⟨_, rfl⟩
  obtain ⟨T1, hT1⟩ : ∃ Y, lS n03 (a3 - p2 n00) = Y := ⟨_, rfl⟩
  rw [hK1'] at hX1 hK1
  rw [hT1] at hX3 hTl
  obtain ⟨P, hP⟩ : ∃ Y, p2 n00 = Y := ⟨_, rfl⟩
  obtain ⟨P4, hP4⟩ : ∃ Y, p2 (n00 + 4) = Y := ⟨_, rfl⟩
  obtain ⟨P5, hP5⟩ : ∃ Y, p2 (n00 + 5) = Y := ⟨_, rfl⟩
  simp only [hK] at hL1 hL2 eK hKb
  simp only [hS] at hL1 hL2 eK eS hS0
  simp only [hP] at hX1 hX3 hTl q0 hw0 hw1
  simp only [hP4] at eK q4 hP45
  simp only [hP5] at eK q5 hP45
  unfold dv at hL1 hL2
  simp only at hL1 hL2
  obtain ⟨v0, v1⟩ := b3
  clear e1 e2 hY1 hY3 hK hS hK1' hT1 hP hP4 hP5 h h2 hd hd2
  have fK1 : (X1 < n01 - 1) = False := eq_false (by rw [← hX1]; split <;> omega)
  have fK2 : (n01 + 1 < X1) = False := eq_false (by rw [← hX1]; split <;> omega)
  have fK3 : (K < n00 - 1) = False := eq_false (by omega)
  have fK4 : (n00 + 1 < K) = False := eq_false (by omega)
  have HK : Hid (((0 < n00 ∧ S < P4) ∧ K = n00 - 1) ∨ (¬ (0 < n00 ∧ S < P4) ∧ (n00 < 24 ∧ P5 < S) ∧ K = n00 + 1) ∨ (¬ (0 < n00 ∧ S < P4) ∧ ¬ (n00 < 24 ∧ P5 < S) ∧ K = n00)) := hid (by
    by_cases g1 : 0 < n00 ∧ S < P4
    · rw [if_pos g1] at eK; exact .inl ⟨g1, eK⟩
    · rw [if_neg g1] at eK
      by_cases g2 : n00 < 24 ∧ P5 < S
      · rw [if_pos g2] at eK; exact .inr (.inl ⟨g1, g2, eK⟩)
      · rw [if_neg g2] at eK; exact .inr (.inr ⟨g1, g2, eK⟩))
  clear eK
  have HX : Hid ((a3 < P ∧ X1 = n01 ∧ X3 = n03) ∨ (¬ a3 < P ∧ P ≤ a3 ∧ X1 = K1 ∧ X3 = T1 ∧ n03 - n03 / 16 + (a3 - P) = T1 ∧ 0 ≤ T1 ∧ T1 ≤ 68719476735)) := hid (by
    by_cases g : a3 < P
    · rw [if_pos g] at hX1 hX3; exact .inl ⟨g, hX1.symm, hX3.symm⟩
    · rw [if_neg g] at hX1 hX3; have t := hTl g; exact .inr ⟨g, by omega, hX1.symm, hX3.symm, t⟩)
  clear hX1 hX3 hTl
  go_enter Try.func8, Try.ntmps8
  go_wp2_with (first | ((with_reducible refine (hC1 _ ).mono ?_); rintro e w1 ⟨rfl, hb1⟩; rw [size2] at hb1; have z1 := hb1.size; rw [size2] at z1; have hq1 : Below w.heap.size w w1 := (below2 w _ _).trans (hb1.mono (by omega)); have hB1 := hq1; have Xd_1 := (Box4.of (blk2a w _ _)).below hb1 (by omega); have Xo_1 := (Box4.of (blk2 w _ _)).below hb1 (by omega); have cd0_1 := Xd_1.c0; have cd1_1 := Xd_1.c1; have cd2_1 := Xd_1.c2; have cd3_1 := Xd_1.c3; have ld_1 : w.heap.size < w1.heap.size := (by omega); have co0_1 := Xo_1.c0; have co1_1 := Xo_1.c1; have co2_1 := Xo_1.c2; have co3_1 := Xo_1.c3; have lo_1 : w.heap.size + 1 < w1.heap.size := (by omega)) | ((with_reducible refine (hC2 _ ).mono ?_); rintro e w2 ⟨rfl, hb2⟩; have z2 := hb2.size; have hq2 : Below w1.heap.size w1 w2 := (Below.refl _ w1).trans (hb2.mono (by omega)); have hB2 := hB1.trans (hq2.mono hB1.size); have Xd_2 := Xd_1.below hq2 (by omega); have Xo_2 := Xo_1.below hq2 (by omega); have cd0_2 := Xd_2.c0; have cd1_2 := Xd_2.c1; have cd2_2 := Xd_2.c2; have cd3_2 := Xd_2.c3; have ld_2 : w.heap.size < w2.heap.size := (by omega); have co0_2 := Xo_2.c0; have co1_2 := Xo_2.c1; have co2_2 := Xo_2.c2; have co3_2 := Xo_2.c3; have lo_2 : w.heap.size + 1 < w2.heap.size := (by omega); clear cd0_1 cd1_1 cd2_1 cd3_1 ld_1 Xd_1 co0_1 co1_1 co2_1 co3_1 lo_1 Xo_1) | ((with_reducible refine (hL1 _ ).mono ?_); rintro e w3 ⟨rfl, hb3⟩; have z3 := hb3.size; have hq3 : Below w2.heap.size w2 w3 := (Below.refl _ w2).trans (hb3.mono (by omega)); have hB3 := hB2.trans (hq3.mono hB2.size); have Xd_3 := Xd_2.below hq3 (by omega); have Xo_3 := Xo_2.below hq3 (by omega); have cd0_3 := Xd_3.c0; have cd1_3 := Xd_3.c1; have cd2_3 := Xd_3.c2; have cd3_3 := Xd_3.c3; have ld_3 : w.heap.size < w3.heap.size := (by omega); have co0_3 := Xo_3.c0; have co1_3 := Xo_3.c1; have co2_3 := Xo_3.c2; have co3_3 := Xo_3.c3; have lo_3 : w.heap.size + 1 < w3.heap.size := (by omega); clear cd0_2 cd1_2 cd2_2 cd3_2 ld_2 Xd_2 co0_2 co1_2 co2_2 co3_2 lo_2 Xo_2) | ((with_reducible refine (hL2 _ ).mono ?_); rintro e w4 ⟨rfl, hb4⟩; rw [size1] at hb4; have z4 := hb4.size; rw [size1] at z4; have hq4 : Below w3.heap.size w3 w4 := (below1 w3 _).trans (hb4.mono (by omega)); have hB4 := hB3.trans (hq4.mono hB3.size); have Xd_4 := Xd_3.below hq4 (by omega); have Xo_4 := Xo_3.below hq4 (by omega); have Xx_4 := (Box4.of (blk1 w3 _)).below hb4 (by omega); have cd0_4 := Xd_4.c0; have cd1_4 := Xd_4.c1; have cd2_4 := Xd_4.c2; have cd3_4 := Xd_4.c3; have ld_4 : w.heap.size < w4.heap.size := (by omega); have co0_4 := Xo_4.c0; have co1_4 := Xo_4.c1; have co2_4 := Xo_4.c2; have co3_4 := Xo_4.c3; have lo_4 : w.heap.size + 1 < w4.heap.size := (by omega); have cx0_4 := Xx_4.c0; have cx1_4 := Xx_4.c1; have cx2_4 := Xx_4.c2; have cx3_4 := Xx_4.c3; have lx_4 : w3.heap.size < w4.heap.size := (by omega); clear cd0_3 cd1_3 cd2_3 cd3_3 ld_3 Xd_3 co0_3 co1_3 co2_3 co3_3 lo_3 Xo_3) | (go_at_call 17; (with_reducible refine (alive8_any _).mono ?_); rintro e wA ⟨rfl, hbA⟩))
  have Xd_5 := Xd_4.below (below1 w4 (.cells #[.int .i64 K, .int .i64 Y1, .int .u64 S, .int .u64 Y3] 30)) (by omega)
  have Xx_5 := Xx_4.below (below1 w4 (.cells #[.int .i64 K, .int .i64 Y1, .int .u64 S, .int .u64 Y3] 30)) (by omega)
  have hB5 := hB4.trans ((below1 w4 (.cells #[.int .i64 K, .int .i64 Y1, .int .u64 S, .int .u64 Y3] 30)).mono hB4.size)
  generalize (w4.alloc (.cells #[.int .i64 K, .int .i64 Y1, .int .u64 S, .int .u64 Y3] 30)) = w5 at *
  clear hB1 hB2 hB3 hq1 hq2 hq3 hq4 hb1 hb2 hb3 hb4 z1 z2 z3 z4 Xd_4 Xo_4 Xx_4 cd0_4 cd1_4 cd2_4 cd3_4 co0_4 co1_4 co2_4 co3_4 cx0_4 cx1_4 cx2_4 cx3_4 ld_4 lo_4 lx_4 hB4 hC1 hC2 hL1 hL2
  obtain ⟨cd0, cd1, cd2, cd3, -, -, -, -⟩ := Xd_5
  obtain ⟨cx0, cx1, cx2, cx3, -, -, -, -⟩ := Xx_5
  rcases HK.out with ⟨⟨g1, g2⟩, rfl⟩ | ⟨g1, ⟨g2, g3⟩, rfl⟩ | ⟨g1, g2, hkk⟩
  · have f0 : (0 < n00) = True := eq_true g1
    have f2 : (S < P4) = True := eq_true g2
    have f3 : (P5 < S) = False := eq_false (by omega)
    by_cases c24 : n00 < 24
    · skip
      have f1 : (n00 < 24) = True := eq_true (by omega)
      have e1 : (n00 - 1 == n00 + 1) = false := beq_eq_false_iff_ne.2 (by omega)
      have e1' : (n00 - 1 = n00 + 1) = False := eq_false (by omega)
      go_quiet (fail)
      go_wp2
      go_quiet (fail)
      go_upto_region 15 with fail
      have hB6 := fun m => below_drewN hB5 m
      rcases HX.out with ⟨y1, rfl, rfl⟩ | ⟨y1, y2, rfl, rfl, y3, y4, y5⟩
      · have f8 : (a3 < P) = True := eq_true y1
        go_wp2_with ((go_at_call 17; (with_reducible refine (alive8_any _).mono ?_); rintro e wA ⟨rfl, hbA⟩))
        go_ret
        exact ⟨rfl, (hB6 _).trans (hbA.mono (hB6 _).size)⟩
      · have f8 : (a3 < P) = False := eq_false (by omega)
        go_wp2
        refine region_tail 17 (by kernel_rfl) (by kernel_rfl) (fun K hK => ?_)
        simp only [List.take_succ_cons, List.take_zero, List.drop_succ_cons, List.drop_zero] at hK ⊢
        iterate 17 still_step
        refine wpStill_nil ?_
        refine hK _ ?_
        clear hK K
        go_wp2_with ((go_at_call 17; (with_reducible refine (alive8_any _).mono ?_); rintro e wA ⟨rfl, hbA⟩))
        go_ret
        rename_i vv hvv
        cases hvv
        exact ⟨rfl, (hB6 _).trans (hbA.mono (hB6 _).size)⟩
    · skip
      have f1 : (n00 < 24) = False := eq_false (by omega)
      have e1 : (n00 - 1 == n00 + 1) = false := beq_eq_false_iff_ne.2 (by omega)
      have e1' : (n00 - 1 = n00 + 1) = False := eq_false (by omega)
      go_quiet (fail)
      go_wp2
      go_quiet (fail)
      go_upto_region 15 with fail
      have hB6 := fun m => below_drewN hB5 m
      rcases HX.out with ⟨y1, rfl, rfl⟩ | ⟨y1, y2, rfl, rfl, y3, y4, y5⟩
      · have f8 : (a3 < P) = True := eq_true y1
        go_wp2_with ((go_at_call 17; (with_reducible refine (alive8_any _).mono ?_); rintro e wA ⟨rfl, hbA⟩))
        go_ret
        exact ⟨rfl, (hB6 _).trans (hbA.mono (hB6 _).size)⟩
      · have f8 : (a3 < P) = False := eq_false (by omega)
        go_wp2
        refine region_tail 17 (by kernel_rfl) (by kernel_rfl) (fun K hK => ?_)
        simp only [List.take_succ_cons, List.take_zero, List.drop_succ_cons, List.drop_zero] at hK ⊢
        iterate 17 still_step
        refine wpStill_nil ?_
        refine hK _ ?_
        clear hK K
        go_wp2_with ((go_at_call 17; (with_reducible refine (alive8_any _).mono ?_); rintro e wA ⟨rfl, hbA⟩))
        go_ret
        rename_i vv hvv
        cases hvv
        exact ⟨rfl, (hB6 _).trans (hbA.mono (hB6 _).size)⟩
  · have f1 : (n00 < 24) = True := eq_true g2
    have f3 : (P5 < S) = True := eq_true g3
    by_cases c0 : 0 < n00
    · skip
      have f0 : (0 < n00) = True := eq_true (by omega)
      have f2 : (S < P4) = False := eq_false (by omega)
      have e1 : (n00 + 1 == n00 - 1) = false := beq_eq_false_iff_ne.2 (by omega)
      have e1' : (n00 + 1 = n00 - 1) = False := eq_false (by omega)
      go_quiet (fail)
      go_wp2
      go_quiet (fail)
      go_upto_region 15 with fail
      have hB6 := fun m => below_drewN hB5 m
      rcases HX.out with ⟨y1, rfl, rfl⟩ | ⟨y1, y2, rfl, rfl, y3, y4, y5⟩
      · have f8 : (a3 < P) = True := eq_true y1
        go_wp2_with ((go_at_call 17; (with_reducible refine (alive8_any _).mono ?_); rintro e wA ⟨rfl, hbA⟩))
        go_ret
        exact ⟨rfl, (hB6 _).trans (hbA.mono (hB6 _).size)⟩
      · have f8 : (a3 < P) = False := eq_false (by omega)
        go_wp2
        refine region_tail 17 (by kernel_rfl) (by kernel_rfl) (fun K hK => ?_)
        simp only [List.take_succ_cons, List.take_zero, List.drop_succ_cons, List.drop_zero] at hK ⊢
        iterate 17 still_step
        refine wpStill_nil ?_
        refine hK _ ?_
        clear hK K
        go_wp2_with ((go_at_call 17; (with_reducible refine (alive8_any _).mono ?_); rintro e wA ⟨rfl, hbA⟩))
        go_ret
        rename_i vv hvv
        cases hvv
        exact ⟨rfl, (hB6 _).trans (hbA.mono (hB6 _).size)⟩
    · skip
      have f0 : (0 < n00) = False := eq_false (by omega)
      have e1 : (n00 + 1 == n00 - 1) = false := beq_eq_false_iff_ne.2 (by omega)
      have e1' : (n00 + 1 = n00 - 1) = False := eq_false (by omega)
      go_quiet (fail)
      go_wp2
      go_quiet (fail)
      go_upto_region 15 with fail
      have hB6 := fun m => below_drewN hB5 m
      rcases HX.out with ⟨y1, rfl, rfl⟩ | ⟨y1, y2, rfl, rfl, y3, y4, y5⟩
      · have f8 : (a3 < P) = True := eq_true y1
        go_wp2_with ((go_at_call 17; (with_reducible refine (alive8_any _).mono ?_); rintro e wA ⟨rfl, hbA⟩))
        go_ret
        exact ⟨rfl, (hB6 _).trans (hbA.mono (hB6 _).size)⟩
      · have f8 : (a3 < P) = False := eq_false (by omega)
        go_wp2
        refine region_tail 17 (by kernel_rfl) (by kernel_rfl) (fun K hK => ?_)
        simp only [List.take_succ_cons, List.take_zero, List.drop_succ_cons, List.drop_zero] at hK ⊢
        iterate 17 still_step
        refine wpStill_nil ?_
        refine hK _ ?_
        clear hK K
        go_wp2_with ((go_at_call 17; (with_reducible refine (alive8_any _).mono ?_); rintro e wA ⟨rfl, hbA⟩))
        go_ret
        rename_i vv hvv
        cases hvv
        exact ⟨rfl, (hB6 _).trans (hbA.mono (hB6 _).size)⟩
  · obtain rfl := hkk.symm
    by_cases c0 : 0 < n00
    · have f0 : (0 < n00) = True := eq_true c0
      have f2 : (S < P4) = False := eq_false (by omega)
      by_cases c24 : n00 < 24
      · skip
        have f1 : (n00 < 24) = True := eq_true (by omega)
        have f3 : (P5 < S) = False := eq_false (by omega)
        have e1 : (n00 == n00 - 1) = false := beq_eq_false_iff_ne.2 (by omega)
        have e1' : (n00 = n00 - 1) = False := eq_false (by omega)
        have e2 : (n00 == n00 + 1) = false := beq_eq_false_iff_ne.2 (by omega)
        have e2' : (n00 = n00 + 1) = False := eq_false (by omega)
        go_quiet (fail)
        go_wp2
        go_quiet (fail)
        go_upto_region 15 with fail
        have hB6 := fun m => below_drewN hB5 m
        rcases HX.out with ⟨y1, rfl, rfl⟩ | ⟨y1, y2, rfl, rfl, y3, y4, y5⟩
        · have f8 : (a3 < P) = True := eq_true y1
          go_wp2_with ((go_at_call 17; (with_reducible refine (alive8_any _).mono ?_); rintro e wA ⟨rfl, hbA⟩))
          go_ret
          exact ⟨rfl, (hB6 _).trans (hbA.mono (hB6 _).size)⟩
        · have f8 : (a3 < P) = False := eq_false (by omega)
          go_wp2
          refine region_tail 17 (by kernel_rfl) (by kernel_rfl) (fun K hK => ?_)
          simp only [List.take_succ_cons, List.take_zero, List.drop_succ_cons, List.drop_zero] at hK ⊢
          iterate 17 still_step
          refine wpStill_nil ?_
          refine hK _ ?_
          clear hK K
          go_wp2_with ((go_at_call 17; (with_reducible refine (alive8_any _).mono ?_); rintro e wA ⟨rfl, hbA⟩))
          go_ret
          rename_i vv hvv
          cases hvv
          exact ⟨rfl, (hB6 _).trans (hbA.mono (hB6 _).size)⟩
      · skip
        have f1 : (n00 < 24) = False := eq_false (by omega)
        have e1 : (n00 == n00 - 1) = false := beq_eq_false_iff_ne.2 (by omega)
        have e1' : (n00 = n00 - 1) = False := eq_false (by omega)
        have e2 : (n00 == n00 + 1) = false := beq_eq_false_iff_ne.2 (by omega)
        have e2' : (n00 = n00 + 1) = False := eq_false (by omega)
        go_quiet (fail)
        go_wp2
        go_quiet (fail)
        go_upto_region 15 with fail
        have hB6 := fun m => below_drewN hB5 m
        rcases HX.out with ⟨y1, rfl, rfl⟩ | ⟨y1, y2, rfl, rfl, y3, y4, y5⟩
        · have f8 : (a3 < P) = True := eq_true y1
          go_wp2_with ((go_at_call 17; (with_reducible refine (alive8_any _).mono ?_); rintro e wA ⟨rfl, hbA⟩))
          go_ret
          exact ⟨rfl, (hB6 _).trans (hbA.mono (hB6 _).size)⟩
        · have f8 : (a3 < P) = False := eq_false (by omega)
          go_wp2
          refine region_tail 17 (by kernel_rfl) (by kernel_rfl) (fun K hK => ?_)
          simp only [List.take_succ_cons, List.take_zero, List.drop_succ_cons, List.drop_zero] at hK ⊢
          iterate 17 still_step
          refine wpStill_nil ?_
          refine hK _ ?_
          clear hK K
          go_wp2_with ((go_at_call 17; (with_reducible refine (alive8_any _).mono ?_); rintro e wA ⟨rfl, hbA⟩))
          go_ret
          rename_i vv hvv
          cases hvv
          exact ⟨rfl, (hB6 _).trans (hbA.mono (hB6 _).size)⟩
    · have f0 : (0 < n00) = False := eq_false c0
      have f1 : (n00 < 24) = True := eq_true (by omega)
      have f3 : (P5 < S) = False := eq_false (by omega)
      have e1 : (n00 == n00 - 1) = false := beq_eq_false_iff_ne.2 (by omega)
      have e1' : (n00 = n00 - 1) = False := eq_false (by omega)
      have e2 : (n00 == n00 + 1) = false := beq_eq_false_iff_ne.2 (by omega)
      have e2' : (n00 = n00 + 1) = False := eq_false (by omega)
      go_quiet (fail)
      go_wp2
      go_quiet (fail)
      go_upto_region 15 with fail
      have hB6 := fun m => below_drewN hB5 m
      rcases HX.out with ⟨y1, rfl, rfl⟩ | ⟨y1, y2, rfl, rfl, y3, y4, y5⟩
      · have f8 : (a3 < P) = True := eq_true y1
        go_wp2_with ((go_at_call 17; (with_reducible refine (alive8_any _).mono ?_); rintro e wA ⟨rfl, hbA⟩))
        go_ret
        exact ⟨rfl, (hB6 _).trans (hbA.mono (hB6 _).size)⟩
      · have f8 : (a3 < P) = False := eq_false (by omega)
        go_wp2
        refine region_tail 17 (by kernel_rfl) (by kernel_rfl) (fun K hK => ?_)
        simp only [List.take_succ_cons, List.take_zero, List.drop_succ_cons, List.drop_zero] at hK ⊢
        iterate 17 still_step
        refine wpStill_nil ?_
        refine hK _ ?_
        clear hK K
        go_wp2_with ((go_at_call 17; (with_reducible refine (alive8_any _).mono ?_); rintro e wA ⟨rfl, hbA⟩))
        go_ret
        rename_i vv hvv
        cases hvv
        exact ⟨rfl, (hB6 _).trans (hbA.mono (hB6 _).size)⟩
end Go.Proofs.Ytbhoodhcipegbaa.Wk

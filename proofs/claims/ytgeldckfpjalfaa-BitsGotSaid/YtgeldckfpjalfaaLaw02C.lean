/- The law BitsGot. -/
import Derived.Test.YtgeldckfpjalfaaLaw02
namespace Go.Proofs.Ytgeldckfpjalfaa.Wk
open Go.RowKit Go.Proofs.Ytgeldckfpjalfaa.Kit Go.Proofs.Ytgeldckfpjalfaa.M01 Go.Proofs.Ytgeldckfpjalfaa.M02 Go.Proofs.Ytgeldckfpjalfaa.Bt Go.Proofs.Ytgeldckfpjalfaa.R02
set_option linter.unusedVariables false

set_option maxHeartbeats 8000000 in
theorem bitsGot_walk (a00 : Option Addr) (l00 c00 : Nat) (x00 : List Int) (n01 : Int) (a1 : Int) (a2 : Int) (a3 : Int) (a4 : Int) (w : World) (r00 : RowIn .u8 w a00 l00 c00 x00) (b01 : -9223372036854775808 ≤ n01 ∧ n01 ≤ 9223372036854775807) (b1 : 0 ≤ a1 ∧ a1 ≤ 18446744073709551615) (b2 : -9223372036854775808 ≤ a2 ∧ a2 ≤ 9223372036854775807) (b3 : -9223372036854775808 ≤ a3 ∧ a3 ≤ 9223372036854775807) (b4 : -9223372036854775808 ≤ a4 ∧ a4 ≤ 9223372036854775807) :
    Calls Try.prog 4 #[.agg #[.slice a00 l00 c00, .int .i64 n01], .int .u64 a1, .int .i64 a2, .int .i64 a3, .int .i64 a4] w fun e w' => e = .returned (.bool true) ∧ Below w.heap.size w w' := by
  have hC := fun w' (r : RowIn .u8 w' a00 l00 c00 x00) => rcheck_any a00 l00 c00 x00 n01 w' r b01
  unfold bv at hC
  by_cases hok : okB x00 n01 = true
  · have e1 : chkE x00 n01 = 0 := by simp [chkE, hok]
    simp only [e1] at hC
    clear e1
    obtain ⟨hn0, hn1, hxl, hval⟩ := okB_iff.1 hok
    have hby := byte_of r00.rd
    have hv0 := val_nonneg hby
    by_cases t0 : 1500 < n01
    · have f0 : (1500 < n01) = True := eq_true t0
      go_enter Try.func4, Try.ntmps4
      go_wp2_with (first | ((with_reducible refine (hC _ (r00.same (below1 w _))).mono ?_); rintro e w1 ⟨rfl, hb1⟩; rw [size1] at hb1; have hB1 := (below1 w _).trans (hb1.mono (by omega)); have z1 := hb1.size; rw [size1] at z1; have Xb_1 := (Box2.of (blk1 w _)).below hb1 (by omega); have cb0_1 := Xb_1.c0; have cb1_1 := Xb_1.c1; have lb_1 : w.heap.size < w1.heap.size := (by omega)) | (go_at_call 19; refine (alive_any _).mono ?_; rintro e wA ⟨rfl, hbA⟩))
      go_ret
      exact ⟨rfl, hB1.trans (hbA.mono hB1.size)⟩
    have f0 : (1500 < n01) = False := eq_false t0
    by_cases t1 : a2 < 0
    · have f1 : (a2 < 0) = True := eq_true t1
      go_enter Try.func4, Try.ntmps4
      go_wp2_with (first | ((with_reducible refine (hC _ (r00.same (below1 w _))).mono ?_); rintro e w1 ⟨rfl, hb1⟩; rw [size1] at hb1; have hB1 := (below1 w _).trans (hb1.mono (by omega)); have z1 := hb1.size; rw [size1] at z1; have Xb_1 := (Box2.of (blk1 w _)).below hb1 (by omega); have cb0_1 := Xb_1.c0; have cb1_1 := Xb_1.c1; have lb_1 : w.heap.size < w1.heap.size := (by omega)) | (go_at_call 19; refine (alive_any _).mono ?_; rintro e wA ⟨rfl, hbA⟩))
      go_ret
      exact ⟨rfl, hB1.trans (hbA.mono hB1.size)⟩
    have f1 : (a2 < 0) = False := eq_false t1
    by_cases t2 : 64 < a2
    · have f2 : (64 < a2) = True := eq_true t2
      go_enter Try.func4, Try.ntmps4
      go_wp2_with (first | ((with_reducible refine (hC _ (r00.same (below1 w _))).mono ?_); rintro e w1 ⟨rfl, hb1⟩; rw [size1] at hb1; have hB1 := (below1 w _).trans (hb1.mono (by omega)); have z1 := hb1.size; rw [size1] at z1; have Xb_1 := (Box2.of (blk1 w _)).below hb1 (by omega); have cb0_1 := Xb_1.c0; have cb1_1 := Xb_1.c1; have lb_1 : w.heap.size < w1.heap.size := (by omega)) | (go_at_call 19; refine (alive_any _).mono ?_; rintro e wA ⟨rfl, hbA⟩))
      go_ret
      exact ⟨rfl, hB1.trans (hbA.mono hB1.size)⟩
    have f2 : (64 < a2) = False := eq_false t2
    have hmin : min a2 64 = a2 := by omega
    have hcut1 := fun w' => cut_low a1 a2 w' b1.1 (by omega) (by omega) (by omega)
    rw [hmin] at hcut1
    obtain ⟨V, hV⟩ : ∃ V, val x00 = V := ⟨_, rfl⟩
    obtain ⟨y, hy⟩ : ∃ y, a1 % p2 a2 = y := ⟨_, rfl⟩
    have hyb := emod_bd a1 a2
    rw [hy] at hyb
    rw [hV] at hval hv0
    simp only [hy] at hcut1
    have hy64 := p2_le64 (show a2 ≤ 64 by omega)
    have hP := fun w' (r : RowIn .u8 w' a00 l00 c00 x00) => put_any a00 l00 c00 x00 n01 y a2 w' r b01 hyb.1 (by omega) b2
    have g1 : putE x00 n01 y a2 = 0 := by
      have h1 : ¬ p2 a2 ≤ y := by omega
      have h2 : ¬ 330000 < n01 + a2 := by omega
      simp [putE, hok, t1, t2, h1, h2]
    have hT0 : 0 ≤ V + y * p2 n01 := by have := Int.mul_nonneg hyb.1 (show 0 ≤ p2 n01 by have := p2_pos n01; omega); omega
    have hT1 := join_lt hn0 (show 0 ≤ a2 by omega) hval hyb.2
    have g2 : putL x00 n01 y a2 = bl (n01 + a2) (V + y * p2 n01) := by rw [putL, if_pos g1, hV]
    have g3 : putN x00 n01 y a2 = n01 + a2 := by rw [putN, if_pos g1]
    have hokX : okB (bl (n01 + a2) (V + y * p2 n01)) (n01 + a2) = true := ok_bl (by omega) (by omega) hT0 hT1
    have hvX : val (bl (n01 + a2) (V + y * p2 n01)) = V + y * p2 n01 := val_bl (by omega) hT0 hT1
    obtain ⟨X, hX⟩ : ∃ X, bl (n01 + a2) (V + y * p2 n01) = X := ⟨_, rfl⟩
    obtain ⟨lx, hlx⟩ : ∃ lx, X.length = lx := ⟨_, rfl⟩
    rw [hX] at hokX hvX g2
    simp only [g1, g2, g3, hlx] at hP
    have g4 : getE X (n01 + a2) n01 a2 = 0 := by
      have h1 : ¬ n01 < 0 := by omega
      simp [getE, hokX, t1, t2, h1]; omega
    have g5 : getN X (n01 + a2) n01 a2 = y := by rw [getN, if_pos g4, hvX, high_bits hv0 hval hyb.1 hyb.2]
    have hG := fun a q w' (r : RowIn .u8 w' a lx q X) => get_any a lx q X (n01 + a2) n01 a2 w' r (isInt_small (by omega) (by omega)) b01 b2
    simp only [g4, g5] at hG
    have g6 : chkE X (n01 + a2) = 0 := by simp [chkE, hokX]
    have hQ := fun a q w' (r : RowIn .u8 w' a lx q X) => rcheck_any a lx q X (n01 + a2) w' r (isInt_small (by omega) (by omega))
    simp only [g6] at hQ
    unfold bv at hP hG hQ
    clear g1 g2 g3 g4 g5 g6 hT0 hT1 hX hlx hmin hy64
    by_cases t3 : a3 < 0
    · have f3 : (a3 < 0) = True := eq_true t3
      go_enter Try.func4, Try.ntmps4
      go_wp2_with (first | ((with_reducible refine (hC _ (r00.same (below1 w _))).mono ?_); rintro e w1 ⟨rfl, hb1⟩; rw [size1] at hb1; have hB1 := (below1 w _).trans (hb1.mono (by omega)); have z1 := hb1.size; rw [size1] at z1; have Xb_1 := (Box2.of (blk1 w _)).below hb1 (by omega); have cb0_1 := Xb_1.c0; have cb1_1 := Xb_1.c1; have lb_1 : w.heap.size < w1.heap.size := (by omega)) | (go_at_call 20; (with_reducible refine (hcut1 _).mono ?_); rintro e wz ⟨rfl, rfl⟩) | ((with_reducible refine (hP _ (r00.same (hB1))).mono ?_); rintro e w2 ⟨a2, q2, rfl, h2, hb2, -⟩; have hq2 := hb2; have z2 := hb2.size; have hB2 := hB1.trans (hq2.mono hB1.size); have Xb_2 := Xb_1.below hq2 (by omega); have Rx_2 := h2; have cb0_2 := Xb_2.c0; have cb1_2 := Xb_2.c1; have lb_2 : w.heap.size < w2.heap.size := (by omega); clear cb0_1 cb1_1 lb_1) | ((with_reducible refine (hG _ _ _ (Rx_2.same (below1 w2 _))).mono ?_); rintro e w3 ⟨rfl, hb3⟩; rw [size1] at hb3; have hq3 := (below1 w2 _).trans (hb3.mono (Nat.le_succ _)); have z3 := hb3.size; rw [size1] at z3; have hB3 := hB2.trans (hq3.mono hB2.size); have Xb_3 := Xb_2.below hq3 (by omega); have Xx_3 := (Box2.of (blk1 w2 _)).below hb3 (Nat.lt_succ_self _); have Rx_3 := Rx_2.same hq3; have cb0_3 := Xb_3.c0; have cb1_3 := Xb_3.c1; have lb_3 : w.heap.size < w3.heap.size := (by omega); have cx0_3 := Xx_3.c0; have cx1_3 := Xx_3.c1; have lx_3 : w2.heap.size < w3.heap.size := (by omega); clear cb0_2 cb1_2 lb_2) | ((with_reducible refine (hQ _ _ _ Rx_3).mono ?_); rintro e w4 ⟨rfl, hb4⟩; have hq4 := hb4; have z4 := hb4.size; have hB4 := hB3.trans (hq4.mono hB3.size); have Xb_4 := Xb_3.below hq4 (by omega); have Xx_4 := Xx_3.below hq4 (by omega); have Rx_4 := Rx_3.same hq4; have cb0_4 := Xb_4.c0; have cb1_4 := Xb_4.c1; have lb_4 : w.heap.size < w4.heap.size := (by omega); have cx0_4 := Xx_4.c0; have cx1_4 := Xx_4.c1; have lx_4 : w2.heap.size < w4.heap.size := (by omega); clear cb0_3 cb1_3 lb_3 cx0_3 cx1_3 lx_3) | (go_at_call 19; refine (alive_any _).mono ?_; rintro e wA ⟨rfl, hbA⟩))
      go_ret
      exact ⟨rfl, hB4.trans (hbA.mono hB4.size)⟩
    have f3 : (a3 < 0) = False := eq_false t3
    by_cases t4 : a4 < 0
    · have f4 : (a4 < 0) = True := eq_true t4
      go_enter Try.func4, Try.ntmps4
      go_wp2_with (first | ((with_reducible refine (hC _ (r00.same (below1 w _))).mono ?_); rintro e w1 ⟨rfl, hb1⟩; rw [size1] at hb1; have hB1 := (below1 w _).trans (hb1.mono (by omega)); have z1 := hb1.size; rw [size1] at z1; have Xb_1 := (Box2.of (blk1 w _)).below hb1 (by omega); have cb0_1 := Xb_1.c0; have cb1_1 := Xb_1.c1; have lb_1 : w.heap.size < w1.heap.size := (by omega)) | (go_at_call 20; (with_reducible refine (hcut1 _).mono ?_); rintro e wz ⟨rfl, rfl⟩) | ((with_reducible refine (hP _ (r00.same (hB1))).mono ?_); rintro e w2 ⟨a2, q2, rfl, h2, hb2, -⟩; have hq2 := hb2; have z2 := hb2.size; have hB2 := hB1.trans (hq2.mono hB1.size); have Xb_2 := Xb_1.below hq2 (by omega); have Rx_2 := h2; have cb0_2 := Xb_2.c0; have cb1_2 := Xb_2.c1; have lb_2 : w.heap.size < w2.heap.size := (by omega); clear cb0_1 cb1_1 lb_1) | ((with_reducible refine (hG _ _ _ (Rx_2.same (below1 w2 _))).mono ?_); rintro e w3 ⟨rfl, hb3⟩; rw [size1] at hb3; have hq3 := (below1 w2 _).trans (hb3.mono (Nat.le_succ _)); have z3 := hb3.size; rw [size1] at z3; have hB3 := hB2.trans (hq3.mono hB2.size); have Xb_3 := Xb_2.below hq3 (by omega); have Xx_3 := (Box2.of (blk1 w2 _)).below hb3 (Nat.lt_succ_self _); have Rx_3 := Rx_2.same hq3; have cb0_3 := Xb_3.c0; have cb1_3 := Xb_3.c1; have lb_3 : w.heap.size < w3.heap.size := (by omega); have cx0_3 := Xx_3.c0; have cx1_3 := Xx_3.c1; have lx_3 : w2.heap.size < w3.heap.size := (by omega); clear cb0_2 cb1_2 lb_2) | ((with_reducible refine (hQ _ _ _ Rx_3).mono ?_); rintro e w4 ⟨rfl, hb4⟩; have hq4 := hb4; have z4 := hb4.size; have hB4 := hB3.trans (hq4.mono hB3.size); have Xb_4 := Xb_3.below hq4 (by omega); have Xx_4 := Xx_3.below hq4 (by omega); have Rx_4 := Rx_3.same hq4; have cb0_4 := Xb_4.c0; have cb1_4 := Xb_4.c1; have lb_4 : w.heap.size < w4.heap.size := (by omega); have cx0_4 := Xx_4.c0; have cx1_4 := Xx_4.c1; have lx_4 : w2.heap.size < w4.heap.size := (by omega); clear cb0_3 cb1_3 lb_3 cx0_3 cx1_3 lx_3) | (go_at_call 19; refine (alive_any _).mono ?_; rintro e wA ⟨rfl, hbA⟩))
      go_ret
      exact ⟨rfl, hB4.trans (hbA.mono hB4.size)⟩
    have f4 : (a4 < 0) = False := eq_false t4
    by_cases t5 : 64 < a4
    · have f5 : (64 < a4) = True := eq_true t5
      go_enter Try.func4, Try.ntmps4
      go_wp2_with (first | ((with_reducible refine (hC _ (r00.same (below1 w _))).mono ?_); rintro e w1 ⟨rfl, hb1⟩; rw [size1] at hb1; have hB1 := (below1 w _).trans (hb1.mono (by omega)); have z1 := hb1.size; rw [size1] at z1; have Xb_1 := (Box2.of (blk1 w _)).below hb1 (by omega); have cb0_1 := Xb_1.c0; have cb1_1 := Xb_1.c1; have lb_1 : w.heap.size < w1.heap.size := (by omega)) | (go_at_call 20; (with_reducible refine (hcut1 _).mono ?_); rintro e wz ⟨rfl, rfl⟩) | ((with_reducible refine (hP _ (r00.same (hB1))).mono ?_); rintro e w2 ⟨a2, q2, rfl, h2, hb2, -⟩; have hq2 := hb2; have z2 := hb2.size; have hB2 := hB1.trans (hq2.mono hB1.size); have Xb_2 := Xb_1.below hq2 (by omega); have Rx_2 := h2; have cb0_2 := Xb_2.c0; have cb1_2 := Xb_2.c1; have lb_2 : w.heap.size < w2.heap.size := (by omega); clear cb0_1 cb1_1 lb_1) | ((with_reducible refine (hG _ _ _ (Rx_2.same (below1 w2 _))).mono ?_); rintro e w3 ⟨rfl, hb3⟩; rw [size1] at hb3; have hq3 := (below1 w2 _).trans (hb3.mono (Nat.le_succ _)); have z3 := hb3.size; rw [size1] at z3; have hB3 := hB2.trans (hq3.mono hB2.size); have Xb_3 := Xb_2.below hq3 (by omega); have Xx_3 := (Box2.of (blk1 w2 _)).below hb3 (Nat.lt_succ_self _); have Rx_3 := Rx_2.same hq3; have cb0_3 := Xb_3.c0; have cb1_3 := Xb_3.c1; have lb_3 : w.heap.size < w3.heap.size := (by omega); have cx0_3 := Xx_3.c0; have cx1_3 := Xx_3.c1; have lx_3 : w2.heap.size < w3.heap.size := (by omega); clear cb0_2 cb1_2 lb_2) | ((with_reducible refine (hQ _ _ _ Rx_3).mono ?_); rintro e w4 ⟨rfl, hb4⟩; have hq4 := hb4; have z4 := hb4.size; have hB4 := hB3.trans (hq4.mono hB3.size); have Xb_4 := Xb_3.below hq4 (by omega); have Xx_4 := Xx_3.below hq4 (by omega); have Rx_4 := Rx_3.same hq4; have cb0_4 := Xb_4.c0; have cb1_4 := Xb_4.c1; have lb_4 : w.heap.size < w4.heap.size := (by omega); have cx0_4 := Xx_4.c0; have cx1_4 := Xx_4.c1; have lx_4 : w2.heap.size < w4.heap.size := (by omega); clear cb0_3 cb1_3 lb_3 cx0_3 cx1_3 lx_3) | (go_at_call 19; refine (alive_any _).mono ?_; rintro e wA ⟨rfl, hbA⟩))
      go_ret
      exact ⟨rfl, hB4.trans (hbA.mono hB4.size)⟩
    have f5 : (64 < a4) = False := eq_false t5
    by_cases t6 : n01 - a4 < a3
    · have f6 : (n01 - a4 < a3) = True := eq_true t6
      go_enter Try.func4, Try.ntmps4
      go_wp2_with (first | ((with_reducible refine (hC _ (r00.same (below1 w _))).mono ?_); rintro e w1 ⟨rfl, hb1⟩; rw [size1] at hb1; have hB1 := (below1 w _).trans (hb1.mono (by omega)); have z1 := hb1.size; rw [size1] at z1; have Xb_1 := (Box2.of (blk1 w _)).below hb1 (by omega); have cb0_1 := Xb_1.c0; have cb1_1 := Xb_1.c1; have lb_1 : w.heap.size < w1.heap.size := (by omega)) | (go_at_call 20; (with_reducible refine (hcut1 _).mono ?_); rintro e wz ⟨rfl, rfl⟩) | ((with_reducible refine (hP _ (r00.same (hB1))).mono ?_); rintro e w2 ⟨a2, q2, rfl, h2, hb2, -⟩; have hq2 := hb2; have z2 := hb2.size; have hB2 := hB1.trans (hq2.mono hB1.size); have Xb_2 := Xb_1.below hq2 (by omega); have Rx_2 := h2; have cb0_2 := Xb_2.c0; have cb1_2 := Xb_2.c1; have lb_2 : w.heap.size < w2.heap.size := (by omega); clear cb0_1 cb1_1 lb_1) | ((with_reducible refine (hG _ _ _ (Rx_2.same (below1 w2 _))).mono ?_); rintro e w3 ⟨rfl, hb3⟩; rw [size1] at hb3; have hq3 := (below1 w2 _).trans (hb3.mono (Nat.le_succ _)); have z3 := hb3.size; rw [size1] at z3; have hB3 := hB2.trans (hq3.mono hB2.size); have Xb_3 := Xb_2.below hq3 (by omega); have Xx_3 := (Box2.of (blk1 w2 _)).below hb3 (Nat.lt_succ_self _); have Rx_3 := Rx_2.same hq3; have cb0_3 := Xb_3.c0; have cb1_3 := Xb_3.c1; have lb_3 : w.heap.size < w3.heap.size := (by omega); have cx0_3 := Xx_3.c0; have cx1_3 := Xx_3.c1; have lx_3 : w2.heap.size < w3.heap.size := (by omega); clear cb0_2 cb1_2 lb_2) | ((with_reducible refine (hQ _ _ _ Rx_3).mono ?_); rintro e w4 ⟨rfl, hb4⟩; have hq4 := hb4; have z4 := hb4.size; have hB4 := hB3.trans (hq4.mono hB3.size); have Xb_4 := Xb_3.below hq4 (by omega); have Xx_4 := Xx_3.below hq4 (by omega); have Rx_4 := Rx_3.same hq4; have cb0_4 := Xb_4.c0; have cb1_4 := Xb_4.c1; have lb_4 : w.heap.size < w4.heap.size := (by omega); have cx0_4 := Xx_4.c0; have cx1_4 := Xx_4.c1; have lx_4 : w2.heap.size < w4.heap.size := (by omega); clear cb0_3 cb1_3 lb_3 cx0_3 cx1_3 lx_3) | (go_at_call 19; refine (alive_any _).mono ?_; rintro e wA ⟨rfl, hbA⟩))
      go_ret
      exact ⟨rfl, hB4.trans (hbA.mono hB4.size)⟩
    have f6 : (n01 - a4 < a3) = False := eq_false t6
    have g1 : getE x00 n01 a3 a4 = 0 := by simp [getE, hok, t3, t4, t5]; omega
    have g2 : getE X (n01 + a2) a3 a4 = 0 := by simp [getE, hokX, t3, t4, t5]; omega
    have g3 : getN x00 n01 a3 a4 = V / p2 a3 % p2 a4 := by rw [getN, if_pos g1, hV]
    have g4 : getN X (n01 + a2) a3 a4 = V / p2 a3 % p2 a4 := by rw [getN, if_pos g2, hvX, low_bits (by omega) (by omega) (by omega)]
    obtain ⟨z, hz⟩ : ∃ z, V / p2 a3 % p2 a4 = z := ⟨_, rfl⟩
    have hzb := emod_bd (V / p2 a3) a4
    rw [hz] at hzb g3 g4
    have hz64 := p2_le64 (show a4 ≤ 64 by omega)
    have hcut2 := fun w' => cut_low z a4 w' hzb.1 (by omega) (by omega) (by omega)
    rw [show min a4 64 = a4 by omega, Int.emod_eq_of_lt hzb.1 hzb.2] at hcut2
    have hGb := fun w' (r : RowIn .u8 w' a00 l00 c00 x00) => get_any a00 l00 c00 x00 n01 a3 a4 w' r b01 b3 b4
    have hGx := fun a q w' (r : RowIn .u8 w' a lx q X) => get_any a lx q X (n01 + a2) a3 a4 w' r (isInt_small (by omega) (by omega)) b3 b4
    simp only [g1, g3] at hGb
    simp only [g2, g4] at hGx
    unfold bv at hGb hGx
    clear g1 g2 g3 g4 hz hzb hz64 hokX hvX hok
    go_enter Try.func4, Try.ntmps4
    go_wp2_with (first | ((with_reducible refine (hC _ (r00.same (below1 w _))).mono ?_); rintro e w1 ⟨rfl, hb1⟩; rw [size1] at hb1; have hB1 := (below1 w _).trans (hb1.mono (by omega)); have z1 := hb1.size; rw [size1] at z1; have Xb_1 := (Box2.of (blk1 w _)).below hb1 (by omega); have cb0_1 := Xb_1.c0; have cb1_1 := Xb_1.c1; have lb_1 : w.heap.size < w1.heap.size := (by omega)) | (go_at_call 20; (with_reducible refine (hcut1 _).mono ?_); rintro e wz ⟨rfl, rfl⟩) | ((with_reducible refine (hP _ (r00.same (hB1))).mono ?_); rintro e w2 ⟨a2, q2, rfl, h2, hb2, -⟩; have hq2 := hb2; have z2 := hb2.size; have hB2 := hB1.trans (hq2.mono hB1.size); have Xb_2 := Xb_1.below hq2 (by omega); have Rx_2 := h2; have cb0_2 := Xb_2.c0; have cb1_2 := Xb_2.c1; have lb_2 : w.heap.size < w2.heap.size := (by omega); clear cb0_1 cb1_1 lb_1) | ((with_reducible refine (hG _ _ _ (Rx_2.same (below1 w2 _))).mono ?_); rintro e w3 ⟨rfl, hb3⟩; rw [size1] at hb3; have hq3 := (below1 w2 _).trans (hb3.mono (Nat.le_succ _)); have z3 := hb3.size; rw [size1] at z3; have hB3 := hB2.trans (hq3.mono hB2.size); have Xb_3 := Xb_2.below hq3 (by omega); have Xx_3 := (Box2.of (blk1 w2 _)).below hb3 (Nat.lt_succ_self _); have Rx_3 := Rx_2.same hq3; have cb0_3 := Xb_3.c0; have cb1_3 := Xb_3.c1; have lb_3 : w.heap.size < w3.heap.size := (by omega); have cx0_3 := Xx_3.c0; have cx1_3 := Xx_3.c1; have lx_3 : w2.heap.size < w3.heap.size := (by omega); clear cb0_2 cb1_2 lb_2) | ((with_reducible refine (hQ _ _ _ Rx_3).mono ?_); rintro e w4 ⟨rfl, hb4⟩; have hq4 := hb4; have z4 := hb4.size; have hB4 := hB3.trans (hq4.mono hB3.size); have Xb_4 := Xb_3.below hq4 (by omega); have Xx_4 := Xx_3.below hq4 (by omega); have Rx_4 := Rx_3.same hq4; have cb0_4 := Xb_4.c0; have cb1_4 := Xb_4.c1; have lb_4 : w.heap.size < w4.heap.size := (by omega); have cx0_4 := Xx_4.c0; have cx1_4 := Xx_4.c1; have lx_4 : w2.heap.size < w4.heap.size := (by omega); clear cb0_3 cb1_3 lb_3 cx0_3 cx1_3 lx_3) | ((with_reducible refine (hGb _ (r00.same (hB4))).mono ?_); rintro e w5 ⟨rfl, hb5⟩; have hq5 := hb5; have z5 := hb5.size; have hB5 := hB4.trans (hq5.mono hB4.size); have Xb_5 := Xb_4.below hq5 (by omega); have Xx_5 := Xx_4.below hq5 (by omega); have Rx_5 := Rx_4.same hq5; have cb0_5 := Xb_5.c0; have cb1_5 := Xb_5.c1; have lb_5 : w.heap.size < w5.heap.size := (by omega); have cx0_5 := Xx_5.c0; have cx1_5 := Xx_5.c1; have lx_5 : w2.heap.size < w5.heap.size := (by omega); clear cb0_4 cb1_4 lb_4 cx0_4 cx1_4 lx_4) | ((with_reducible refine (hGx _ _ _ Rx_5).mono ?_); rintro e w6 ⟨rfl, hb6⟩; have hq6 := hb6; have z6 := hb6.size; have hB6 := hB5.trans (hq6.mono hB5.size); have Xb_6 := Xb_5.below hq6 (by omega); have Xx_6 := Xx_5.below hq6 (by omega); have Rx_6 := Rx_5.same hq6; have cb0_6 := Xb_6.c0; have cb1_6 := Xb_6.c1; have lb_6 : w.heap.size < w6.heap.size := (by omega); have cx0_6 := Xx_6.c0; have cx1_6 := Xx_6.c1; have lx_6 : w2.heap.size < w6.heap.size := (by omega); clear cb0_5 cb1_5 lb_5 cx0_5 cx1_5 lx_5) | (go_at_call 20; (with_reducible refine (hcut2 _).mono ?_); rintro e wz ⟨rfl, rfl⟩) | (go_at_call 19; refine (alive_any _).mono ?_; rintro e wA ⟨rfl, hbA⟩))
    go_ret
    exact ⟨rfl, hB6.trans (hbA.mono hB6.size)⟩
  · have e1 : chkE x00 n01 = 8 := by simp [chkE, hok]
    simp only [e1] at hC
    go_enter Try.func4, Try.ntmps4
    go_wp2_with (first | ((with_reducible refine (hC _ (r00.same (below1 w _))).mono ?_); rintro e w1 ⟨rfl, hb1⟩; rw [size1] at hb1; have hB1 := (below1 w _).trans (hb1.mono (by omega)); have z1 := hb1.size; rw [size1] at z1; have Xb_1 := (Box2.of (blk1 w _)).below hb1 (by omega); have cb0_1 := Xb_1.c0; have cb1_1 := Xb_1.c1; have lb_1 : w.heap.size < w1.heap.size := (by omega)) | (go_at_call 19; refine (alive_any _).mono ?_; rintro e wA ⟨rfl, hbA⟩))
    go_ret
    exact ⟨rfl, hB1.trans (hbA.mono hB1.size)⟩
end Go.Proofs.Ytgeldckfpjalfaa.Wk

/- The law UnaryOrder. -/
import Derived.Test.YtdblcfajejhbaaaLaw06
namespace Go.Proofs.Ytdblcfajejhbaaa.Wk
open Go.Proofs Go.RowKit Go.Proofs.Ytdblcfajejhbaaa.Kit Go.Proofs.Ytdblcfajejhbaaa.M01 Go.Proofs.Ytdblcfajejhbaaa.M02 Go.Proofs.Ytdblcfajejhbaaa.M06 Go.Proofs.Ytdblcfajejhbaaa.Bt Go.Proofs.Ytdblcfajejhbaaa.R02 Go.Proofs.Ytdblcfajejhbaaa.Un Go.Proofs.Ytdblcfajejhbaaa.R06
set_option linter.unusedVariables false

set_option maxRecDepth 100000 in
set_option maxHeartbeats 8000000 in
theorem unaryOrder_walk (a0 : Int) (a1 : Int) (w : World) (b0 : -9223372036854775808 ≤ a0 ∧ a0 ≤ 9223372036854775807) (b1 : -9223372036854775808 ≤ a1 ∧ a1 ≤ 9223372036854775807) :
    Calls Try.prog 7 #[.int .i64 a0, .int .i64 a1] w fun e w' => e = .returned (.bool true) ∧ Below w.heap.size w w' := by
  by_cases t0 : a0 < 0
  · have f0 : (a0 < 0) = True := eq_true t0
    go_enter Try.func7, Try.ntmps7
    go_wp2_with ((go_at_call 15; (with_reducible refine (alive_any _).mono ?_); rintro e wA ⟨rfl, hbA⟩))
    go_ret
    exact ⟨rfl, hbA⟩
  have f0 : (a0 < 0) = False := eq_false t0
  by_cases t1 : 48 < a0
  · have f1 : (48 < a0) = True := eq_true t1
    go_enter Try.func7, Try.ntmps7
    go_wp2_with ((go_at_call 15; (with_reducible refine (alive_any _).mono ?_); rintro e wA ⟨rfl, hbA⟩))
    go_ret
    exact ⟨rfl, hbA⟩
  have f1 : (48 < a0) = False := eq_false t1
  by_cases t2 : a1 < 0
  · have f2 : (a1 < 0) = True := eq_true t2
    go_enter Try.func7, Try.ntmps7
    go_wp2_with ((go_at_call 15; (with_reducible refine (alive_any _).mono ?_); rintro e wA ⟨rfl, hbA⟩))
    go_ret
    exact ⟨rfl, hbA⟩
  have f2 : (a1 < 0) = False := eq_false t2
  by_cases t3 : 48 < a1
  · have f3 : (48 < a1) = True := eq_true t3
    go_enter Try.func7, Try.ntmps7
    go_wp2_with ((go_at_call 15; (with_reducible refine (alive_any _).mono ?_); rintro e wA ⟨rfl, hbA⟩))
    go_ret
    exact ⟨rfl, hbA⟩
  have f3 : (48 < a1) = False := eq_false t3
  by_cases t4 : a0 = a1
  · have f4 : (a0 = a1) = True := eq_true t4
    go_enter Try.func7, Try.ntmps7
    go_wp2_with ((go_at_call 15; (with_reducible refine (alive_any _).mono ?_); rintro e wA ⟨rfl, hbA⟩))
    go_ret
    exact ⟨rfl, hbA⟩
  have f4 : (a0 = a1) = False := eq_false t4
  have hL1 := fun w' => length_any a0 w' b0
  have hL2 := fun w' => length_any a1 w' b1
  have gE1 : lenE a0 = 0 := by rw [lenE, if_neg (by omega)]
  have gE2 : lenE a1 = 0 := by rw [lenE, if_neg (by omega)]
  have gN1 : lenN a0 = runS a0 := by rw [lenN, if_neg (by omega)]
  have gN2 : lenN a1 = runS a1 := by rw [lenN, if_neg (by omega)]
  simp only [gE1, gN1] at hL1
  simp only [gE2, gN2] at hL2
  obtain ⟨rE1, rL1, rN1, rK1, rV1⟩ := wr_nil (m := a0) (by omega) (by omega)
  have hW1 := fun w' => write_any none 0 0 [] 0 a0 w' RowIn.nil (isInt_small (by decide) (by decide)) b0
  simp only [rE1, rL1, rN1] at hW1
  obtain ⟨rE2, rL2, rN2, rK2, rV2⟩ := wr_nil (m := a1) (by omega) (by omega)
  have hW2 := fun w' => write_any none 0 0 [] 0 a1 w' RowIn.nil (isInt_small (by decide) (by decide)) b1
  simp only [rE2, rL2, rN2] at hW2
  have s1 := runS_bd (n := a0) (by omega) (by omega)
  have s2 := runS_bd (n := a1) (by omega) (by omega)
  have hdiff := runs_apart (n := a0) (m := a1) (by omega) (by omega) (by omega) (by omega) t4
  have hlong : a0 < a1 → runS a0 < runS a1 ∨ (runS a0 = runS a1 ∧ a0 = 47 ∧ a1 = 48) := by
    intro h; unfold runS; split <;> split <;> omega
  obtain ⟨S, hMin⟩ : ∃ S, min (runS a0) (runS a1) = S := ⟨_, rfl⟩
  rw [hMin] at hdiff
  have cE1 : cuE (bl (runS a0) (p2 a0 - 1)) (runS a0) 0 S = 0 := by rw [cuE, if_pos rK1, if_neg (by omega)]
  have cE2 : cuE (bl (runS a1) (p2 a1 - 1)) (runS a1) 0 S = 0 := by rw [cuE, if_pos rK2, if_neg (by omega)]
  have cL1 : cuL (bl (runS a0) (p2 a0 - 1)) (runS a0) 0 S = bl S ((p2 a0 - 1) % p2 S) := by rw [cuL, if_pos cE1, rV1, p2_zero, Int.ediv_one, Int.sub_zero]
  have cL2 : cuL (bl (runS a1) (p2 a1 - 1)) (runS a1) 0 S = bl S ((p2 a1 - 1) % p2 S) := by rw [cuL, if_pos cE2, rV2, p2_zero, Int.ediv_one, Int.sub_zero]
  have cN1 : cuN (bl (runS a0) (p2 a0 - 1)) (runS a0) 0 S = S := by rw [cuN, if_pos cE1, Int.sub_zero]
  have cN2 : cuN (bl (runS a1) (p2 a1 - 1)) (runS a1) 0 S = S := by rw [cuN, if_pos cE2, Int.sub_zero]
  have hne := bl_apart (S := S) (by omega) (emod_bd (p2 a0 - 1) S) (emod_bd (p2 a1 - 1) S) hdiff
  obtain ⟨X, hX⟩ : ∃ X, bl (runS a0) (p2 a0 - 1) = X := ⟨_, rfl⟩
  obtain ⟨Y, hY⟩ : ∃ X, bl (runS a1) (p2 a1 - 1) = X := ⟨_, rfl⟩
  obtain ⟨P, hP⟩ : ∃ X, bl S ((p2 a0 - 1) % p2 S) = X := ⟨_, rfl⟩
  obtain ⟨Q, hQ⟩ : ∃ X, bl S ((p2 a1 - 1) % p2 S) = X := ⟨_, rfl⟩
  have eP : P.length = sz S := by rw [← hP, bl_length]
  have eQ : Q.length = sz S := by rw [← hQ, bl_length]
  rw [hX] at cE1 cL1 cN1
  rw [hY] at cE2 cL2 cN2
  rw [hP] at cL1 hne
  rw [hQ] at cL2 hne
  simp only [hX] at hW1
  simp only [hY] at hW2
  obtain ⟨N1, hN1⟩ : ∃ X, runS a0 = X := ⟨_, rfl⟩
  obtain ⟨N2, hN2⟩ : ∃ X, runS a1 = X := ⟨_, rfl⟩
  simp only [hN1] at hL1 hW1 cE1 cL1 cN1 s1 hMin hlong
  simp only [hN2] at hL2 hW2 cE2 cL2 cN2 s2 hMin hlong
  obtain ⟨lX, elX⟩ : ∃ l, X.length = l := ⟨_, rfl⟩
  obtain ⟨lY, elY⟩ : ∃ l, Y.length = l := ⟨_, rfl⟩
  obtain ⟨lS, elS⟩ : ∃ l, sz S = l := ⟨_, rfl⟩
  rw [elS] at eP eQ
  simp only [elX] at hW1
  simp only [elY] at hW2
  have hK1 := fun a q w' (r : RowIn .u8 w' a lX q X) => cut_any a lX q X N1 0 S w' r (isInt_small (by omega) (by omega)) (isInt_small (by omega) (by omega)) (isInt_small (by omega) (by omega))
  have hK2 := fun a q w' (r : RowIn .u8 w' a lY q Y) => cut_any a lY q Y N2 0 S w' r (isInt_small (by omega) (by omega)) (isInt_small (by omega) (by omega)) (isInt_small (by omega) (by omega))
  simp only [cE1, cL1, cN1, eP] at hK1
  simp only [cE2, cL2, cN2, eQ] at hK2
  have hS := fun a q a' q' w' (r : RowIn .u8 w' a lS q P) (r' : RowIn .u8 w' a' lS q' Q) => same_any a lS q P S a' lS q' Q S w' r r'
  have eS : sameB P S Q S = false := by simp [sameB, hne]
  simp only [eS] at hS
  clear rE1 rL1 rN1 rK1 rV1 rE2 rL2 rN2 rK2 rV2 gE1 gE2 gN1 gN2 cE1 cE2 cL1 cL2 cN1 cN2 hdiff hX hY hP hQ eP eQ hN1 hN2 elX elY elS eS hne
  unfold bv at hW1 hW2 hK1 hK2 hS
  rcases (show a1 < a0 ∨ a0 < a1 by omega) with g | g
  · have g1 : (a0 < a1) = False := eq_false (by omega)
    rcases (show N2 < N1 ∨ (¬ N2 < N1) by omega) with g2 | g2
    · obtain rfl : S = N2 := by omega
      have f5 : (S < N1) = True := eq_true g2
      clear hlong g hMin g2
      go_enter Try.func7, Try.ntmps7
      go_wp2_with (first | (go_at_call 10; (with_reducible refine (hL1 _).mono ?_); rintro e wz ⟨rfl, rfl⟩) | (go_at_call 10; (with_reducible refine (hL2 _).mono ?_); rintro e wz ⟨rfl, rfl⟩) | ((with_reducible refine (hW1 _ ).mono ?_); rintro e w1 ⟨a1, q1, rfl, h1, hb1, -⟩; have hB1 := hb1; have z1 := hb1.size; have Rx_1 := h1) | ((with_reducible refine (hW2 _ ).mono ?_); rintro e w2 ⟨a2, q2, rfl, h2, hb2, -⟩; rw [size1] at hb2; have hq2 := (below1 w1 _).trans (hb2.mono (Nat.le_succ _)); have z2 := hb2.size; rw [size1] at z2; have hB2 := hB1.trans (hq2.mono hB1.size); have Xx_2 := (Box2.of (blk1 w1 _)).below hb2 (Nat.lt_succ_self _); have Rx_2 := Rx_1.same hq2; have Ry_2 := h2; have cx0_2 := Xx_2.c0; have cx1_2 := Xx_2.c1; have lx_2 : w1.heap.size < w2.heap.size := (by omega)) | ((with_reducible refine (hK1 _ _ _ (Rx_2.same (below1 w2 _))).mono ?_); rintro e w3 ⟨a3, q3, rfl, h3, hb3, -⟩; rw [size1] at hb3; have hq3 := (below1 w2 _).trans (hb3.mono (Nat.le_succ _)); have z3 := hb3.size; rw [size1] at z3; have hB3 := hB2.trans (hq3.mono hB2.size); have Xx_3 := Xx_2.below hq3 (by omega); have Xy_3 := (Box2.of (blk1 w2 _)).below hb3 (Nat.lt_succ_self _); have Rx_3 := Rx_2.same hq3; have Ry_3 := Ry_2.same hq3; have Rp_3 := h3; have cx0_3 := Xx_3.c0; have cx1_3 := Xx_3.c1; have lx_3 : w1.heap.size < w3.heap.size := (by omega); have cy0_3 := Xy_3.c0; have cy1_3 := Xy_3.c1; have ly_3 : w2.heap.size < w3.heap.size := (by omega); clear cx0_2 cx1_2 lx_2) | ((with_reducible refine (hK2 _ _ _ (Ry_3.same (below1 w3 _))).mono ?_); rintro e w4 ⟨a4, q4, rfl, h4, hb4, -⟩; rw [size1] at hb4; have hq4 := (below1 w3 _).trans (hb4.mono (Nat.le_succ _)); have z4 := hb4.size; rw [size1] at z4; have hB4 := hB3.trans (hq4.mono hB3.size); have Xx_4 := Xx_3.below hq4 (by omega); have Xy_4 := Xy_3.below hq4 (by omega); have Xp_4 := (Box2.of (blk1 w3 _)).below hb4 (Nat.lt_succ_self _); have Rx_4 := Rx_3.same hq4; have Ry_4 := Ry_3.same hq4; have Rp_4 := Rp_3.same hq4; have Rq_4 := h4; have cx0_4 := Xx_4.c0; have cx1_4 := Xx_4.c1; have lx_4 : w1.heap.size < w4.heap.size := (by omega); have cy0_4 := Xy_4.c0; have cy1_4 := Xy_4.c1; have ly_4 : w2.heap.size < w4.heap.size := (by omega); have cp0_4 := Xp_4.c0; have cp1_4 := Xp_4.c1; have lp_4 : w3.heap.size < w4.heap.size := (by omega); clear cx0_3 cx1_3 lx_3 cy0_3 cy1_3 ly_3) | ((with_reducible refine (hS _ _ _ _ _ (Rp_4.same (below1 w4 _)) (Rq_4.same (below1 w4 _))).mono ?_); rintro e w5 ⟨rfl, hb5⟩; rw [size1] at hb5; have hq5 := (below1 w4 _).trans (hb5.mono (Nat.le_succ _)); have z5 := hb5.size; rw [size1] at z5; have hB5 := hB4.trans (hq5.mono hB4.size); have Xx_5 := Xx_4.below hq5 (by omega); have Xy_5 := Xy_4.below hq5 (by omega); have Xp_5 := Xp_4.below hq5 (by omega); have Xq_5 := (Box2.of (blk1 w4 _)).below hb5 (Nat.lt_succ_self _); have Rx_5 := Rx_4.same hq5; have Ry_5 := Ry_4.same hq5; have Rp_5 := Rp_4.same hq5; have Rq_5 := Rq_4.same hq5; have cx0_5 := Xx_5.c0; have cx1_5 := Xx_5.c1; have lx_5 : w1.heap.size < w5.heap.size := (by omega); have cy0_5 := Xy_5.c0; have cy1_5 := Xy_5.c1; have ly_5 : w2.heap.size < w5.heap.size := (by omega); have cp0_5 := Xp_5.c0; have cp1_5 := Xp_5.c1; have lp_5 : w3.heap.size < w5.heap.size := (by omega); have cq0_5 := Xq_5.c0; have cq1_5 := Xq_5.c1; have lq_5 : w4.heap.size < w5.heap.size := (by omega); clear cx0_4 cx1_4 lx_4 cy0_4 cy1_4 ly_4 cp0_4 cp1_4 lp_4) | (go_at_call 15; (with_reducible refine (alive_any _).mono ?_); rintro e wA ⟨rfl, hbA⟩))
      go_ret
      exact ⟨rfl, hB5.trans (hbA.mono hB5.size)⟩
    · obtain rfl : S = N1 := by omega
      have f5 : (N2 < S) = False := eq_false g2
      clear hlong g hMin g2
      go_enter Try.func7, Try.ntmps7
      go_wp2_with (first | (go_at_call 10; (with_reducible refine (hL1 _).mono ?_); rintro e wz ⟨rfl, rfl⟩) | (go_at_call 10; (with_reducible refine (hL2 _).mono ?_); rintro e wz ⟨rfl, rfl⟩) | ((with_reducible refine (hW1 _ ).mono ?_); rintro e w1 ⟨a1, q1, rfl, h1, hb1, -⟩; have hB1 := hb1; have z1 := hb1.size; have Rx_1 := h1) | ((with_reducible refine (hW2 _ ).mono ?_); rintro e w2 ⟨a2, q2, rfl, h2, hb2, -⟩; rw [size1] at hb2; have hq2 := (below1 w1 _).trans (hb2.mono (Nat.le_succ _)); have z2 := hb2.size; rw [size1] at z2; have hB2 := hB1.trans (hq2.mono hB1.size); have Xx_2 := (Box2.of (blk1 w1 _)).below hb2 (Nat.lt_succ_self _); have Rx_2 := Rx_1.same hq2; have Ry_2 := h2; have cx0_2 := Xx_2.c0; have cx1_2 := Xx_2.c1; have lx_2 : w1.heap.size < w2.heap.size := (by omega)) | ((with_reducible refine (hK1 _ _ _ (Rx_2.same (below1 w2 _))).mono ?_); rintro e w3 ⟨a3, q3, rfl, h3, hb3, -⟩; rw [size1] at hb3; have hq3 := (below1 w2 _).trans (hb3.mono (Nat.le_succ _)); have z3 := hb3.size; rw [size1] at z3; have hB3 := hB2.trans (hq3.mono hB2.size); have Xx_3 := Xx_2.below hq3 (by omega); have Xy_3 := (Box2.of (blk1 w2 _)).below hb3 (Nat.lt_succ_self _); have Rx_3 := Rx_2.same hq3; have Ry_3 := Ry_2.same hq3; have Rp_3 := h3; have cx0_3 := Xx_3.c0; have cx1_3 := Xx_3.c1; have lx_3 : w1.heap.size < w3.heap.size := (by omega); have cy0_3 := Xy_3.c0; have cy1_3 := Xy_3.c1; have ly_3 : w2.heap.size < w3.heap.size := (by omega); clear cx0_2 cx1_2 lx_2) | ((with_reducible refine (hK2 _ _ _ (Ry_3.same (below1 w3 _))).mono ?_); rintro e w4 ⟨a4, q4, rfl, h4, hb4, -⟩; rw [size1] at hb4; have hq4 := (below1 w3 _).trans (hb4.mono (Nat.le_succ _)); have z4 := hb4.size; rw [size1] at z4; have hB4 := hB3.trans (hq4.mono hB3.size); have Xx_4 := Xx_3.below hq4 (by omega); have Xy_4 := Xy_3.below hq4 (by omega); have Xp_4 := (Box2.of (blk1 w3 _)).below hb4 (Nat.lt_succ_self _); have Rx_4 := Rx_3.same hq4; have Ry_4 := Ry_3.same hq4; have Rp_4 := Rp_3.same hq4; have Rq_4 := h4; have cx0_4 := Xx_4.c0; have cx1_4 := Xx_4.c1; have lx_4 : w1.heap.size < w4.heap.size := (by omega); have cy0_4 := Xy_4.c0; have cy1_4 := Xy_4.c1; have ly_4 : w2.heap.size < w4.heap.size := (by omega); have cp0_4 := Xp_4.c0; have cp1_4 := Xp_4.c1; have lp_4 : w3.heap.size < w4.heap.size := (by omega); clear cx0_3 cx1_3 lx_3 cy0_3 cy1_3 ly_3) | ((with_reducible refine (hS _ _ _ _ _ (Rp_4.same (below1 w4 _)) (Rq_4.same (below1 w4 _))).mono ?_); rintro e w5 ⟨rfl, hb5⟩; rw [size1] at hb5; have hq5 := (below1 w4 _).trans (hb5.mono (Nat.le_succ _)); have z5 := hb5.size; rw [size1] at z5; have hB5 := hB4.trans (hq5.mono hB4.size); have Xx_5 := Xx_4.below hq5 (by omega); have Xy_5 := Xy_4.below hq5 (by omega); have Xp_5 := Xp_4.below hq5 (by omega); have Xq_5 := (Box2.of (blk1 w4 _)).below hb5 (Nat.lt_succ_self _); have Rx_5 := Rx_4.same hq5; have Ry_5 := Ry_4.same hq5; have Rp_5 := Rp_4.same hq5; have Rq_5 := Rq_4.same hq5; have cx0_5 := Xx_5.c0; have cx1_5 := Xx_5.c1; have lx_5 : w1.heap.size < w5.heap.size := (by omega); have cy0_5 := Xy_5.c0; have cy1_5 := Xy_5.c1; have ly_5 : w2.heap.size < w5.heap.size := (by omega); have cp0_5 := Xp_5.c0; have cp1_5 := Xp_5.c1; have lp_5 : w3.heap.size < w5.heap.size := (by omega); have cq0_5 := Xq_5.c0; have cq1_5 := Xq_5.c1; have lq_5 : w4.heap.size < w5.heap.size := (by omega); clear cx0_4 cx1_4 lx_4 cy0_4 cy1_4 ly_4 cp0_4 cp1_4 lp_4) | (go_at_call 15; (with_reducible refine (alive_any _).mono ?_); rintro e wA ⟨rfl, hbA⟩))
      go_ret
      exact ⟨rfl, hB5.trans (hbA.mono hB5.size)⟩
  · have g1 : (a0 < a1) = True := eq_true g
    rcases hlong g with h | ⟨h, h47, h48⟩
    · obtain rfl : S = N1 := by omega
      have f5 : (N2 < S) = False := eq_false (by omega)
      have f6 : (S = N2) = False := eq_false (by omega)
      clear hlong g hMin h
      go_enter Try.func7, Try.ntmps7
      go_wp2_with (first | (go_at_call 10; (with_reducible refine (hL1 _).mono ?_); rintro e wz ⟨rfl, rfl⟩) | (go_at_call 10; (with_reducible refine (hL2 _).mono ?_); rintro e wz ⟨rfl, rfl⟩) | ((with_reducible refine (hW1 _ ).mono ?_); rintro e w1 ⟨a1, q1, rfl, h1, hb1, -⟩; have hB1 := hb1; have z1 := hb1.size; have Rx_1 := h1) | ((with_reducible refine (hW2 _ ).mono ?_); rintro e w2 ⟨a2, q2, rfl, h2, hb2, -⟩; rw [size1] at hb2; have hq2 := (below1 w1 _).trans (hb2.mono (Nat.le_succ _)); have z2 := hb2.size; rw [size1] at z2; have hB2 := hB1.trans (hq2.mono hB1.size); have Xx_2 := (Box2.of (blk1 w1 _)).below hb2 (Nat.lt_succ_self _); have Rx_2 := Rx_1.same hq2; have Ry_2 := h2; have cx0_2 := Xx_2.c0; have cx1_2 := Xx_2.c1; have lx_2 : w1.heap.size < w2.heap.size := (by omega)) | ((with_reducible refine (hK1 _ _ _ (Rx_2.same (below1 w2 _))).mono ?_); rintro e w3 ⟨a3, q3, rfl, h3, hb3, -⟩; rw [size1] at hb3; have hq3 := (below1 w2 _).trans (hb3.mono (Nat.le_succ _)); have z3 := hb3.size; rw [size1] at z3; have hB3 := hB2.trans (hq3.mono hB2.size); have Xx_3 := Xx_2.below hq3 (by omega); have Xy_3 := (Box2.of (blk1 w2 _)).below hb3 (Nat.lt_succ_self _); have Rx_3 := Rx_2.same hq3; have Ry_3 := Ry_2.same hq3; have Rp_3 := h3; have cx0_3 := Xx_3.c0; have cx1_3 := Xx_3.c1; have lx_3 : w1.heap.size < w3.heap.size := (by omega); have cy0_3 := Xy_3.c0; have cy1_3 := Xy_3.c1; have ly_3 : w2.heap.size < w3.heap.size := (by omega); clear cx0_2 cx1_2 lx_2) | ((with_reducible refine (hK2 _ _ _ (Ry_3.same (below1 w3 _))).mono ?_); rintro e w4 ⟨a4, q4, rfl, h4, hb4, -⟩; rw [size1] at hb4; have hq4 := (below1 w3 _).trans (hb4.mono (Nat.le_succ _)); have z4 := hb4.size; rw [size1] at z4; have hB4 := hB3.trans (hq4.mono hB3.size); have Xx_4 := Xx_3.below hq4 (by omega); have Xy_4 := Xy_3.below hq4 (by omega); have Xp_4 := (Box2.of (blk1 w3 _)).below hb4 (Nat.lt_succ_self _); have Rx_4 := Rx_3.same hq4; have Ry_4 := Ry_3.same hq4; have Rp_4 := Rp_3.same hq4; have Rq_4 := h4; have cx0_4 := Xx_4.c0; have cx1_4 := Xx_4.c1; have lx_4 : w1.heap.size < w4.heap.size := (by omega); have cy0_4 := Xy_4.c0; have cy1_4 := Xy_4.c1; have ly_4 : w2.heap.size < w4.heap.size := (by omega); have cp0_4 := Xp_4.c0; have cp1_4 := Xp_4.c1; have lp_4 : w3.heap.size < w4.heap.size := (by omega); clear cx0_3 cx1_3 lx_3 cy0_3 cy1_3 ly_3) | ((with_reducible refine (hS _ _ _ _ _ (Rp_4.same (below1 w4 _)) (Rq_4.same (below1 w4 _))).mono ?_); rintro e w5 ⟨rfl, hb5⟩; rw [size1] at hb5; have hq5 := (below1 w4 _).trans (hb5.mono (Nat.le_succ _)); have z5 := hb5.size; rw [size1] at z5; have hB5 := hB4.trans (hq5.mono hB4.size); have Xx_5 := Xx_4.below hq5 (by omega); have Xy_5 := Xy_4.below hq5 (by omega); have Xp_5 := Xp_4.below hq5 (by omega); have Xq_5 := (Box2.of (blk1 w4 _)).below hb5 (Nat.lt_succ_self _); have Rx_5 := Rx_4.same hq5; have Ry_5 := Ry_4.same hq5; have Rp_5 := Rp_4.same hq5; have Rq_5 := Rq_4.same hq5; have cx0_5 := Xx_5.c0; have cx1_5 := Xx_5.c1; have lx_5 : w1.heap.size < w5.heap.size := (by omega); have cy0_5 := Xy_5.c0; have cy1_5 := Xy_5.c1; have ly_5 : w2.heap.size < w5.heap.size := (by omega); have cp0_5 := Xp_5.c0; have cp1_5 := Xp_5.c1; have lp_5 : w3.heap.size < w5.heap.size := (by omega); have cq0_5 := Xq_5.c0; have cq1_5 := Xq_5.c1; have lq_5 : w4.heap.size < w5.heap.size := (by omega); clear cx0_4 cx1_4 lx_4 cy0_4 cy1_4 ly_4 cp0_4 cp1_4 lp_4) | (go_at_call 15; (with_reducible refine (alive_any _).mono ?_); rintro e wA ⟨rfl, hbA⟩))
      go_ret
      exact ⟨rfl, hB5.trans (hbA.mono hB5.size)⟩
    · obtain rfl : S = N1 := by omega
      subst h h47 h48
      clear hlong g hMin
      go_enter Try.func7, Try.ntmps7
      go_wp2_with (first | (go_at_call 10; (with_reducible refine (hL1 _).mono ?_); rintro e wz ⟨rfl, rfl⟩) | (go_at_call 10; (with_reducible refine (hL2 _).mono ?_); rintro e wz ⟨rfl, rfl⟩) | ((with_reducible refine (hW1 _ ).mono ?_); rintro e w1 ⟨a1, q1, rfl, h1, hb1, -⟩; have hB1 := hb1; have z1 := hb1.size; have Rx_1 := h1) | ((with_reducible refine (hW2 _ ).mono ?_); rintro e w2 ⟨a2, q2, rfl, h2, hb2, -⟩; rw [size1] at hb2; have hq2 := (below1 w1 _).trans (hb2.mono (Nat.le_succ _)); have z2 := hb2.size; rw [size1] at z2; have hB2 := hB1.trans (hq2.mono hB1.size); have Xx_2 := (Box2.of (blk1 w1 _)).below hb2 (Nat.lt_succ_self _); have Rx_2 := Rx_1.same hq2; have Ry_2 := h2; have cx0_2 := Xx_2.c0; have cx1_2 := Xx_2.c1; have lx_2 : w1.heap.size < w2.heap.size := (by omega)) | ((with_reducible refine (hK1 _ _ _ (Rx_2.same (below1 w2 _))).mono ?_); rintro e w3 ⟨a3, q3, rfl, h3, hb3, -⟩; rw [size1] at hb3; have hq3 := (below1 w2 _).trans (hb3.mono (Nat.le_succ _)); have z3 := hb3.size; rw [size1] at z3; have hB3 := hB2.trans (hq3.mono hB2.size); have Xx_3 := Xx_2.below hq3 (by omega); have Xy_3 := (Box2.of (blk1 w2 _)).below hb3 (Nat.lt_succ_self _); have Rx_3 := Rx_2.same hq3; have Ry_3 := Ry_2.same hq3; have Rp_3 := h3; have cx0_3 := Xx_3.c0; have cx1_3 := Xx_3.c1; have lx_3 : w1.heap.size < w3.heap.size := (by omega); have cy0_3 := Xy_3.c0; have cy1_3 := Xy_3.c1; have ly_3 : w2.heap.size < w3.heap.size := (by omega); clear cx0_2 cx1_2 lx_2) | ((with_reducible refine (hK2 _ _ _ (Ry_3.same (below1 w3 _))).mono ?_); rintro e w4 ⟨a4, q4, rfl, h4, hb4, -⟩; rw [size1] at hb4; have hq4 := (below1 w3 _).trans (hb4.mono (Nat.le_succ _)); have z4 := hb4.size; rw [size1] at z4; have hB4 := hB3.trans (hq4.mono hB3.size); have Xx_4 := Xx_3.below hq4 (by omega); have Xy_4 := Xy_3.below hq4 (by omega); have Xp_4 := (Box2.of (blk1 w3 _)).below hb4 (Nat.lt_succ_self _); have Rx_4 := Rx_3.same hq4; have Ry_4 := Ry_3.same hq4; have Rp_4 := Rp_3.same hq4; have Rq_4 := h4; have cx0_4 := Xx_4.c0; have cx1_4 := Xx_4.c1; have lx_4 : w1.heap.size < w4.heap.size := (by omega); have cy0_4 := Xy_4.c0; have cy1_4 := Xy_4.c1; have ly_4 : w2.heap.size < w4.heap.size := (by omega); have cp0_4 := Xp_4.c0; have cp1_4 := Xp_4.c1; have lp_4 : w3.heap.size < w4.heap.size := (by omega); clear cx0_3 cx1_3 lx_3 cy0_3 cy1_3 ly_3) | ((with_reducible refine (hS _ _ _ _ _ (Rp_4.same (below1 w4 _)) (Rq_4.same (below1 w4 _))).mono ?_); rintro e w5 ⟨rfl, hb5⟩; rw [size1] at hb5; have hq5 := (below1 w4 _).trans (hb5.mono (Nat.le_succ _)); have z5 := hb5.size; rw [size1] at z5; have hB5 := hB4.trans (hq5.mono hB4.size); have Xx_5 := Xx_4.below hq5 (by omega); have Xy_5 := Xy_4.below hq5 (by omega); have Xp_5 := Xp_4.below hq5 (by omega); have Xq_5 := (Box2.of (blk1 w4 _)).below hb5 (Nat.lt_succ_self _); have Rx_5 := Rx_4.same hq5; have Ry_5 := Ry_4.same hq5; have Rp_5 := Rp_4.same hq5; have Rq_5 := Rq_4.same hq5; have cx0_5 := Xx_5.c0; have cx1_5 := Xx_5.c1; have lx_5 : w1.heap.size < w5.heap.size := (by omega); have cy0_5 := Xy_5.c0; have cy1_5 := Xy_5.c1; have ly_5 : w2.heap.size < w5.heap.size := (by omega); have cp0_5 := Xp_5.c0; have cp1_5 := Xp_5.c1; have lp_5 : w3.heap.size < w5.heap.size := (by omega); have cq0_5 := Xq_5.c0; have cq1_5 := Xq_5.c1; have lq_5 : w4.heap.size < w5.heap.size := (by omega); clear cx0_4 cx1_4 lx_4 cy0_4 cy1_4 ly_4 cp0_4 cp1_4 lp_4) | (go_at_call 15; (with_reducible refine (alive_any _).mono ?_); rintro e wA ⟨rfl, hbA⟩))
      go_ret
      exact ⟨rfl, hB5.trans (hbA.mono hB5.size)⟩
end Go.Proofs.Ytdblcfajejhbaaa.Wk

/- The law RiceOrder. -/
import Derived.Test.YtcnlnkknfcmbhaaLaw07
namespace Go.Proofs.Ytcnlnkknfcmbhaa.Wk
open Go.Proofs Go.RowKit Go.Proofs.Ytcnlnkknfcmbhaa.Kit Go.Proofs.Ytcnlnkknfcmbhaa.M01 Go.Proofs.Ytcnlnkknfcmbhaa.M02 Go.Proofs.Ytcnlnkknfcmbhaa.M06 Go.Proofs.Ytcnlnkknfcmbhaa.M07 Go.Proofs.Ytcnlnkknfcmbhaa.Bt Go.Proofs.Ytcnlnkknfcmbhaa.R02 Go.Proofs.Ytcnlnkknfcmbhaa.Un Go.Proofs.Ytcnlnkknfcmbhaa.R06 Go.Proofs.Ytcnlnkknfcmbhaa.Ri Go.Proofs.Ytcnlnkknfcmbhaa.R07
set_option linter.unusedVariables false

theorem cd_mono {v w k : Int} (hv : 0 ≤ v) (h : v < w) (h0 : 0 ≤ k) (h1 : k ≤ 24) : cdS v k ≤ cdS w k := by
  obtain ⟨q0, q1⟩ := qP_bd k hv
  obtain ⟨r0, r1⟩ := qP_bd k (show 0 ≤ w by omega)
  have hle : qP v k ≤ qP w k := by
    have := Int.ediv_le_ediv (show 0 < p2 k by have := p2_pos k; omega) (show v ≤ w by omega)
    unfold qP; omega
  unfold cdS
  by_cases e : qP w k = 48
  · rw [e, runS_48, bhS_48]
    have := runS_bd q0 q1
    have := bhS_bd (qP v k) h0 h1
    omega
  · rw [bhS_lt k (by omega), bhS_lt k (by omega), runS_lt (by omega), runS_lt (by omega)]; omega

theorem cd_short {v k : Int} (hv : 0 ≤ v) (h0 : 0 ≤ k) (h1 : k ≤ 24) : (v < p2 k → cdS v k = k + 1) ∧ (¬ v < p2 k → cdS v k ≠ k + 1) := by
  have hp := p2_pos k
  refine ⟨fun h => ?_, fun h => ?_⟩
  · have e : qP v k = 0 := by unfold qP; rw [Int.ediv_eq_zero_of_lt hv h]; rfl
    unfold cdS; rw [e, runS_lt (by omega), bhS_lt k (by omega)]; omega
  · have e : 1 ≤ v / p2 k := by
      have := Int.ediv_le_ediv (show 0 < p2 k by omega) (show p2 k ≤ v by omega)
      rw [Int.ediv_self (by omega)] at this; exact this
    have e2 : 1 ≤ qP v k := by unfold qP; omega
    obtain ⟨q0, q1⟩ := qP_bd k hv
    unfold cdS
    by_cases g : qP v k = 48
    · rw [g, runS_48, bhS_48]; omega
    · rw [runS_lt (by omega), bhS_lt k (by omega)]; omega

theorem cd_apart {v w k : Int} (hv : isU32 v) (hw : isU32 w) (h0 : 0 ≤ k) (h1 : k ≤ 24) (h : v ≠ w) : cdV w k % p2 (cdS v k) ≠ cdV v k := by
  intro e
  have h2 := Int.emod_add_mul_ediv (cdV w k) (p2 (cdS v k))
  rw [e, Int.mul_comm] at h2
  have c1 := (code_dc hv.1 hv.2 h0 h1 (cdV w k / p2 (cdS v k))).2.1
  have c2 := (code_dc hw.1 hw.2 h0 h1 0).2.1
  rw [h2] at c1
  rw [Int.zero_mul, Int.add_zero] at c2
  rw [c1] at c2
  exact h c2

set_option maxRecDepth 100000 in
set_option maxHeartbeats 8000000 in
theorem riceOrder_walk (a0 : Int) (a1 : Int) (a2 : Int) (w : World) (b0 : 0 ≤ a0 ∧ a0 ≤ 4294967295) (b1 : 0 ≤ a1 ∧ a1 ≤ 4294967295) (b2 : -9223372036854775808 ≤ a2 ∧ a2 ≤ 9223372036854775807) :
    Calls Try.prog 7 #[.int .u32 a0, .int .u32 a1, .int .i64 a2] w fun e w' => e = .returned (.bool true) ∧ Below w.heap.size w w' := by
  by_cases t0 : a2 < 0
  · have f0 : (a2 < 0) = True := eq_true t0
    go_enter Try.func7, Try.ntmps7
    go_wp2_with ((go_at_call 14; (with_reducible refine (alive7_any _).mono ?_); rintro e wA ⟨rfl, hbA⟩))
    go_ret
    exact ⟨rfl, hbA⟩
  have f0 : (a2 < 0) = False := eq_false t0
  by_cases t1 : 24 < a2
  · have f1 : (24 < a2) = True := eq_true t1
    go_enter Try.func7, Try.ntmps7
    go_wp2_with ((go_at_call 14; (with_reducible refine (alive7_any _).mono ?_); rintro e wA ⟨rfl, hbA⟩))
    go_ret
    exact ⟨rfl, hbA⟩
  have f1 : (24 < a2) = False := eq_false t1
  by_cases t2 : a1 ≤ a0
  · have f2 : (a1 ≤ a0) = True := eq_true t2
    go_enter Try.func7, Try.ntmps7
    go_wp2_with ((go_at_call 14; (with_reducible refine (alive7_any _).mono ?_); rintro e wA ⟨rfl, hbA⟩))
    go_ret
    exact ⟨rfl, hbA⟩
  have f2 : (a1 ≤ a0) = False := eq_false t2
  have hL1 := fun w' => rlen_any a0 a2 w' b0 b2
  have hL2 := fun w' => rlen_any a1 a2 w' b1 b2
  have gE : rlE a2 = 0 := by rw [rlE, if_neg (by omega)]
  have gN1 : rlN a0 a2 = cdS a0 a2 := by rw [rlN, if_neg (by omega)]
  have gN2 : rlN a1 a2 = cdS a1 a2 := by rw [rlN, if_neg (by omega)]
  simp only [gE, gN1] at hL1
  simp only [gE, gN2] at hL2
  obtain ⟨rE1, rL1, rN1, rK1, rV1⟩ := rw_nil (v := a0) (k := a2) b0 (by omega) (by omega)
  have hW1 := fun w' => rwr_any none 0 0 [] 0 a0 a2 w' RowIn.nil (isInt_small (by decide) (by decide)) b0 b2
  simp only [rE1, rL1, rN1] at hW1
  obtain ⟨rE2, rL2, rN2, rK2, rV2⟩ := rw_nil (v := a1) (k := a2) b1 (by omega) (by omega)
  have hW2 := fun w' => rwr_any none 0 0 [] 0 a1 a2 w' RowIn.nil (isInt_small (by decide) (by decide)) b1 b2
  simp only [rE2, rL2, rN2] at hW2
  have s1 := cdS_bd (v := a0) (k := a2) b0.1 (by omega) (by omega)
  have s2 := cdS_bd (v := a1) (k := a2) b1.1 (by omega) (by omega)
  have hmono := cd_mono (v := a0) (w := a1) (k := a2) b0.1 (by omega) (by omega) (by omega)
  have hdiff := cd_apart (v := a0) (w := a1) (k := a2) b0 b1 (by omega) (by omega) (by omega)
  have hsh := cd_short (v := a0) (k := a2) b0.1 (by omega) (by omega)
  have hlt1 := cd_bd (v := a0) (k := a2) b0.1 (by omega) (by omega)
  have cE : cuE (bl (cdS a1 a2) (cdV a1 a2)) (cdS a1 a2) 0 (cdS a0 a2) = 0 := by rw [cuE, if_pos rK2, if_neg (by omega)]
  have cL : cuL (bl (cdS a1 a2) (cdV a1 a2)) (cdS a1 a2) 0 (cdS a0 a2) = bl (cdS a0 a2) (cdV a1 a2 % p2 (cdS a0 a2)) := by rw [cuL, if_pos cE, rV2, p2_zero, Int.ediv_one, Int.sub_zero]
  have cN : cuN (bl (cdS a1 a2) (cdV a1 a2)) (cdS a1 a2) 0 (cdS a0 a2) = cdS a0 a2 := by rw [cuN, if_pos cE, Int.sub_zero]
  have hne := bl_apart (S := cdS a0 a2) (by omega) (emod_bd (cdV a1 a2) (cdS a0 a2)) hlt1 hdiff
  obtain ⟨X, hX⟩ : ∃ X, bl (cdS a0 a2) (cdV a0 a2) = X := ⟨_, rfl⟩
  obtain ⟨Y, hY⟩ : ∃ X, bl (cdS a1 a2) (cdV a1 a2) = X := ⟨_, rfl⟩
  obtain ⟨P, hP⟩ : ∃ X, bl (cdS a0 a2) (cdV a1 a2 % p2 (cdS a0 a2)) = X := ⟨_, rfl⟩
  have eX : X.length = sz (cdS a0 a2) := by rw [← hX, bl_length]
  have eP : P.length = sz (cdS a0 a2) := by rw [← hP, bl_length]
  rw [hY, hP] at cL
  rw [hY] at cE cN
  rw [hX, hP] at hne
  simp only [hX] at hW1
  simp only [hY] at hW2
  obtain ⟨N1, hN1⟩ : ∃ X, cdS a0 a2 = X := ⟨_, rfl⟩
  obtain ⟨N2, hN2⟩ : ∃ X, cdS a1 a2 = X := ⟨_, rfl⟩
  simp only [hN1] at hL1 hW1 cE cL cN s1 hmono hsh eX eP
  simp only [hN2] at hL2 hW2 cE cL cN s2 hmono
  obtain ⟨lX, elX⟩ : ∃ l, sz N1 = l := ⟨_, rfl⟩
  obtain ⟨lY, elY⟩ : ∃ l, Y.length = l := ⟨_, rfl⟩
  rw [elX] at eX eP
  simp only [eX] at hW1
  simp only [elY] at hW2
  have hK := fun a q w' (r : RowIn .u8 w' a lY q Y) => cut_any a lY q Y N2 0 N1 w' r (isInt_small (by omega) (by omega)) (isInt_small (by omega) (by omega)) (isInt_small (by omega) (by omega))
  simp only [cE, cL, cN, eP] at hK
  have hS := fun a q a' q' w' (r : RowIn .u8 w' a lX q P) (r' : RowIn .u8 w' a' lX q' X) => same_any a lX q P N1 a' lX q' X N1 w' r r'
  have eS : sameB P N1 X N1 = false := by simp [sameB, hne]
  simp only [eS] at hS
  have f5 : (N2 < N1) = False := eq_false (by omega)
  unfold p2 at hsh
  obtain ⟨PW, hPW⟩ : ∃ P, (2 : Int) ^ a2.toNat = P := ⟨_, rfl⟩
  have hPb : 1 ≤ PW ∧ PW ≤ 16777216 := by rw [← hPW]; have h1 := p2_pos a2; have h2 := p2_le (show a2 ≤ 24 by omega); rw [p2_24] at h2; unfold p2 at h1 h2; exact ⟨h1, h2⟩
  rw [hPW] at hsh
  clear rE1 rL1 rN1 rK1 rV1 rE2 rL2 rN2 rK2 rV2 gE gN1 gN2 cE cL cN hdiff hX hY hP eP eX hN1 hN2 elX elY eS hne hmono hlt1
  unfold bv at hW1 hW2 hK hS
  by_cases g : a0 < PW
  · obtain rfl : N1 = a2 + 1 := hsh.1 g
    have f6 : (a0 < PW) = True := eq_true g
    clear hsh g
    go_enter Try.func7, Try.ntmps7
    go_wp2_with (first | (go_at_call 9; (with_reducible refine (hL1 _).mono ?_); rintro e wz ⟨rfl, rfl⟩) | (go_at_call 9; (with_reducible refine (hL2 _).mono ?_); rintro e wz ⟨rfl, rfl⟩) | ((with_reducible refine (hW1 _ ).mono ?_); rintro e w1 ⟨a1, q1, rfl, h1, hb1, -⟩; have hB1 := hb1; have z1 := hb1.size; have Rx_1 := h1) | ((with_reducible refine (hW2 _ ).mono ?_); rintro e w2 ⟨a2, q2, rfl, h2, hb2, -⟩; rw [size1] at hb2; have hq2 := (below1 w1 _).trans (hb2.mono (Nat.le_succ _)); have z2 := hb2.size; rw [size1] at z2; have hB2 := hB1.trans (hq2.mono hB1.size); have Xx_2 := (Box2.of (blk1 w1 _)).below hb2 (Nat.lt_succ_self _); have Rx_2 := Rx_1.same hq2; have Ry_2 := h2; have cx0_2 := Xx_2.c0; have cx1_2 := Xx_2.c1; have lx_2 : w1.heap.size < w2.heap.size := (by omega)) | ((with_reducible refine (hK _ _ _ (Ry_2.same (below1 w2 _))).mono ?_); rintro e w3 ⟨a3, q3, rfl, h3, hb3, -⟩; rw [size1] at hb3; have hq3 := (below1 w2 _).trans (hb3.mono (Nat.le_succ _)); have z3 := hb3.size; rw [size1] at z3; have hB3 := hB2.trans (hq3.mono hB2.size); have Xx_3 := Xx_2.below hq3 (by omega); have Xy_3 := (Box2.of (blk1 w2 _)).below hb3 (Nat.lt_succ_self _); have Rx_3 := Rx_2.same hq3; have Ry_3 := Ry_2.same hq3; have Rp_3 := h3; have cx0_3 := Xx_3.c0; have cx1_3 := Xx_3.c1; have lx_3 : w1.heap.size < w3.heap.size := (by omega); have cy0_3 := Xy_3.c0; have cy1_3 := Xy_3.c1; have ly_3 : w2.heap.size < w3.heap.size := (by omega); clear cx0_2 cx1_2 lx_2) | ((with_reducible refine (hS _ _ _ _ _ (Rp_3.same (below1 w3 _)) (Rx_3.same (below1 w3 _))).mono ?_); rintro e w4 ⟨rfl, hb4⟩; rw [size1] at hb4; have hq4 := (below1 w3 _).trans (hb4.mono (Nat.le_succ _)); have z4 := hb4.size; rw [size1] at z4; have hB4 := hB3.trans (hq4.mono hB3.size); have Xx_4 := Xx_3.below hq4 (by omega); have Xy_4 := Xy_3.below hq4 (by omega); have Xp_4 := (Box2.of (blk1 w3 _)).below hb4 (Nat.lt_succ_self _); have Rx_4 := Rx_3.same hq4; have Ry_4 := Ry_3.same hq4; have Rp_4 := Rp_3.same hq4; have cx0_4 := Xx_4.c0; have cx1_4 := Xx_4.c1; have lx_4 : w1.heap.size < w4.heap.size := (by omega); have cy0_4 := Xy_4.c0; have cy1_4 := Xy_4.c1; have ly_4 : w2.heap.size < w4.heap.size := (by omega); have cp0_4 := Xp_4.c0; have cp1_4 := Xp_4.c1; have lp_4 : w3.heap.size < w4.heap.size := (by omega); clear cx0_3 cx1_3 lx_3 cy0_3 cy1_3 ly_3) | (go_at_call 14; (with_reducible refine (alive7_any _).mono ?_); rintro e wA ⟨rfl, hbA⟩))
    go_ret
    exact ⟨rfl, hB4.trans (hbA.mono hB4.size)⟩
  · have f6 : (a0 < PW) = False := eq_false g
    have f7 : (N1 == a2 + 1) = false := beq_eq_false_iff_ne.2 (hsh.2 g)
    have f8 : (N1 = a2 + 1) = False := eq_false (hsh.2 g)
    clear hsh g
    go_enter Try.func7, Try.ntmps7
    go_wp2_with (first | (go_at_call 9; (with_reducible refine (hL1 _).mono ?_); rintro e wz ⟨rfl, rfl⟩) | (go_at_call 9; (with_reducible refine (hL2 _).mono ?_); rintro e wz ⟨rfl, rfl⟩) | ((with_reducible refine (hW1 _ ).mono ?_); rintro e w1 ⟨a1, q1, rfl, h1, hb1, -⟩; have hB1 := hb1; have z1 := hb1.size; have Rx_1 := h1) | ((with_reducible refine (hW2 _ ).mono ?_); rintro e w2 ⟨a2, q2, rfl, h2, hb2, -⟩; rw [size1] at hb2; have hq2 := (below1 w1 _).trans (hb2.mono (Nat.le_succ _)); have z2 := hb2.size; rw [size1] at z2; have hB2 := hB1.trans (hq2.mono hB1.size); have Xx_2 := (Box2.of (blk1 w1 _)).below hb2 (Nat.lt_succ_self _); have Rx_2 := Rx_1.same hq2; have Ry_2 := h2; have cx0_2 := Xx_2.c0; have cx1_2 := Xx_2.c1; have lx_2 : w1.heap.size < w2.heap.size := (by omega)) | ((with_reducible refine (hK _ _ _ (Ry_2.same (below1 w2 _))).mono ?_); rintro e w3 ⟨a3, q3, rfl, h3, hb3, -⟩; rw [size1] at hb3; have hq3 := (below1 w2 _).trans (hb3.mono (Nat.le_succ _)); have z3 := hb3.size; rw [size1] at z3; have hB3 := hB2.trans (hq3.mono hB2.size); have Xx_3 := Xx_2.below hq3 (by omega); have Xy_3 := (Box2.of (blk1 w2 _)).below hb3 (Nat.lt_succ_self _); have Rx_3 := Rx_2.same hq3; have Ry_3 := Ry_2.same hq3; have Rp_3 := h3; have cx0_3 := Xx_3.c0; have cx1_3 := Xx_3.c1; have lx_3 : w1.heap.size < w3.heap.size := (by omega); have cy0_3 := Xy_3.c0; have cy1_3 := Xy_3.c1; have ly_3 : w2.heap.size < w3.heap.size := (by omega); clear cx0_2 cx1_2 lx_2) | ((with_reducible refine (hS _ _ _ _ _ (Rp_3.same (below1 w3 _)) (Rx_3.same (below1 w3 _))).mono ?_); rintro e w4 ⟨rfl, hb4⟩; rw [size1] at hb4; have hq4 := (below1 w3 _).trans (hb4.mono (Nat.le_succ _)); have z4 := hb4.size; rw [size1] at z4; have hB4 := hB3.trans (hq4.mono hB3.size); have Xx_4 := Xx_3.below hq4 (by omega); have Xy_4 := Xy_3.below hq4 (by omega); have Xp_4 := (Box2.of (blk1 w3 _)).below hb4 (Nat.lt_succ_self _); have Rx_4 := Rx_3.same hq4; have Ry_4 := Ry_3.same hq4; have Rp_4 := Rp_3.same hq4; have cx0_4 := Xx_4.c0; have cx1_4 := Xx_4.c1; have lx_4 : w1.heap.size < w4.heap.size := (by omega); have cy0_4 := Xy_4.c0; have cy1_4 := Xy_4.c1; have ly_4 : w2.heap.size < w4.heap.size := (by omega); have cp0_4 := Xp_4.c0; have cp1_4 := Xp_4.c1; have lp_4 : w3.heap.size < w4.heap.size := (by omega); clear cx0_3 cx1_3 lx_3 cy0_3 cy1_3 ly_3) | (go_at_call 14; (with_reducible refine (alive7_any _).mono ?_); rintro e wA ⟨rfl, hbA⟩))
    go_ret
    exact ⟨rfl, hB4.trans (hbA.mono hB4.size)⟩
end Go.Proofs.Ytcnlnkknfcmbhaa.Wk

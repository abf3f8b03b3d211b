/- The law UnaryCut. -/
import Derived.Test.YtdblcfajejhbaaaLaw06
namespace Go.Proofs.Ytdblcfajejhbaaa.Wk
open Go.Proofs Go.RowKit Go.Proofs.Ytdblcfajejhbaaa.Kit Go.Proofs.Ytdblcfajejhbaaa.M01 Go.Proofs.Ytdblcfajejhbaaa.M02 Go.Proofs.Ytdblcfajejhbaaa.M06 Go.Proofs.Ytdblcfajejhbaaa.Bt Go.Proofs.Ytdblcfajejhbaaa.R02 Go.Proofs.Ytdblcfajejhbaaa.Un Go.Proofs.Ytdblcfajejhbaaa.R06
set_option linter.unusedVariables false

theorem rd_first {n : Int} (h0 : 0 ≤ n) (h1 : n ≤ 48) {ys : List Int} {m : Int} (hy : isByte ys) (hok : okB ys m = true) (hm : m ≤ 500) :
    let V := (p2 n - 1) + val ys * p2 (runS n)
    let L := bl (runS n + m) V
    okB L (runS n + m) = true ∧ rdE L (runS n + m) 0 = 0 ∧ rdN L (runS n + m) 0 = n ∧ rdX L (runS n + m) 0 = runS n := by
  intro V L
  obtain ⟨hm0, _, _, hlt⟩ := okB_iff.1 hok
  have hs := runS_bd h0 h1
  have hr := run_lt h0 h1
  have hv := val_nonneg hy
  have hp := p2_pos (runS n)
  have hV0 : 0 ≤ V := by have := Int.mul_nonneg hv (show 0 ≤ p2 (runS n) by omega); omega
  have hV1 : V < p2 (runS n + m) := join_lt (by omega) hm0 hr.2 hlt
  have hL : okB L (runS n + m) = true := ok_bl (by omega) (by omega) hV0 hV1
  have hvL : val L = V := val_bl (by omega) hV0 hV1
  have hon : ons L 0 = n := by unfold ons; rw [hvL, p2_zero, Int.ediv_one]; exact cnt_runS h0 h1 _
  have e : rdE L (runS n + m) 0 = 0 := by
    rw [rdE, if_pos hL, if_neg (by omega), if_neg (by omega), if_neg (by rw [hon]; intro h; have := runS_lt h.1; omega)]
  exact ⟨hL, e, by rw [rdN, if_pos e, hon], by rw [rdX, if_pos e, hon, Int.zero_add]⟩

theorem rd_part {k : Int} (h0 : 0 ≤ k) (h1 : k < 48) : okB (bl k (p2 k - 1)) k = true ∧ rdE (bl k (p2 k - 1)) k 0 = 24 ∧ rdN (bl k (p2 k - 1)) k 0 = 0 ∧ rdX (bl k (p2 k - 1)) k 0 = 0 := by
  have hp := p2_pos k
  have hL : okB (bl k (p2 k - 1)) k = true := ok_bl h0 (by omega) (by omega) (by omega)
  have hvL : val (bl k (p2 k - 1)) = p2 k - 1 := val_bl h0 (by omega) (by omega)
  have hon : ons (bl k (p2 k - 1)) 0 = k := by
    unfold ons; rw [hvL, p2_zero, Int.ediv_one]
    obtain ⟨j, rfl⟩ : ∃ j : Nat, k = j := ⟨k.toNat, by omega⟩
    have := cnt_run j 48 0 (by omega)
    rw [Int.zero_mul, Int.add_zero] at this
    rw [this]
  have e : rdE (bl k (p2 k - 1)) k 0 = 24 := by
    rw [rdE, if_pos hL, if_neg (by omega)]
    by_cases h : k ≤ 0
    · rw [if_pos h]
    · rw [if_neg h, if_pos (by rw [hon]; omega)]
  exact ⟨hL, e, by rw [rdN, if_neg (by rw [e]; decide)], by rw [rdX, if_neg (by rw [e]; decide)]⟩

set_option maxRecDepth 100000 in
set_option maxHeartbeats 8000000 in
theorem unaryCut_walk (a0 : Int) (a1 : Int) (a20 : Option Addr) (l20 c20 : Nat) (x20 : List Int) (n21 : Int) (w : World) (b0 : -9223372036854775808 ≤ a0 ∧ a0 ≤ 9223372036854775807) (b1 : -9223372036854775808 ≤ a1 ∧ a1 ≤ 9223372036854775807) (r20 : RowIn .u8 w a20 l20 c20 x20) (b21 : -9223372036854775808 ≤ n21 ∧ n21 ≤ 9223372036854775807) :
    Calls Try.prog 8 #[.int .i64 a0, .int .i64 a1, .agg #[.slice a20 l20 c20, .int .i64 n21]] w fun e w' => e = .returned (.bool true) ∧ Below w.heap.size w w' := by
  by_cases t0 : a0 < 0
  · have f0 : (a0 < 0) = True := eq_true t0
    go_enter Try.func8, Try.ntmps8
    go_wp2_with ((go_at_call 15; (with_reducible refine (alive_any _).mono ?_); rintro e wA ⟨rfl, hbA⟩))
    go_ret
    exact ⟨rfl, (below1 w _).trans (hbA.mono (by simp))⟩
  have f0 : (a0 < 0) = False := eq_false t0
  by_cases t1 : 48 < a0
  · have f1 : (48 < a0) = True := eq_true t1
    go_enter Try.func8, Try.ntmps8
    go_wp2_with ((go_at_call 15; (with_reducible refine (alive_any _).mono ?_); rintro e wA ⟨rfl, hbA⟩))
    go_ret
    exact ⟨rfl, (below1 w _).trans (hbA.mono (by simp))⟩
  have f1 : (48 < a0) = False := eq_false t1
  have hC := fun w' (r : RowIn .u8 w' a20 l20 c20 x20) => rcheck_any a20 l20 c20 x20 n21 w' r b21
  unfold bv at hC
  by_cases hok : okB x20 n21 = true
  · have e1 : chkE x20 n21 = 0 := by simp [chkE, hok]
    simp only [e1] at hC
    obtain ⟨hn0, hn1, hxl, hval⟩ := okB_iff.1 hok
    have hby := byte_of r20.rd
    by_cases t2 : 500 < n21
    · have f2 : (500 < n21) = True := eq_true t2
      go_enter Try.func8, Try.ntmps8
      go_wp2_with (first | ((with_reducible refine (hC _ (r20.same (below1 w _))).mono ?_); rintro e w1 ⟨rfl, hb1⟩; rw [size1] at hb1; have hB1 := (below1 w _).trans (hb1.mono (by omega)); have z1 := hb1.size; rw [size1] at z1; have Xb_1 := (Box2.of (blk1 w _)).below hb1 (by omega); have cb0_1 := Xb_1.c0; have cb1_1 := Xb_1.c1; have lb_1 : w.heap.size < w1.heap.size := (by omega)) | (go_at_call 15; (with_reducible refine (alive_any _).mono ?_); rintro e wA ⟨rfl, hbA⟩))
      go_ret
      exact ⟨rfl, hB1.trans (hbA.mono hB1.size)⟩
    have f2 : (500 < n21) = False := eq_false t2
    obtain ⟨rE1, rL1, rN1, rK1, rV1⟩ := wr_nil (m := a0) (by omega) (by omega)
    have hW := fun w' => write_any none 0 0 [] 0 a0 w' RowIn.nil (isInt_small (by decide) (by decide)) b0
    simp only [rE1, rL1, rN1] at hW
    have s1 := runS_bd (n := a0) (by omega) (by omega)
    obtain ⟨dK, dE, dN, dX⟩ := rd_first (n := a0) (by omega) (by omega) hby hok (by omega)
    have jE : joE (bl (runS a0) (p2 a0 - 1)) (runS a0) x20 n21 = 0 := by rw [joE, if_pos rK1, if_pos hok, if_neg (by omega)]
    have jL : joL (bl (runS a0) (p2 a0 - 1)) (runS a0) x20 n21 = bl (runS a0 + n21) ((p2 a0 - 1) + val x20 * p2 (runS a0)) := by rw [joL, if_pos jE, rV1]
    have jN : joN (bl (runS a0) (p2 a0 - 1)) (runS a0) x20 n21 = runS a0 + n21 := by rw [joN, if_pos jE]
    have hcut : ∀ k, 0 ≤ k → k < runS a0 → cuE (bl (runS a0) (p2 a0 - 1)) (runS a0) 0 k = 0 ∧ cuL (bl (runS a0) (p2 a0 - 1)) (runS a0) 0 k = bl k (p2 k - 1) ∧ cuN (bl (runS a0) (p2 a0 - 1)) (runS a0) 0 k = k := by
      intro k k0 k1
      have e : cuE (bl (runS a0) (p2 a0 - 1)) (runS a0) 0 k = 0 := by rw [cuE, if_pos rK1, if_neg (by omega)]
      exact ⟨e, by rw [cuL, if_pos e, rV1, p2_zero, Int.ediv_one, Int.sub_zero, ones_mod k0 (by omega)], by rw [cuN, if_pos e, Int.sub_zero]⟩
    obtain ⟨X, hX⟩ : ∃ X, bl (runS a0) (p2 a0 - 1) = X := ⟨_, rfl⟩
    obtain ⟨Y, hY⟩ : ∃ X, bl (runS a0 + n21) ((p2 a0 - 1) + val x20 * p2 (runS a0)) = X := ⟨_, rfl⟩
    obtain ⟨N, hN⟩ : ∃ X, runS a0 = X := ⟨_, rfl⟩
    obtain ⟨lX, elX⟩ : ∃ l, X.length = l := ⟨_, rfl⟩
    obtain ⟨lY, elY⟩ : ∃ l, Y.length = l := ⟨_, rfl⟩
    simp only [hX] at hW jE jL jN rK1 hcut
    simp only [hY] at jL dE dN dX
    simp only [hN] at hW jE jL jN dE dN dX s1 hcut
    have hJ := fun a q w' (r : RowIn .u8 w' a lX q X) (r' : RowIn .u8 w' a20 l20 c20 x20) => join_any a lX q X N a20 l20 c20 x20 n21 w' r (isInt_small (by omega) (by omega)) r' b21
    simp only [jE, jL, jN, elY] at hJ
    simp only [elX] at hW
    have hR := fun a q w' (r : RowIn .u8 w' a lY q Y) => read_any a lY q Y (N + n21) 0 w' r (isInt_small (by omega) (by omega)) (isInt_small (by omega) (by omega))
    simp only [dE, dN, dX] at hR
    unfold bv at hW hJ hR
    clear e1 jE jL jN dE dN dX dK rE1 rL1 rN1 rV1 hX hY hN elY hok hxl hval hby
    by_cases t3 : a1 < 0
    · have f3 : (a1 < 0) = True := eq_true t3
      go_enter Try.func8, Try.ntmps8
      go_wp2_with (first | ((with_reducible refine (hC _ (r20.same (below1 w _))).mono ?_); rintro e w1 ⟨rfl, hb1⟩; rw [size1] at hb1; have hB1 := (below1 w _).trans (hb1.mono (by omega)); have z1 := hb1.size; rw [size1] at z1; have Xb_1 := (Box2.of (blk1 w _)).below hb1 (by omega); have cb0_1 := Xb_1.c0; have cb1_1 := Xb_1.c1; have lb_1 : w.heap.size < w1.heap.size := (by omega)) | ((with_reducible refine (hW _ ).mono ?_); rintro e w2 ⟨a2, q2, rfl, h2, hb2, -⟩; have hq2 := hb2; have z2 := hb2.size; have hB2 := hB1.trans (hq2.mono hB1.size); have Xb_2 := Xb_1.below hq2 (by omega); have Rx_2 := h2; have cb0_2 := Xb_2.c0; have cb1_2 := Xb_2.c1; have lb_2 : w.heap.size < w2.heap.size := (by omega); clear cb0_1 cb1_1 lb_1) | ((with_reducible refine (hJ _ _ _ (Rx_2.same (below1 w2 _)) (r20.same (hB2.trans ((below1 w2 _).mono hB2.size)))).mono ?_); rintro e w3 ⟨a3, q3, rfl, h3, hb3, -⟩; rw [size1] at hb3; have hq3 := (below1 w2 _).trans (hb3.mono (Nat.le_succ _)); have z3 := hb3.size; rw [size1] at z3; have hB3 := hB2.trans (hq3.mono hB2.size); have Xb_3 := Xb_2.below hq3 (by omega); have Xx_3 := (Box2.of (blk1 w2 _)).below hb3 (Nat.lt_succ_self _); have Rx_3 := Rx_2.same hq3; have Ry_3 := h3; have cb0_3 := Xb_3.c0; have cb1_3 := Xb_3.c1; have lb_3 : w.heap.size < w3.heap.size := (by omega); have cx0_3 := Xx_3.c0; have cx1_3 := Xx_3.c1; have lx_3 : w2.heap.size < w3.heap.size := (by omega); clear cb0_2 cb1_2 lb_2) | ((with_reducible refine (hR _ _ _ (Ry_3.same (below1 w3 _))).mono ?_); rintro e w4 ⟨rfl, hb4⟩; rw [size1] at hb4; have hq4 := (below1 w3 _).trans (hb4.mono (Nat.le_succ _)); have z4 := hb4.size; rw [size1] at z4; have hB4 := hB3.trans (hq4.mono hB3.size); have Xb_4 := Xb_3.below hq4 (by omega); have Xx_4 := Xx_3.below hq4 (by omega); have Xy_4 := (Box2.of (blk1 w3 _)).below hb4 (Nat.lt_succ_self _); have Rx_4 := Rx_3.same hq4; have Ry_4 := Ry_3.same hq4; have cb0_4 := Xb_4.c0; have cb1_4 := Xb_4.c1; have lb_4 : w.heap.size < w4.heap.size := (by omega); have cx0_4 := Xx_4.c0; have cx1_4 := Xx_4.c1; have lx_4 : w2.heap.size < w4.heap.size := (by omega); have cy0_4 := Xy_4.c0; have cy1_4 := Xy_4.c1; have ly_4 : w3.heap.size < w4.heap.size := (by omega); clear cb0_3 cb1_3 lb_3 cx0_3 cx1_3 lx_3) | (go_at_call 15; (with_reducible refine (alive_any _).mono ?_); rintro e wA ⟨rfl, hbA⟩))
      go_ret
      exact ⟨rfl, hB4.trans (hbA.mono hB4.size)⟩
    have f3 : (a1 < 0) = False := eq_false t3
    by_cases t4 : N ≤ a1
    · have f4 : (N ≤ a1) = True := eq_true t4
      go_enter Try.func8, Try.ntmps8
      go_wp2_with (first | ((with_reducible refine (hC _ (r20.same (below1 w _))).mono ?_); rintro e w1 ⟨rfl, hb1⟩; rw [size1] at hb1; have hB1 := (below1 w _).trans (hb1.mono (by omega)); have z1 := hb1.size; rw [size1] at z1; have Xb_1 := (Box2.of (blk1 w _)).below hb1 (by omega); have cb0_1 := Xb_1.c0; have cb1_1 := Xb_1.c1; have lb_1 : w.heap.size < w1.heap.size := (by omega)) | ((with_reducible refine (hW _ ).mono ?_); rintro e w2 ⟨a2, q2, rfl, h2, hb2, -⟩; have hq2 := hb2; have z2 := hb2.size; have hB2 := hB1.trans (hq2.mono hB1.size); have Xb_2 := Xb_1.below hq2 (by omega); have Rx_2 := h2; have cb0_2 := Xb_2.c0; have cb1_2 := Xb_2.c1; have lb_2 : w.heap.size < w2.heap.size := (by omega); clear cb0_1 cb1_1 lb_1) | ((with_reducible refine (hJ _ _ _ (Rx_2.same (below1 w2 _)) (r20.same (hB2.trans ((below1 w2 _).mono hB2.size)))).mono ?_); rintro e w3 ⟨a3, q3, rfl, h3, hb3, -⟩; rw [size1] at hb3; have hq3 := (below1 w2 _).trans (hb3.mono (Nat.le_succ _)); have z3 := hb3.size; rw [size1] at z3; have hB3 := hB2.trans (hq3.mono hB2.size); have Xb_3 := Xb_2.below hq3 (by omega); have Xx_3 := (Box2.of (blk1 w2 _)).below hb3 (Nat.lt_succ_self _); have Rx_3 := Rx_2.same hq3; have Ry_3 := h3; have cb0_3 := Xb_3.c0; have cb1_3 := Xb_3.c1; have lb_3 : w.heap.size < w3.heap.size := (by omega); have cx0_3 := Xx_3.c0; have cx1_3 := Xx_3.c1; have lx_3 : w2.heap.size < w3.heap.size := (by omega); clear cb0_2 cb1_2 lb_2) | ((with_reducible refine (hR _ _ _ (Ry_3.same (below1 w3 _))).mono ?_); rintro e w4 ⟨rfl, hb4⟩; rw [size1] at hb4; have hq4 := (below1 w3 _).trans (hb4.mono (Nat.le_succ _)); have z4 := hb4.size; rw [size1] at z4; have hB4 := hB3.trans (hq4.mono hB3.size); have Xb_4 := Xb_3.below hq4 (by omega); have Xx_4 := Xx_3.below hq4 (by omega); have Xy_4 := (Box2.of (blk1 w3 _)).below hb4 (Nat.lt_succ_self _); have Rx_4 := Rx_3.same hq4; have Ry_4 := Ry_3.same hq4; have cb0_4 := Xb_4.c0; have cb1_4 := Xb_4.c1; have lb_4 : w.heap.size < w4.heap.size := (by omega); have cx0_4 := Xx_4.c0; have cx1_4 := Xx_4.c1; have lx_4 : w2.heap.size < w4.heap.size := (by omega); have cy0_4 := Xy_4.c0; have cy1_4 := Xy_4.c1; have ly_4 : w3.heap.size < w4.heap.size := (by omega); clear cb0_3 cb1_3 lb_3 cx0_3 cx1_3 lx_3) | (go_at_call 15; (with_reducible refine (alive_any _).mono ?_); rintro e wA ⟨rfl, hbA⟩))
      go_ret
      exact ⟨rfl, hB4.trans (hbA.mono hB4.size)⟩
    have f4 : (N ≤ a1) = False := eq_false t4
    obtain ⟨cE, cL, cN⟩ := hcut a1 (by omega) (by omega)
    obtain ⟨pK, pE, pN, pX⟩ := rd_part (k := a1) (by omega) (by omega)
    have hK := fun a q w' (r : RowIn .u8 w' a lX q X) => cut_any a lX q X N 0 a1 w' r (isInt_small (by omega) (by omega)) (isInt_small (by omega) (by omega)) b1
    obtain ⟨Z, hZ⟩ : ∃ X, bl a1 (p2 a1 - 1) = X := ⟨_, rfl⟩
    rw [hZ] at cL pE pN pX
    obtain ⟨lZ, elZ⟩ : ∃ l, Z.length = l := ⟨_, rfl⟩
    simp only [cE, cL, cN, elZ] at hK
    have hQ := fun a q w' (r : RowIn .u8 w' a lZ q Z) => read_any a lZ q Z a1 0 w' r b1 (isInt_small (by omega) (by omega))
    simp only [pE, pN, pX] at hQ
    unfold bv at hK hQ
    clear cE cL cN pK pE pN pX hZ elZ hcut elX rK1
    go_enter Try.func8, Try.ntmps8
    go_wp2_with (first | ((with_reducible refine (hC _ (r20.same (below1 w _))).mono ?_); rintro e w1 ⟨rfl, hb1⟩; rw [size1] at hb1; have hB1 := (below1 w _).trans (hb1.mono (by omega)); have z1 := hb1.size; rw [size1] at z1; have Xb_1 := (Box2.of (blk1 w _)).below hb1 (by omega); have cb0_1 := Xb_1.c0; have cb1_1 := Xb_1.c1; have lb_1 : w.heap.size < w1.heap.size := (by omega)) | ((with_reducible refine (hW _ ).mono ?_); rintro e w2 ⟨a2, q2, rfl, h2, hb2, -⟩; have hq2 := hb2; have z2 := hb2.size; have hB2 := hB1.trans (hq2.mono hB1.size); have Xb_2 := Xb_1.below hq2 (by omega); have Rx_2 := h2; have cb0_2 := Xb_2.c0; have cb1_2 := Xb_2.c1; have lb_2 : w.heap.size < w2.heap.size := (by omega); clear cb0_1 cb1_1 lb_1) | ((with_reducible refine (hJ _ _ _ (Rx_2.same (below1 w2 _)) (r20.same (hB2.trans ((below1 w2 _).mono hB2.size)))).mono ?_); rintro e w3 ⟨a3, q3, rfl, h3, hb3, -⟩; rw [size1] at hb3; have hq3 := (below1 w2 _).trans (hb3.mono (Nat.le_succ _)); have z3 := hb3.size; rw [size1] at z3; have hB3 := hB2.trans (hq3.mono hB2.size); have Xb_3 := Xb_2.below hq3 (by omega); have Xx_3 := (Box2.of (blk1 w2 _)).below hb3 (Nat.lt_succ_self _); have Rx_3 := Rx_2.same hq3; have Ry_3 := h3; have cb0_3 := Xb_3.c0; have cb1_3 := Xb_3.c1; have lb_3 : w.heap.size < w3.heap.size := (by omega); have cx0_3 := Xx_3.c0; have cx1_3 := Xx_3.c1; have lx_3 : w2.heap.size < w3.heap.size := (by omega); clear cb0_2 cb1_2 lb_2) | ((with_reducible refine (hR _ _ _ (Ry_3.same (below1 w3 _))).mono ?_); rintro e w4 ⟨rfl, hb4⟩; rw [size1] at hb4; have hq4 := (below1 w3 _).trans (hb4.mono (Nat.le_succ _)); have z4 := hb4.size; rw [size1] at z4; have hB4 := hB3.trans (hq4.mono hB3.size); have Xb_4 := Xb_3.below hq4 (by omega); have Xx_4 := Xx_3.below hq4 (by omega); have Xy_4 := (Box2.of (blk1 w3 _)).below hb4 (Nat.lt_succ_self _); have Rx_4 := Rx_3.same hq4; have Ry_4 := Ry_3.same hq4; have cb0_4 := Xb_4.c0; have cb1_4 := Xb_4.c1; have lb_4 : w.heap.size < w4.heap.size := (by omega); have cx0_4 := Xx_4.c0; have cx1_4 := Xx_4.c1; have lx_4 : w2.heap.size < w4.heap.size := (by omega); have cy0_4 := Xy_4.c0; have cy1_4 := Xy_4.c1; have ly_4 : w3.heap.size < w4.heap.size := (by omega); clear cb0_3 cb1_3 lb_3 cx0_3 cx1_3 lx_3) | ((with_reducible refine (hK _ _ _ Rx_4).mono ?_); rintro e w5 ⟨a5, q5, rfl, h5, hb5, -⟩; have hq5 := hb5; have z5 := hb5.size; have hB5 := hB4.trans (hq5.mono hB4.size); have Xb_5 := Xb_4.below hq5 (by omega); have Xx_5 := Xx_4.below hq5 (by omega); have Xy_5 := Xy_4.below hq5 (by omega); have Rx_5 := Rx_4.same hq5; have Ry_5 := Ry_4.same hq5; have Rz_5 := h5; have cb0_5 := Xb_5.c0; have cb1_5 := Xb_5.c1; have lb_5 : w.heap.size < w5.heap.size := (by omega); have cx0_5 := Xx_5.c0; have cx1_5 := Xx_5.c1; have lx_5 : w2.heap.size < w5.heap.size := (by omega); have cy0_5 := Xy_5.c0; have cy1_5 := Xy_5.c1; have ly_5 : w3.heap.size < w5.heap.size := (by omega); clear cb0_4 cb1_4 lb_4 cx0_4 cx1_4 lx_4 cy0_4 cy1_4 ly_4) | ((with_reducible refine (hQ _ _ _ (Rz_5.same (below1 w5 _))).mono ?_); rintro e w6 ⟨rfl, hb6⟩; rw [size1] at hb6; have hq6 := (below1 w5 _).trans (hb6.mono (Nat.le_succ _)); have z6 := hb6.size; rw [size1] at z6; have hB6 := hB5.trans (hq6.mono hB5.size); have Xb_6 := Xb_5.below hq6 (by omega); have Xx_6 := Xx_5.below hq6 (by omega); have Xy_6 := Xy_5.below hq6 (by omega); have Xz_6 := (Box2.of (blk1 w5 _)).below hb6 (Nat.lt_succ_self _); have Rx_6 := Rx_5.same hq6; have Ry_6 := Ry_5.same hq6; have Rz_6 := Rz_5.same hq6; have cb0_6 := Xb_6.c0; have cb1_6 := Xb_6.c1; have lb_6 : w.heap.size < w6.heap.size := (by omega); have cx0_6 := Xx_6.c0; have cx1_6 := Xx_6.c1; have lx_6 : w2.heap.size < w6.heap.size := (by omega); have cy0_6 := Xy_6.c0; have cy1_6 := Xy_6.c1; have ly_6 : w3.heap.size < w6.heap.size := (by omega); have cz0_6 := Xz_6.c0; have cz1_6 := Xz_6.c1; have lz_6 : w5.heap.size < w6.heap.size := (by omega); clear cb0_5 cb1_5 lb_5 cx0_5 cx1_5 lx_5 cy0_5 cy1_5 ly_5) | (go_at_call 15; (with_reducible refine (alive_any _).mono ?_); rintro e wA ⟨rfl, hbA⟩))
    go_ret
    exact ⟨rfl, hB6.trans (hbA.mono hB6.size)⟩
  · have e1 : chkE x20 n21 = 8 := by simp [chkE, hok]
    simp only [e1] at hC
    go_enter Try.func8, Try.ntmps8
    go_wp2_with (first | ((with_reducible refine (hC _ (r20.same (below1 w _))).mono ?_); rintro e w1 ⟨rfl, hb1⟩; rw [size1] at hb1; have hB1 := (below1 w _).trans (hb1.mono (by omega)); have z1 := hb1.size; rw [size1] at z1; have Xb_1 := (Box2.of (blk1 w _)).below hb1 (by omega); have cb0_1 := Xb_1.c0; have cb1_1 := Xb_1.c1; have lb_1 : w.heap.size < w1.heap.size := (by omega)) | (go_at_call 15; (with_reducible refine (alive_any _).mono ?_); rintro e wA ⟨rfl, hbA⟩))
    go_ret
    exact ⟨rfl, hB1.trans (hbA.mono hB1.size)⟩
end Go.Proofs.Ytdblcfajejhbaaa.Wk

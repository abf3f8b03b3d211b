/- The law RiceCut. -/
import Derived.Test.YtcnlnkknfcmbhaaLaw07
namespace Go.Proofs.Ytcnlnkknfcmbhaa.Wk
open Go.Proofs Go.RowKit Go.Proofs.Ytcnlnkknfcmbhaa.Kit Go.Proofs.Ytcnlnkknfcmbhaa.M01 Go.Proofs.Ytcnlnkknfcmbhaa.M02 Go.Proofs.Ytcnlnkknfcmbhaa.M06 Go.Proofs.Ytcnlnkknfcmbhaa.M07 Go.Proofs.Ytcnlnkknfcmbhaa.Bt Go.Proofs.Ytcnlnkknfcmbhaa.R02 Go.Proofs.Ytcnlnkknfcmbhaa.Un Go.Proofs.Ytcnlnkknfcmbhaa.R06 Go.Proofs.Ytcnlnkknfcmbhaa.Ri Go.Proofs.Ytcnlnkknfcmbhaa.R07
set_option linter.unusedVariables false

/-- A code that is cut off is too short. -/
theorem rr_part {v k s : Int} (hv : isU32 v) (h0 : 0 ≤ k) (h1 : k ≤ 24) (s0 : 0 ≤ s) (s1 : s < cdS v k) :
    let L := bl s (cdV v k % p2 s)
    okB L s = true ∧ rrE L s 0 k = 24 ∧ rrN L s 0 k = 0 ∧ rrX L s 0 k = 0 := by
  intro L
  obtain ⟨q0, q1⟩ := qP_bd k hv.1
  have hs := runS_bd q0 q1
  have hB := bhS_bd (qP v k) h0 h1
  have hc := cdS_bd hv.1 h0 h1
  have hS : cdS v k = runS (qP v k) + bhS (qP v k) k := rfl
  have hm := emod_bd (cdV v k) s
  have hL : okB L s = true := ok_bl s0 (by omega) hm.1 hm.2
  have hvL : val L = cdV v k % p2 s := val_bl s0 hm.1 hm.2
  have e : rrE L s 0 k = 24 := by
    by_cases hz : s ≤ 0
    · have eR : rdE L s 0 = 24 := by rw [rdE, if_pos hL, if_neg (by omega), if_pos (by omega)]
      rw [rrE, if_pos hL, if_neg (by omega), if_pos (by rw [eR]; decide), eR]
    · by_cases hr : s < runS (qP v k)
      · -- within the run: all ones
        have hle : s ≤ qP v k := by
          by_cases g : qP v k = 48
          · rw [g, runS_48] at hr; omega
          · rw [runS_lt (by omega)] at hr; omega
        have hX : cdV v k % p2 s = p2 s - 1 := by
          unfold cdV
          obtain ⟨d, hd⟩ : ∃ d, runS (qP v k) = s + d := ⟨runS (qP v k) - s, by omega⟩
          rw [hd, p2_add s0 (by omega), Int.mul_comm (p2 s), ← Int.mul_assoc, Int.add_mul_emod_self_right, ones_mod s0 hle]
        have hon : ons L 0 = s := by
          unfold ons; rw [hvL, hX, p2_zero, Int.ediv_one]
          obtain ⟨j, hj⟩ : ∃ j : Nat, s = j := ⟨s.toNat, by omega⟩
          have := cnt_run j 48 0 (by omega)
          rw [Int.zero_mul, Int.add_zero] at this
          rw [hj, this]
        have h48 : s < 48 := by omega
        have eR : rdE L s 0 = 24 := by rw [rdE, if_pos hL, if_neg (by omega), if_neg (by omega), if_pos (by rw [hon]; omega)]
        rw [rrE, if_pos hL, if_neg (by omega), if_pos (by rw [eR]; decide), eR]
      · -- the run is there
        obtain ⟨d, hd⟩ : ∃ d, s = runS (qP v k) + d := ⟨s - runS (qP v k), by omega⟩
        have hX : ∃ H, cdV v k % p2 s = (p2 (qP v k) - 1) + H * p2 (runS (qP v k)) := by
          refine ⟨lwP v k % p2 d, ?_⟩
          have hrl := run_lt q0 q1
          have hp := p2_pos (runS (qP v k))
          have e1 : cdV v k % p2 (runS (qP v k)) = p2 (qP v k) - 1 := by
            unfold cdV; rw [Int.add_mul_emod_self_right, Int.emod_eq_of_lt hrl.1 hrl.2]
          have e2 : cdV v k / p2 (runS (qP v k)) = lwP v k := by
            unfold cdV; rw [Int.add_mul_ediv_right _ _ (by omega), Int.ediv_eq_zero_of_lt hrl.1 hrl.2, Int.zero_add]
          rw [hd, mod_split (cdV v k) (by omega) (by omega), e1, e2]
        obtain ⟨H, hX⟩ := hX
        have hcq : cq (val L / p2 0) = qP v k := by
          unfold cq; rw [hvL, p2_zero, Int.ediv_one, hX]; exact cnt_runS q0 q1 _
        have hon : ons L 0 = qP v k := hcq
        have eR : rdE L s 0 = 0 := by
          rw [rdE, if_pos hL, if_neg (by omega), if_neg (by omega), if_neg (by rw [hon]; intro g; have := runS_lt g.1; omega)]
        have eX : rdX L s 0 = runS (qP v k) := by rw [rdX, if_pos eR, hon, Int.zero_add]
        rw [rrE, if_pos hL, if_neg (by omega), if_neg (by rw [eR]; simp), if_pos (by rw [eX]; unfold dcM; rw [hcq]; omega)]
  exact ⟨hL, e, by rw [rrN, if_neg (by rw [e]; decide)], by rw [rrX, if_neg (by rw [e]; decide)]⟩

/-- .. and what is behind it does not matter. -/
theorem rr_first {v k : Int} (hv : isU32 v) (h0 : 0 ≤ k) (h1 : k ≤ 24) {ys : List Int} {m : Int} (hy : isByte ys) (hok : okB ys m = true) (hm : m ≤ 500) :
    let V := cdV v k + val ys * p2 (cdS v k)
    let L := bl (cdS v k + m) V
    okB L (cdS v k + m) = true ∧ rrE L (cdS v k + m) 0 k = 0 ∧ rrN L (cdS v k + m) 0 k = v ∧ rrX L (cdS v k + m) 0 k = cdS v k := by
  intro V L
  obtain ⟨hm0, _, _, hlt⟩ := okB_iff.1 hok
  have hs := cdS_bd hv.1 h0 h1
  have hr := cd_bd hv.1 h0 h1
  have hvn := val_nonneg hy
  have hp := p2_pos (cdS v k)
  have hV0 : 0 ≤ V := by have := Int.mul_nonneg hvn (show 0 ≤ p2 (cdS v k) by omega); omega
  have hV1 : V < p2 (cdS v k + m) := join_lt (by omega) hm0 hr.2 hlt
  have hL : okB L (cdS v k + m) = true := ok_bl (by omega) (by omega) hV0 hV1
  have hvL : val L = V := val_bl (by omega) hV0 hV1
  have h := rr_read (n := cdS v k + m) (p := 0) hL (by omega) hv.1 hv.2 h0 h1 (H := val ys) (by rw [hvL, p2_zero, Int.ediv_one]) (by omega)
  rw [Int.zero_add] at h
  exact ⟨hL, h⟩

set_option maxRecDepth 100000 in
set_option maxHeartbeats 8000000 in
theorem riceCut_walk (a0 : Int) (a1 : Int) (a2 : Int) (a30 : Option Addr) (l30 c30 : Nat) (x30 : List Int) (n31 : Int) (w : World) (b0 : 0 ≤ a0 ∧ a0 ≤ 4294967295) (b1 : -9223372036854775808 ≤ a1 ∧ a1 ≤ 9223372036854775807) (b2 : -9223372036854775808 ≤ a2 ∧ a2 ≤ 9223372036854775807) (r30 : RowIn .u8 w a30 l30 c30 x30) (b31 : -9223372036854775808 ≤ n31 ∧ n31 ≤ 9223372036854775807) :
    Calls Try.prog 8 #[.int .u32 a0, .int .i64 a1, .int .i64 a2, .agg #[.slice a30 l30 c30, .int .i64 n31]] w fun e w' => e = .returned (.bool true) ∧ Below w.heap.size w w' := by
  by_cases t0 : a1 < 0
  · have f0 : (a1 < 0) = True := eq_true t0
    go_enter Try.func8, Try.ntmps8
    go_wp2_with ((go_at_call 14; (with_reducible refine (alive7_any _).mono ?_); rintro e wA ⟨rfl, hbA⟩))
    go_ret
    exact ⟨rfl, (below1 w _).trans (hbA.mono (by simp))⟩
  have f0 : (a1 < 0) = False := eq_false t0
  by_cases t1 : 24 < a1
  · have f1 : (24 < a1) = True := eq_true t1
    go_enter Try.func8, Try.ntmps8
    go_wp2_with ((go_at_call 14; (with_reducible refine (alive7_any _).mono ?_); rintro e wA ⟨rfl, hbA⟩))
    go_ret
    exact ⟨rfl, (below1 w _).trans (hbA.mono (by simp))⟩
  have f1 : (24 < a1) = False := eq_false t1
  have hC := fun w' (r : RowIn .u8 w' a30 l30 c30 x30) => rcheck_any a30 l30 c30 x30 n31 w' r b31
  unfold bv at hC
  by_cases hok : okB x30 n31 = true
  · have e1 : chkE x30 n31 = 0 := by simp [chkE, hok]
    simp only [e1] at hC
    obtain ⟨hn0, hn1, hxl, hval⟩ := okB_iff.1 hok
    have hby := byte_of r30.rd
    by_cases t2 : 500 < n31
    · have f2 : (500 < n31) = True := eq_true t2
      go_enter Try.func8, Try.ntmps8
      go_wp2_with (first | ((with_reducible refine (hC _ (r30.same (below1 w _))).mono ?_); rintro e w1 ⟨rfl, hb1⟩; rw [size1] at hb1; have hB1 := (below1 w _).trans (hb1.mono (by omega)); have z1 := hb1.size; rw [size1] at z1; have Xb_1 := (Box2.of (blk1 w _)).below hb1 (by omega); have cb0_1 := Xb_1.c0; have cb1_1 := Xb_1.c1; have lb_1 : w.heap.size < w1.heap.size := (by omega)) | (go_at_call 14; (with_reducible refine (alive7_any _).mono ?_); rintro e wA ⟨rfl, hbA⟩))
      go_ret
      exact ⟨rfl, hB1.trans (hbA.mono hB1.size)⟩
    have f2 : (500 < n31) = False := eq_false t2
    obtain ⟨rE1, rL1, rN1, rK1, rV1⟩ := rw_nil (v := a0) (k := a1) b0 (by omega) (by omega)
    have hW := fun w' => rwr_any none 0 0 [] 0 a0 a1 w' RowIn.nil (isInt_small (by decide) (by decide)) b0 b1
    simp only [rE1, rL1, rN1] at hW
    have s1 := cdS_bd (v := a0) (k := a1) b0.1 (by omega) (by omega)
    obtain ⟨dK, dE, dN, dX⟩ := rr_first (v := a0) (k := a1) b0 (by omega) (by omega) hby hok (by omega)
    have hcut : ∀ s, 0 ≤ s → s < cdS a0 a1 → cuE (bl (cdS a0 a1) (cdV a0 a1)) (cdS a0 a1) 0 s = 0 ∧ cuL (bl (cdS a0 a1) (cdV a0 a1)) (cdS a0 a1) 0 s = bl s (cdV a0 a1 % p2 s) ∧ cuN (bl (cdS a0 a1) (cdV a0 a1)) (cdS a0 a1) 0 s = s := by
      intro s k0 k1
      have e : cuE (bl (cdS a0 a1) (cdV a0 a1)) (cdS a0 a1) 0 s = 0 := by rw [cuE, if_pos rK1, if_neg (by omega)]
      exact ⟨e, by rw [cuL, if_pos e, rV1, p2_zero, Int.ediv_one, Int.sub_zero], by rw [cuN, if_pos e, Int.sub_zero]⟩
    have jE : joE (bl (cdS a0 a1) (cdV a0 a1)) (cdS a0 a1) x30 n31 = 0 := by rw [joE, if_pos rK1, if_pos hok, if_neg (by omega)]
    have jL : joL (bl (cdS a0 a1) (cdV a0 a1)) (cdS a0 a1) x30 n31 = bl (cdS a0 a1 + n31) (cdV a0 a1 + val x30 * p2 (cdS a0 a1)) := by rw [joL, if_pos jE, rV1]
    have jN : joN (bl (cdS a0 a1) (cdV a0 a1)) (cdS a0 a1) x30 n31 = cdS a0 a1 + n31 := by rw [joN, if_pos jE]
    have hpart := fun s h1 h2 => rr_part (v := a0) (k := a1) (s := s) b0 (by omega) (by omega) h1 h2
    obtain ⟨X, hX⟩ : ∃ X, bl (cdS a0 a1) (cdV a0 a1) = X := ⟨_, rfl⟩
    obtain ⟨Y, hY⟩ : ∃ X, bl (cdS a0 a1 + n31) (cdV a0 a1 + val x30 * p2 (cdS a0 a1)) = X := ⟨_, rfl⟩
    obtain ⟨V, hV⟩ : ∃ X, cdV a0 a1 = X := ⟨_, rfl⟩
    obtain ⟨N, hN⟩ : ∃ X, cdS a0 a1 = X := ⟨_, rfl⟩
    obtain ⟨lX, elX⟩ : ∃ l, X.length = l := ⟨_, rfl⟩
    obtain ⟨lY, elY⟩ : ∃ l, Y.length = l := ⟨_, rfl⟩
    simp only [hX] at hW jE jL jN rK1 hcut
    simp only [hY] at jL dE dN dX
    simp only [hV] at hcut hpart
    simp only [hN] at hW jE jL jN dE dN dX s1 hcut hpart
    have hJ := fun a q w' (r : RowIn .u8 w' a lX q X) (r' : RowIn .u8 w' a30 l30 c30 x30) => join_any a lX q X N a30 l30 c30 x30 n31 w' r (isInt_small (by omega) (by omega)) r' b31
    simp only [jE, jL, jN, elY] at hJ
    simp only [elX] at hW
    have hR := fun a q w' (r : RowIn .u8 w' a lY q Y) => rrd_any a lY q Y (N + n31) 0 a1 w' r (isInt_small (by omega) (by omega)) (isInt_small (by omega) (by omega)) b1
    simp only [dE, dN, dX] at hR
    unfold bv at hW hJ hR
    clear e1 jE jL jN dE dN dX dK rE1 rL1 rN1 rV1 hX hY hN hV elY hok hxl hval hby
    by_cases t3 : a2 < 0
    · have f3 : (a2 < 0) = True := eq_true t3
      go_enter Try.func8, Try.ntmps8
      go_wp2_with (first | ((with_reducible refine (hC _ (r30.same (below1 w _))).mono ?_); rintro e w1 ⟨rfl, hb1⟩; rw [size1] at hb1; have hB1 := (below1 w _).trans (hb1.mono (by omega)); have z1 := hb1.size; rw [size1] at z1; have Xb_1 := (Box2.of (blk1 w _)).below hb1 (by omega); have cb0_1 := Xb_1.c0; have cb1_1 := Xb_1.c1; have lb_1 : w.heap.size < w1.heap.size := (by omega)) | ((with_reducible refine (hW _ ).mono ?_); rintro e w2 ⟨a2, q2, rfl, h2, hb2, -⟩; have hq2 := hb2; have z2 := hb2.size; have hB2 := hB1.trans (hq2.mono hB1.size); have Xb_2 := Xb_1.below hq2 (by omega); have Rx_2 := h2; have cb0_2 := Xb_2.c0; have cb1_2 := Xb_2.c1; have lb_2 : w.heap.size < w2.heap.size := (by omega); clear cb0_1 cb1_1 lb_1) | ((with_reducible refine (hJ _ _ _ (Rx_2.same (below1 w2 _)) (r30.same (hB2.trans ((below1 w2 _).mono hB2.size)))).mono ?_); rintro e w3 ⟨a3, q3, rfl, h3, hb3, -⟩; rw [size1] at hb3; have hq3 := (below1 w2 _).trans (hb3.mono (Nat.le_succ _)); have z3 := hb3.size; rw [size1] at z3; have hB3 := hB2.trans (hq3.mono hB2.size); have Xb_3 := Xb_2.below hq3 (by omega); have Xx_3 := (Box2.of (blk1 w2 _)).below hb3 (Nat.lt_succ_self _); have Rx_3 := Rx_2.same hq3; have Ry_3 := h3; have cb0_3 := Xb_3.c0; have cb1_3 := Xb_3.c1; have lb_3 : w.heap.size < w3.heap.size := (by omega); have cx0_3 := Xx_3.c0; have cx1_3 := Xx_3.c1; have lx_3 : w2.heap.size < w3.heap.size := (by omega); clear cb0_2 cb1_2 lb_2) | ((with_reducible refine (hR _ _ _ (Ry_3.same (below1 w3 _))).mono ?_); rintro e w4 ⟨rfl, hb4⟩; rw [size1] at hb4; have hq4 := (below1 w3 _).trans (hb4.mono (Nat.le_succ _)); have z4 := hb4.size; rw [size1] at z4; have hB4 := hB3.trans (hq4.mono hB3.size); have Xb_4 := Xb_3.below hq4 (by omega); have Xx_4 := Xx_3.below hq4 (by omega); have Xy_4 := (Box2.of (blk1 w3 _)).below hb4 (Nat.lt_succ_self _); have Rx_4 := Rx_3.same hq4; have Ry_4 := Ry_3.same hq4; have cb0_4 := Xb_4.c0; have cb1_4 := Xb_4.c1; have lb_4 : w.heap.size < w4.heap.size := (by omega); have cx0_4 := Xx_4.c0; have cx1_4 := Xx_4.c1; have lx_4 : w2.heap.size < w4.heap.size := (by omega); have cy0_4 := Xy_4.c0; have cy1_4 := Xy_4.c1; have ly_4 : w3.heap.size < w4.heap.size := (by omega); clear cb0_3 cb1_3 lb_3 cx0_3 cx1_3 lx_3) | (go_at_call 14; (with_reducible refine (alive7_any _).mono ?_); rintro e wA ⟨rfl, hbA⟩))
      go_ret
      exact ⟨rfl, hB4.trans (hbA.mono hB4.size)⟩
    have f3 : (a2 < 0) = False := eq_false t3
    by_cases t4 : N ≤ a2
    · have f4 : (N ≤ a2) = True := eq_true t4
      go_enter Try.func8, Try.ntmps8
      go_wp2_with (first | ((with_reducible refine (hC _ (r30.same (below1 w _))).mono ?_); rintro e w1 ⟨rfl, hb1⟩; rw [size1] at hb1; have hB1 := (below1 w _).trans (hb1.mono (by omega)); have z1 := hb1.size; rw [size1] at z1; have Xb_1 := (Box2.of (blk1 w _)).below hb1 (by omega); have cb0_1 := Xb_1.c0; have cb1_1 := Xb_1.c1; have lb_1 : w.heap.size < w1.heap.size := (by omega)) | ((with_reducible refine (hW _ ).mono ?_); rintro e w2 ⟨a2, q2, rfl, h2, hb2, -⟩; have hq2 := hb2; have z2 := hb2.size; have hB2 := hB1.trans (hq2.mono hB1.size); have Xb_2 := Xb_1.below hq2 (by omega); have Rx_2 := h2; have cb0_2 := Xb_2.c0; have cb1_2 := Xb_2.c1; have lb_2 : w.heap.size < w2.heap.size := (by omega); clear cb0_1 cb1_1 lb_1) | ((with_reducible refine (hJ _ _ _ (Rx_2.same (below1 w2 _)) (r30.same (hB2.trans ((below1 w2 _).mono hB2.size)))).mono ?_); rintro e w3 ⟨a3, q3, rfl, h3, hb3, -⟩; rw [size1] at hb3; have hq3 := (below1 w2 _).trans (hb3.mono (Nat.le_succ _)); have z3 := hb3.size; rw [size1] at z3; have hB3 := hB2.trans (hq3.mono hB2.size); have Xb_3 := Xb_2.below hq3 (by omega); have Xx_3 := (Box2.of (blk1 w2 _)).below hb3 (Nat.lt_succ_self _); have Rx_3 := Rx_2.same hq3; have Ry_3 := h3; have cb0_3 := Xb_3.c0; have cb1_3 := Xb_3.c1; have lb_3 : w.heap.size < w3.heap.size := (by omega); have cx0_3 := Xx_3.c0; have cx1_3 := Xx_3.c1; have lx_3 : w2.heap.size < w3.heap.size := (by omega); clear cb0_2 cb1_2 lb_2) | ((with_reducible refine (hR _ _ _ (Ry_3.same (below1 w3 _))).mono ?_); rintro e w4 ⟨rfl, hb4⟩; rw [size1] at hb4; have hq4 := (below1 w3 _).trans (hb4.mono (Nat.le_succ _)); have z4 := hb4.size; rw [size1] at z4; have hB4 := hB3.trans (hq4.mono hB3.size); have Xb_4 := Xb_3.below hq4 (by omega); have Xx_4 := Xx_3.below hq4 (by omega); have Xy_4 := (Box2.of (blk1 w3 _)).below hb4 (Nat.lt_succ_self _); have Rx_4 := Rx_3.same hq4; have Ry_4 := Ry_3.same hq4; have cb0_4 := Xb_4.c0; have cb1_4 := Xb_4.c1; have lb_4 : w.heap.size < w4.heap.size := (by omega); have cx0_4 := Xx_4.c0; have cx1_4 := Xx_4.c1; have lx_4 : w2.heap.size < w4.heap.size := (by omega); have cy0_4 := Xy_4.c0; have cy1_4 := Xy_4.c1; have ly_4 : w3.heap.size < w4.heap.size := (by omega); clear cb0_3 cb1_3 lb_3 cx0_3 cx1_3 lx_3) | (go_at_call 14; (with_reducible refine (alive7_any _).mono ?_); rintro e wA ⟨rfl, hbA⟩))
      go_ret
      exact ⟨rfl, hB4.trans (hbA.mono hB4.size)⟩
    have f4 : (N ≤ a2) = False := eq_false t4
    obtain ⟨cE, cL, cN⟩ := hcut a2 (by omega) (by omega)
    obtain ⟨pK, pE, pN, pX⟩ := hpart a2 (by omega) (by omega)
    have hK := fun a q w' (r : RowIn .u8 w' a lX q X) => cut_any a lX q X N 0 a2 w' r (isInt_small (by omega) (by omega)) (isInt_small (by omega) (by omega)) b2
    obtain ⟨Z, hZ⟩ : ∃ X, bl a2 (V % p2 a2) = X := ⟨_, rfl⟩
    rw [hZ] at cL pE pN pX
    obtain ⟨lZ, elZ⟩ : ∃ l, Z.length = l := ⟨_, rfl⟩
    simp only [cE, cL, cN, elZ] at hK
    have hQ := fun a q w' (r : RowIn .u8 w' a lZ q Z) => rrd_any a lZ q Z a2 0 a1 w' r b2 (isInt_small (by omega) (by omega)) b1
    simp only [pE, pN, pX] at hQ
    unfold bv at hK hQ
    clear cE cL cN pK pE pN pX hZ elZ hcut hpart elX rK1
    go_enter Try.func8, Try.ntmps8
    go_wp2_with (first | ((with_reducible refine (hC _ (r30.same (below1 w _))).mono ?_); rintro e w1 ⟨rfl, hb1⟩; rw [size1] at hb1; have hB1 := (below1 w _).trans (hb1.mono (by omega)); have z1 := hb1.size; rw [size1] at z1; have Xb_1 := (Box2.of (blk1 w _)).below hb1 (by omega); have cb0_1 := Xb_1.c0; have cb1_1 := Xb_1.c1; have lb_1 : w.heap.size < w1.heap.size := (by omega)) | ((with_reducible refine (hW _ ).mono ?_); rintro e w2 ⟨a2, q2, rfl, h2, hb2, -⟩; have hq2 := hb2; have z2 := hb2.size; have hB2 := hB1.trans (hq2.mono hB1.size); have Xb_2 := Xb_1.below hq2 (by omega); have Rx_2 := h2; have cb0_2 := Xb_2.c0; have cb1_2 := Xb_2.c1; have lb_2 : w.heap.size < w2.heap.size := (by omega); clear cb0_1 cb1_1 lb_1) | ((with_reducible refine (hJ _ _ _ (Rx_2.same (below1 w2 _)) (r30.same (hB2.trans ((below1 w2 _).mono hB2.size)))).mono ?_); rintro e w3 ⟨a3, q3, rfl, h3, hb3, -⟩; rw [size1] at hb3; have hq3 := (below1 w2 _).trans (hb3.mono (Nat.le_succ _)); have z3 := hb3.size; rw [size1] at z3; have hB3 := hB2.trans (hq3.mono hB2.size); have Xb_3 := Xb_2.below hq3 (by omega); have Xx_3 := (Box2.of (blk1 w2 _)).below hb3 (Nat.lt_succ_self _); have Rx_3 := Rx_2.same hq3; have Ry_3 := h3; have cb0_3 := Xb_3.c0; have cb1_3 := Xb_3.c1; have lb_3 : w.heap.size < w3.heap.size := (by omega); have cx0_3 := Xx_3.c0; have cx1_3 := Xx_3.c1; have lx_3 : w2.heap.size < w3.heap.size := (by omega); clear cb0_2 cb1_2 lb_2) | ((with_reducible refine (hR _ _ _ (Ry_3.same (below1 w3 _))).mono ?_); rintro e w4 ⟨rfl, hb4⟩; rw [size1] at hb4; have hq4 := (below1 w3 _).trans (hb4.mono (Nat.le_succ _)); have z4 := hb4.size; rw [size1] at z4; have hB4 := hB3.trans (hq4.mono hB3.size); have Xb_4 := Xb_3.below hq4 (by omega); have Xx_4 := Xx_3.below hq4 (by omega); have Xy_4 := (Box2.of (blk1 w3 _)).below hb4 (Nat.lt_succ_self _); have Rx_4 := Rx_3.same hq4; have Ry_4 := Ry_3.same hq4; have cb0_4 := Xb_4.c0; have cb1_4 := Xb_4.c1; have lb_4 : w.heap.size < w4.heap.size := (by omega); have cx0_4 := Xx_4.c0; have cx1_4 := Xx_4.c1; have lx_4 : w2.heap.size < w4.heap.size := (by omega); have cy0_4 := Xy_4.c0; have cy1_4 := Xy_4.c1; have ly_4 : w3.heap.size < w4.heap.size := (by omega); clear cb0_3 cb1_3 lb_3 cx0_3 cx1_3 lx_3) | ((with_reducible refine (hK _ _ _ Rx_4).mono ?_); rintro e w5 ⟨a5, q5, rfl, h5, hb5, -⟩; have hq5 := hb5; have z5 := hb5.size; have hB5 := hB4.trans (hq5.mono hB4.size); have Xb_5 := Xb_4.below hq5 (by omega); have Xx_5 := Xx_4.below hq5 (by omega); have Xy_5 := Xy_4.below hq5 (by omega); have Rx_5 := Rx_4.same hq5; have Ry_5 := Ry_4.same hq5; have Rz_5 := h5; have cb0_5 := Xb_5.c0; have cb1_5 := Xb_5.c1; have lb_5 : w.heap.size < w5.heap.size := (by omega); have cx0_5 := Xx_5.c0; have cx1_5 := Xx_5.c1; have lx_5 : w2.heap.size < w5.heap.size := (by omega); have cy0_5 := Xy_5.c0; have cy1_5 := Xy_5.c1; have ly_5 : w3.heap.size < w5.heap.size := (by omega); clear cb0_4 cb1_4 lb_4 cx0_4 cx1_4 lx_4 cy0_4 cy1_4 ly_4) | ((with_reducible refine (hQ _ _ _ (Rz_5.same (below1 w5 _))).mono ?_); rintro e w6 ⟨rfl, hb6⟩; rw [size1] at hb6; have hq6 := (below1 w5 _).trans (hb6.mono (Nat.le_succ _)); have z6 := hb6.size; rw [size1] at z6; have hB6 := hB5.trans (hq6.mono hB5.size); have Xb_6 := Xb_5.below hq6 (by omega); have Xx_6 := Xx_5.below hq6 (by omega); have Xy_6 := Xy_5.below hq6 (by omega); have Xz_6 := (Box2.of (blk1 w5 _)).below hb6 (Nat.lt_succ_self _); have Rx_6 := Rx_5.same hq6; have Ry_6 := Ry_5.same hq6; have Rz_6 := Rz_5.same hq6; have cb0_6 := Xb_6.c0; have cb1_6 := Xb_6.c1; have lb_6 : w.heap.size < w6.heap.size := (by omega); have cx0_6 := Xx_6.c0; have cx1_6 := Xx_6.c1; have lx_6 : w2.heap.size < w6.heap.size := (by omega); have cy0_6 := Xy_6.c0; have cy1_6 := Xy_6.c1; have ly_6 : w3.heap.size < w6.heap.size := (by omega); have cz0_6 := Xz_6.c0; have cz1_6 := Xz_6.c1; have lz_6 : w5.heap.size < w6.heap.size := (by omega); clear cb0_5 cb1_5 lb_5 cx0_5 cx1_5 lx_5 cy0_5 cy1_5 ly_5) | (go_at_call 14; (with_reducible refine (alive7_any _).mono ?_); rintro e wA ⟨rfl, hbA⟩))
    go_ret
    exact ⟨rfl, hB6.trans (hbA.mono hB6.size)⟩
  · have e1 : chkE x30 n31 = 8 := by simp [chkE, hok]
    simp only [e1] at hC
    go_enter Try.func8, Try.ntmps8
    go_wp2_with (first | ((with_reducible refine (hC _ (r30.same (below1 w _))).mono ?_); rintro e w1 ⟨rfl, hb1⟩; rw [size1] at hb1; have hB1 := (below1 w _).trans (hb1.mono (by omega)); have z1 := hb1.size; rw [size1] at z1; have Xb_1 := (Box2.of (blk1 w _)).below hb1 (by omega); have cb0_1 := Xb_1.c0; have cb1_1 := Xb_1.c1; have lb_1 : w.heap.size < w1.heap.size := (by omega)) | (go_at_call 14; (with_reducible refine (alive7_any _).mono ?_); rintro e wA ⟨rfl, hbA⟩))
    go_ret
    exact ⟨rfl, hB1.trans (hbA.mono hB1.size)⟩
end Go.Proofs.Ytcnlnkknfcmbhaa.Wk

/- The law ResumeWaits. -/
import Derived.Test.YtmnhepcnbdbhoaaLaw10
namespace Go.Proofs.Ytmnhepcnbdbhoaa.Wk
open Go.Proofs Go.RowKit Go.Proofs.Ytmnhepcnbdbhoaa.Kit Go.Proofs.Ytmnhepcnbdbhoaa.M01 Go.Proofs.Ytmnhepcnbdbhoaa.M02 Go.Proofs.Ytmnhepcnbdbhoaa.M05 Go.Proofs.Ytmnhepcnbdbhoaa.M06 Go.Proofs.Ytmnhepcnbdbhoaa.M07 Go.Proofs.Ytmnhepcnbdbhoaa.M08 Go.Proofs.Ytmnhepcnbdbhoaa.M10 Go.Proofs.Ytmnhepcnbdbhoaa.Bt Go.Proofs.Ytmnhepcnbdbhoaa.R02 Go.Proofs.Ytmnhepcnbdbhoaa.R10 Go.Proofs.Ytmnhepcnbdbhoaa.Rs
set_option linter.unusedVariables false
set_option linter.unusedSimpArgs false

set_option maxRecDepth 100000 in
set_option maxHeartbeats 8000000 in
theorem resumeWaits_walk (a0 : Option Addr) (l0 c0 : Nat) (x0 : List Int) (a1 : Int) (w : World) (r0 : RowIn .u8 w a0 l0 c0 x0) (b1 : -9223372036854775808 ≤ a1 ∧ a1 ≤ 9223372036854775807) :
    Calls Try.prog 8 #[.slice a0 l0 c0, .int .i64 a1] w fun e w' => e = .returned (.bool true) ∧ Below w.heap.size w w' := by
  have h0 := r0.hl
  have hcc := r0.hc
  have hmm := r0.hm
  have hA := fun w' => alive10_any w'
  by_cases t0 : 190 < (l0 : Int)
  · have f0 : (190 < (l0 : Int)) = True := eq_true t0
    go_enter Try.func8, Try.ntmps8
    go_wp2_with ((go_at_call 14; (with_reducible refine (alive10_any _).mono ?_); rintro e wA ⟨rfl, hbA⟩))
    go_ret
    exact ⟨rfl, hbA⟩
  have f0 : (190 < (l0 : Int)) = False := eq_false t0
  by_cases t1 : a1 < 0
  · have f1 : (a1 < 0) = True := eq_true t1
    go_enter Try.func8, Try.ntmps8
    go_wp2_with ((go_at_call 14; (with_reducible refine (alive10_any _).mono ?_); rintro e wA ⟨rfl, hbA⟩))
    go_ret
    exact ⟨rfl, hbA⟩
  have f1 : (a1 < 0) = False := eq_false t1
  by_cases t2 : 4000 < a1
  · have f2 : (4000 < a1) = True := eq_true t2
    go_enter Try.func8, Try.ntmps8
    go_wp2_with ((go_at_call 14; (with_reducible refine (alive10_any _).mono ?_); rintro e wA ⟨rfl, hbA⟩))
    go_ret
    exact ⟨rfl, hbA⟩
  have f2 : (4000 < a1) = False := eq_false t2
  obtain ⟨k1, k2⟩ := st_ok (m := a1) (by omega) (by omega)
  obtain ⟨e1, e2⟩ := rs_eq (m := a1) (by omega) (by omega)
  have hS := fun w' => start10_any a1 w' b1
  rw [e1, e2] at hS
  have hF := fun w' (r : RowIn .u8 w' a0 l0 c0 x0) => feed_any none 0 0 (stR a1) a0 l0 c0 x0 w' RowIn.nil k2 r
  have hEE : reE (stR a1) x0 = rvE (stR a1) x0 := by rw [reE, if_pos k1, if_neg (by omega)]
  have hbb := byte_of r0.rd
  by_cases g : rvE (stR a1) x0 = 0
  case neg =>
    have g2 : rvE (stR a1) x0 = 12 ∨ rvE (stR a1) x0 = 38 := by
      rcases rv_err k2 k1 hbb (by omega) with q | q | q
      · exact absurd q g
      · exact .inl q
      · exact .inr q
    have hZ : reR (stR a1) x0 = zR ∧ reV (stR a1) x0 = [] := by rw [reR, reV, hEE, if_neg g, if_neg g]; exact ⟨rfl, rfl⟩
    rw [hEE, hZ.1, hZ.2] at hF
    rcases g2 with g2 | g2
    all_goals
      rw [g2] at hF
      clear g g2 hEE hZ e1 e2 k1 k2 hA
      unfold vR at hS hF
      unfold stR stD at hS hF
      unfold zR zD at hF
      simp only [List.length_nil] at hS hF
      go_enter Try.func8, Try.ntmps8
      go_wp2_with (first | ((with_reducible refine (hS _ ).mono ?_); rintro e w1 ⟨rfl, hb1⟩; have z1 := hb1.size; have hq1 : Below w.heap.size w w1 := (Below.refl _ w).trans (hb1.mono (by omega)); have hB1 := hq1) | ((with_reducible refine (hF _ (r0.same (hB1.trans ((below1 w1 _).mono hB1.size)))).mono ?_); rintro e w2 ⟨a2, q2, p2, m2, rfl, h2, g2, hb2, -, -⟩; rw [size1] at hb2; have Rx_2 := h2; have Rm_2 := g2; have z2 := hb2.size; rw [size1] at z2; have hq2 : Below w1.heap.size w1 w2 := (below1 w1 _).trans (hb2.mono (by omega)); have hB2 := hB1.trans (hq2.mono hB1.size); have Xs_2 := (Box7.of (blk1 w1 _)).below hb2 (by omega); have cs0_2 := Xs_2.c0; have cs1_2 := Xs_2.c1; have cs2_2 := Xs_2.c2; have cs3_2 := Xs_2.c3; have cs4_2 := Xs_2.c4; have cs5_2 := Xs_2.c5; have cs6_2 := Xs_2.c6; have ls_2 : w1.heap.size < w2.heap.size := (by omega)) | (go_at_call 14; (with_reducible refine (alive10_any _).mono ?_); rintro e wA ⟨rfl, hbA⟩))
      go_ret
      exact ⟨rfl, hB2.trans (((below1 w2 _).trans (hbA.mono (by rw [size1]; omega))).mono hB2.size)⟩
  have hZ : reR (stR a1) x0 = rvR (stR a1) x0 ∧ reV (stR a1) x0 = ruL (stR a1) x0 := by rw [reR, reV, hEE, if_pos g, if_pos g]; exact ⟨rfl, rfl⟩
  rw [hEE, g, hZ.1, hZ.2] at hF
  obtain ⟨v1, v2, v3, v4, v5, v6⟩ := rv_waits (m := a1) (by omega) (by omega) hbb (by omega) g
  obtain ⟨y1, y2, y3, -⟩ := M09.c_en (l := ruL (stR a1) x0) v2
  obtain ⟨i1, i2, -⟩ := rv_ok k2 k1 hbb (by omega) g
  obtain ⟨o1, o2, o3⟩ := up_of (b := x0) (by omega)
  have hO := fun w' (r : RowIn .u8 w' a0 l0 c0 x0) => of_any a0 l0 c0 x0 w' r
  rw [o1, o2, o3] at hO
  generalize ruL (stR a1) x0 = L at hF v1 v2 v3 v4 v5 v6 y1 y2 y3
  generalize rvR (stR a1) x0 = S at hF i1 i2 v3 v4 v5
  have hE := fun a q w' (r : RowIn .u32 w' a L.length q L) => Co.enc_any a L.length q L w' r
  rw [y1, y2, y3] at hE
  obtain ⟨C, hC⟩ : ∃ C, M09.cL stD L = C := ⟨_, rfl⟩
  obtain ⟨N, hN⟩ : ∃ C, M09.cN stD L = C := ⟨_, rfl⟩
  have cn := M09.c_bd M09.isD_st' M09.okD_st v1 (by omega)
  simp only [hC, hN] at hE v3 v4 v5 v6 cn
  obtain ⟨sl, ⟨sa, sb, ss, st⟩, sx, sn⟩ := S
  have hJ := fun a q a' q' w' (r : RowIn .u8 w' a C.length q C) (r' : RowIn .u8 w' a' sx.length q' sx) => join_any a C.length q C N a' sx.length q' sx sn w' r (by unfold isInt; omega) r' i2.2.2.2
  simp only at v3 v4 v5
  rw [v3, v4, v5] at hJ
  have hT := fun a q a' q' w' (r : RowIn .u8 w' a x0.length q x0) (r' : RowIn .u8 w' a' x0.length q' x0) => R02.same_any a x0.length q x0 (8 * (x0.length : Int)) a' x0.length q' x0 (8 * (x0.length : Int)) w' r r'
  have es : sameB x0 (8 * (x0.length : Int)) x0 (8 * (x0.length : Int)) = true := by simp [sameB]
  simp only [es] at hT
  unfold vR at hS hF
  unfold stR stD at hS hF
  simp only at hS hF
  unfold bv at hE hJ hO hT
  obtain ⟨lL, hlL⟩ : ∃ l, L.length = l := ⟨_, rfl⟩
  obtain ⟨lC, hlC⟩ : ∃ l, C.length = l := ⟨_, rfl⟩
  obtain ⟨lX, hlX⟩ : ∃ l, sx.length = l := ⟨_, rfl⟩
  rw [hlL] at hF hE
  rw [hlC] at hE hJ
  rw [hlX] at hF hJ
  rw [h0] at hO hT hJ
  try simp only [List.length_nil] at hS hF
  clear g hEE hZ e1 e2 k1 k2 hA v1 v2 v3 v4 v5 v6 y1 y2 y3 i1 i2 o1 o2 o3 hC hN cn es hlL hlC hlX hbb h0
  go_enter Try.func8, Try.ntmps8
  go_wp2_with (first | ((with_reducible refine (hS _ ).mono ?_); rintro e w1 ⟨rfl, hb1⟩; have z1 := hb1.size; have hq1 : Below w.heap.size w w1 := (Below.refl _ w).trans (hb1.mono (by omega)); have hB1 := hq1) | ((with_reducible refine (hF _ (r0.same (hB1.trans ((below1 w1 _).mono hB1.size)))).mono ?_); rintro e w2 ⟨a2, q2, p2, m2, rfl, h2, g2, hb2, -, -⟩; rw [size1] at hb2; have Rx_2 := h2; have Rm_2 := g2; have z2 := hb2.size; rw [size1] at z2; have hq2 : Below w1.heap.size w1 w2 := (below1 w1 _).trans (hb2.mono (by omega)); have hB2 := hB1.trans (hq2.mono hB1.size); have Xs_2 := (Box7.of (blk1 w1 _)).below hb2 (by omega); have cs0_2 := Xs_2.c0; have cs1_2 := Xs_2.c1; have cs2_2 := Xs_2.c2; have cs3_2 := Xs_2.c3; have cs4_2 := Xs_2.c4; have cs5_2 := Xs_2.c5; have cs6_2 := Xs_2.c6; have ls_2 : w1.heap.size < w2.heap.size := (by omega)) | ((with_reducible refine (hE _ _ _ (Rm_2.same (below1 w2 _))).mono ?_); rintro e w3 ⟨a3, q3, rfl, h3, hb3, -⟩; rw [size1] at hb3; have z3 := hb3.size; rw [size1] at z3; have hq3 : Below w2.heap.size w2 w3 := (below1 w2 _).trans (hb3.mono (by omega)); have hB3 := hB2.trans (hq3.mono hB2.size); have Xs_3 := Xs_2.below hq3 (by omega); have Xx_3 := (Box7.of (blk1 w2 _)).below hb3 (by omega); have Rx_3 := Rx_2.same hq3; have Rm_3 := Rm_2.same hq3; have Rc_3 := h3; have cs0_3 := Xs_3.c0; have cs1_3 := Xs_3.c1; have cs2_3 := Xs_3.c2; have cs3_3 := Xs_3.c3; have cs4_3 := Xs_3.c4; have cs5_3 := Xs_3.c5; have cs6_3 := Xs_3.c6; have ls_3 : w1.heap.size < w3.heap.size := (by omega); have cx0_3 := Xx_3.c0; have cx1_3 := Xx_3.c1; have cx2_3 := Xx_3.c2; have cx3_3 := Xx_3.c3; have cx4_3 := Xx_3.c4; have cx5_3 := Xx_3.c5; have cx6_3 := Xx_3.c6; have lx_3 : w2.heap.size < w3.heap.size := (by omega); clear cs0_2 cs1_2 cs2_2 cs3_2 cs4_2 cs5_2 cs6_2 ls_2 Xs_2) | ((with_reducible refine (hJ _ _ _ _ _ (Rc_3.same (below1 w3 _)) (Rx_3.same (below1 w3 _))).mono ?_); rintro e w4 ⟨a4, q4, rfl, h4, hb4, -⟩; rw [size1] at hb4; have z4 := hb4.size; rw [size1] at z4; have hq4 : Below w3.heap.size w3 w4 := (below1 w3 _).trans (hb4.mono (by omega)); have hB4 := hB3.trans (hq4.mono hB3.size); have Xs_4 := Xs_3.below hq4 (by omega); have Xx_4 := Xx_3.below hq4 (by omega); have Xc_4 := (Box2.of (blk1 w3 _)).below hb4 (by omega); have Rx_4 := Rx_3.same hq4; have Rm_4 := Rm_3.same hq4; have Rc_4 := Rc_3.same hq4; have Rj_4 := h4; have cs0_4 := Xs_4.c0; have cs1_4 := Xs_4.c1; have cs2_4 := Xs_4.c2; have cs3_4 := Xs_4.c3; have cs4_4 := Xs_4.c4; have cs5_4 := Xs_4.c5; have cs6_4 := Xs_4.c6; have ls_4 : w1.heap.size < w4.heap.size := (by omega); have cx0_4 := Xx_4.c0; have cx1_4 := Xx_4.c1; have cx2_4 := Xx_4.c2; have cx3_4 := Xx_4.c3; have cx4_4 := Xx_4.c4; have cx5_4 := Xx_4.c5; have cx6_4 := Xx_4.c6; have lx_4 : w2.heap.size < w4.heap.size := (by omega); have cc0_4 := Xc_4.c0; have cc1_4 := Xc_4.c1; have lc_4 : w3.heap.size < w4.heap.size := (by omega); clear cs0_3 cs1_3 cs2_3 cs3_3 cs4_3 cs5_3 cs6_3 ls_3 Xs_3 cx0_3 cx1_3 cx2_3 cx3_3 cx4_3 cx5_3 cx6_3 lx_3 Xx_3) | ((with_reducible refine (hO _ (r0.same (hB4.trans ((below1 w4 _).mono hB4.size)))).mono ?_); rintro e w5 ⟨a5, q5, rfl, h5, hb5, -⟩; rw [size1] at hb5; have z5 := hb5.size; rw [size1] at z5; have hq5 : Below w4.heap.size w4 w5 := (below1 w4 _).trans (hb5.mono (by omega)); have hB5 := hB4.trans (hq5.mono hB4.size); have Xs_5 := Xs_4.below hq5 (by omega); have Xx_5 := Xx_4.below hq5 (by omega); have Xc_5 := Xc_4.below hq5 (by omega); have Xj_5 := (Box2.of (blk1 w4 _)).below hb5 (by omega); have Rx_5 := Rx_4.same hq5; have Rm_5 := Rm_4.same hq5; have Rc_5 := Rc_4.same hq5; have Rj_5 := Rj_4.same hq5; have Ro_5 := h5; have cs0_5 := Xs_5.c0; have cs1_5 := Xs_5.c1; have cs2_5 := Xs_5.c2; have cs3_5 := Xs_5.c3; have cs4_5 := Xs_5.c4; have cs5_5 := Xs_5.c5; have cs6_5 := Xs_5.c6; have ls_5 : w1.heap.size < w5.heap.size := (by omega); have cx0_5 := Xx_5.c0; have cx1_5 := Xx_5.c1; have cx2_5 := Xx_5.c2; have cx3_5 := Xx_5.c3; have cx4_5 := Xx_5.c4; have cx5_5 := Xx_5.c5; have cx6_5 := Xx_5.c6; have lx_5 : w2.heap.size < w5.heap.size := (by omega); have cc0_5 := Xc_5.c0; have cc1_5 := Xc_5.c1; have lc_5 : w3.heap.size < w5.heap.size := (by omega); have cj0_5 := Xj_5.c0; have cj1_5 := Xj_5.c1; have lj_5 : w4.heap.size < w5.heap.size := (by omega); clear cs0_4 cs1_4 cs2_4 cs3_4 cs4_4 cs5_4 cs6_4 ls_4 Xs_4 cx0_4 cx1_4 cx2_4 cx3_4 cx4_4 cx5_4 cx6_4 lx_4 Xx_4 cc0_4 cc1_4 lc_4 Xc_4) | ((with_reducible refine (hT _ _ _ _ _ (Rj_5.same (below1 w5 _)) (Ro_5.same (below1 w5 _))).mono ?_); rintro e w6 ⟨rfl, hb6⟩; rw [size1] at hb6; have z6 := hb6.size; rw [size1] at z6; have hq6 : Below w5.heap.size w5 w6 := (below1 w5 _).trans (hb6.mono (by omega)); have hB6 := hB5.trans (hq6.mono hB5.size); have Xs_6 := Xs_5.below hq6 (by omega); have Xx_6 := Xx_5.below hq6 (by omega); have Xc_6 := Xc_5.below hq6 (by omega); have Xj_6 := Xj_5.below hq6 (by omega); have Xo_6 := (Box2.of (blk1 w5 _)).below hb6 (by omega); have Rx_6 := Rx_5.same hq6; have Rm_6 := Rm_5.same hq6; have Rc_6 := Rc_5.same hq6; have Rj_6 := Rj_5.same hq6; have Ro_6 := Ro_5.same hq6; have cs0_6 := Xs_6.c0; have cs1_6 := Xs_6.c1; have cs2_6 := Xs_6.c2; have cs3_6 := Xs_6.c3; have cs4_6 := Xs_6.c4; have cs5_6 := Xs_6.c5; have cs6_6 := Xs_6.c6; have ls_6 : w1.heap.size < w6.heap.size := (by omega); have cx0_6 := Xx_6.c0; have cx1_6 := Xx_6.c1; have cx2_6 := Xx_6.c2; have cx3_6 := Xx_6.c3; have cx4_6 := Xx_6.c4; have cx5_6 := Xx_6.c5; have cx6_6 := Xx_6.c6; have lx_6 : w2.heap.size < w6.heap.size := (by omega); have cc0_6 := Xc_6.c0; have cc1_6 := Xc_6.c1; have lc_6 : w3.heap.size < w6.heap.size := (by omega); have cj0_6 := Xj_6.c0; have cj1_6 := Xj_6.c1; have lj_6 : w4.heap.size < w6.heap.size := (by omega); have co0_6 := Xo_6.c0; have co1_6 := Xo_6.c1; have lo_6 : w5.heap.size < w6.heap.size := (by omega); clear cs0_5 cs1_5 cs2_5 cs3_5 cs4_5 cs5_5 cs6_5 ls_5 Xs_5 cx0_5 cx1_5 cx2_5 cx3_5 cx4_5 cx5_5 cx6_5 lx_5 Xx_5 cc0_5 cc1_5 lc_5 Xc_5 cj0_5 cj1_5 lj_5 Xj_5) | (go_at_call 14; (with_reducible refine (alive10_any _).mono ?_); rintro e wA ⟨rfl, hbA⟩))
  go_ret
  exact ⟨rfl, hB6.trans (hbA.mono hB6.size)⟩
end Go.Proofs.Ytmnhepcnbdbhoaa.Wk

/- The law CoderBack. -/
import Derived.Test.YtogoiolpngbodaaLaw09
namespace Go.Proofs.Ytogoiolpngbodaa.Wk
open Go.Proofs Go.RowKit Go.Proofs.Ytogoiolpngbodaa.Kit Go.Proofs.Ytogoiolpngbodaa.M01 Go.Proofs.Ytogoiolpngbodaa.M02 Go.Proofs.Ytogoiolpngbodaa.M05 Go.Proofs.Ytogoiolpngbodaa.M06 Go.Proofs.Ytogoiolpngbodaa.M07 Go.Proofs.Ytogoiolpngbodaa.M08 Go.Proofs.Ytogoiolpngbodaa.M09 Go.Proofs.Ytogoiolpngbodaa.Bt Go.Proofs.Ytogoiolpngbodaa.R02 Go.Proofs.Ytogoiolpngbodaa.Co Go.Proofs.Ytogoiolpngbodaa.R09
set_option linter.unusedVariables false
set_option linter.unusedSimpArgs false

/-- What was coded, with other bits behind, is read. -/
theorem back9 {l ys : List Int} {n : Int} (hb : isByte ys) (hl : okV l) (hlen : l.length ≤ 150) (hy : okB ys n = true) (hn : n ≤ 500) :
    enE l = 0 ∧ 0 ≤ enN l ∧ enN l ≤ 81 * l.length ∧ joE (enL l) (enN l) ys n = 0 ∧ 0 ≤ joN (enL l) (enN l) ys n ∧ joN (enL l) (enN l) ys n ≤ 20000 ∧ M09.deE (joL (enL l) (enN l) ys n) (joN (enL l) (enN l) ys n) l.length = 0 ∧ deL (joL (enL l) (enN l) ys n) (joN (enL l) (enN l) ys n) l.length = l ∧ deX (joL (enL l) (enN l) ys n) (joN (enL l) (enN l) ys n) l.length = enN l := by
  obtain ⟨e1, e2, e3, -⟩ := c_en (l := l) (by omega)
  obtain ⟨b1, b2, b3, b4, b5, b6⟩ := c_bd isD_st' okD_st hl (by omega)
  obtain ⟨y1, y2, y3, y4⟩ := okB_iff.1 hy
  have hv := val_nonneg hb
  rw [e1, e2, e3]
  have eJ : joE (cL stD l) (cN stD l) ys n = 0 := by rw [joE, if_pos b5, if_pos hy, if_neg (by omega)]
  have eL : joL (cL stD l) (cN stD l) ys n = bl (cN stD l + n) (cV stD l + val ys * p2 (cN stD l)) := by rw [joL, if_pos eJ, b6]
  have eN : joN (cL stD l) (cN stD l) ys n = cN stD l + n := by rw [joN, if_pos eJ]
  have h1 := join_lt b1 y1 b4 y4
  have hp := p2_pos (cN stD l)
  have h0 : 0 ≤ cV stD l + val ys * p2 (cN stD l) := by have := Int.mul_nonneg hv (show 0 ≤ p2 (cN stD l) by omega); omega
  rw [eL, eN, eJ]
  have hok : okB (bl (cN stD l + n) (cV stD l + val ys * p2 (cN stD l))) (cN stD l + n) = true := ok_bl (by omega) (by omega) h0 h1
  have hval : val (bl (cN stD l + n) (cV stD l + val ys * p2 (cN stD l))) = cV stD l + val ys * p2 (cN stD l) := val_bl (by omega) h0 h1
  have q1 : MP.jN 0 (pcd stD l) = cN stD l := by unfold MP.jN cN; omega
  have q2 : MP.jV 0 0 (pcd stD l) = cV stD l := by unfold MP.jV cV; rw [p2_zero]; omega
  obtain ⟨d1, d2, d3⟩ := de_code (l := l) (H := val ys) hl (by omega) hok (by rw [hval, q1, q2]) (by omega)
  exact ⟨rfl, b1, b2, rfl, by omega, by omega, d1, d2, by rw [d3, q1]⟩

set_option maxRecDepth 100000 in
set_option maxHeartbeats 8000000 in
theorem coderBack_walk (a0 : Option Addr) (l0 c0 : Nat) (x0 : List Int) (a10 : Option Addr) (l10 c10 : Nat) (x10 : List Int) (n11 : Int) (w : World) (r0 : RowIn .u32 w a0 l0 c0 x0) (r10 : RowIn .u8 w a10 l10 c10 x10) (b11 : -9223372036854775808 ≤ n11 ∧ n11 ≤ 9223372036854775807) :
    Calls Try.prog 6 #[.slice a0 l0 c0, .agg #[.slice a10 l10 c10, .int .i64 n11]] w fun e w' => e = .returned (.bool true) ∧ Below w.heap.size w w' := by
  have h0 := r0.hl
  have hC := fun w' (r : RowIn .u8 w' a10 l10 c10 x10) => rcheck_any a10 l10 c10 x10 n11 w' r b11
  unfold bv at hC
  by_cases t0 : 150 < l0
  · have f0 : (150 < (l0 : Int)) = True := eq_true (by omega)
    go_enter Try.func6, Try.ntmps6
    go_wp2_with (first | ((with_reducible refine (alive9_any _).mono ?_); rintro e wA ⟨rfl, hbA⟩; rw [size1] at hbA))
    go_ret
    exact ⟨rfl, (below1 w _).trans (hbA.mono (by omega))⟩
  have f0 : (150 < (l0 : Int)) = False := eq_false (by omega)
  by_cases hok : okB x10 n11 = true
  case neg =>
    have e1 : chkE x10 n11 = 8 := by simp [chkE, hok]
    simp only [e1] at hC
    clear hok e1
    go_enter Try.func6, Try.ntmps6
    go_wp2_with (first | ((with_reducible refine (hC _ (r10.same ((below1 w _)))).mono ?_); rintro e w1 ⟨rfl, hb1⟩; rw [size1] at hb1; have z1 := hb1.size; rw [size1] at z1; have hq1 : Below w.heap.size w w1 := (below1 w _).trans (hb1.mono (by omega)); have hB1 := hq1; have Xb_1 := (Box2.of (blk1 w _)).below hb1 (by omega); have cb0_1 := Xb_1.c0; have cb1_1 := Xb_1.c1; have lb_1 : w.heap.size < w1.heap.size := (by omega)) | (go_at_call 16; (with_reducible refine (alive9_any _).mono ?_); rintro e wA ⟨rfl, hbA⟩))
    go_ret
    exact ⟨rfl, hB1.trans (hbA.mono hB1.size)⟩
  have e1 : chkE x10 n11 = 0 := by simp [chkE, hok]
  simp only [e1] at hC
  by_cases t1 : 500 < n11
  · have f1 : (500 < n11) = True := eq_true t1
    go_enter Try.func6, Try.ntmps6
    go_wp2_with (first | ((with_reducible refine (hC _ (r10.same ((below1 w _)))).mono ?_); rintro e w1 ⟨rfl, hb1⟩; rw [size1] at hb1; have z1 := hb1.size; rw [size1] at z1; have hq1 : Below w.heap.size w w1 := (below1 w _).trans (hb1.mono (by omega)); have hB1 := hq1; have Xb_1 := (Box2.of (blk1 w _)).below hb1 (by omega); have cb0_1 := Xb_1.c0; have cb1_1 := Xb_1.c1; have lb_1 : w.heap.size < w1.heap.size := (by omega)) | (go_at_call 16; (with_reducible refine (alive9_any _).mono ?_); rintro e wA ⟨rfl, hbA⟩))
    go_ret
    exact ⟨rfl, hB1.trans (hbA.mono hB1.size)⟩
  have f1 : (500 < n11) = False := eq_false t1
  have hU := Co.okV_row r0.rd.2.2
  obtain ⟨k1, k2, k3, k4, k5, k6, k7, k8, k9⟩ := back9 (l := x0) (byte_of r10.rd) hU (by omega) hok (by omega)
  rw [h0] at k3 k7 k8 k9
  have hE := fun w' (r : RowIn .u32 w' a0 l0 c0 x0) => enc_any a0 l0 c0 x0 w' r
  obtain ⟨L, hL⟩ : ∃ L, enL x0 = L := ⟨_, rfl⟩
  obtain ⟨N, hN⟩ : ∃ L, enN x0 = L := ⟨_, rfl⟩
  obtain ⟨lL, hlL⟩ : ∃ l, L.length = l := ⟨_, rfl⟩
  simp only [hL, hN] at k2 k3 k4 k5 k6 k7 k8 k9
  simp only [hL, hN, k1, hlL] at hE
  have hJ := fun a q w' (r : RowIn .u8 w' a lL q L) (r' : RowIn .u8 w' a10 l10 c10 x10) => join_any a lL q L N a10 l10 c10 x10 n11 w' r (isInt_small (by omega) (by omega)) r' b11
  obtain ⟨J, hJJ⟩ : ∃ l, joL L N x10 n11 = l := ⟨_, rfl⟩
  obtain ⟨NJ, hNJ⟩ : ∃ l, joN L N x10 n11 = l := ⟨_, rfl⟩
  obtain ⟨lJ, hlJ⟩ : ∃ l, J.length = l := ⟨_, rfl⟩
  simp only [hJJ, hNJ] at k5 k6 k7 k8 k9
  simp only [hJJ, hNJ, k4, hlJ] at hJ
  have hD := fun a q w' (r : RowIn .u8 w' a lJ q J) => dec9_any a lJ q J NJ l0 w' r (isInt_small (by omega) (by omega)) (isInt_small (by omega) (by omega))
  simp only [k7, k8, k9, h0] at hD
  have hS := fun a q w' (r' : RowIn .u32 w' a0 l0 c0 x0) (r : RowIn .u32 w' a l0 q x0) => same9b a0 l0 c0 x0 a l0 q x0 w' r' r
  simp only [sameL_self] at hS
  have f2 : (N ≤ 81 * (l0 : Int)) = True := eq_true k3
  clear hL hN hlL hJJ hNJ hlJ k1 k4 k5 k6 k7 k8 k9 e1 hok hU
  unfold bv at hE hJ hD
  go_enter Try.func6, Try.ntmps6
  go_wp2_with (first | ((with_reducible refine (hC _ (r10.same ((below1 w _)))).mono ?_); rintro e w1 ⟨rfl, hb1⟩; rw [size1] at hb1; have z1 := hb1.size; rw [size1] at z1; have hq1 : Below w.heap.size w w1 := (below1 w _).trans (hb1.mono (by omega)); have hB1 := hq1; have Xb_1 := (Box2.of (blk1 w _)).below hb1 (by omega); have cb0_1 := Xb_1.c0; have cb1_1 := Xb_1.c1; have lb_1 : w.heap.size < w1.heap.size := (by omega)) | ((with_reducible refine (hE _ (r0.same (hB1))).mono ?_); rintro e w2 ⟨a2, q2, rfl, h2, hb2, -⟩; have z2 := hb2.size; have hq2 : Below w1.heap.size w1 w2 := (Below.refl _ w1).trans (hb2.mono (by omega)); have hB2 := hB1.trans (hq2.mono hB1.size); have Xb_2 := Xb_1.below hq2 (by omega); have Rc_2 := h2; have cb0_2 := Xb_2.c0; have cb1_2 := Xb_2.c1; have lb_2 : w.heap.size < w2.heap.size := (by omega); clear cb0_1 cb1_1 lb_1 Xb_1) | ((with_reducible refine (hJ _ _ _ (Rc_2.same (below1 w2 _)) (r10.same (hB2.trans ((below1 w2 _).mono hB2.size)))).mono ?_); rintro e w3 ⟨a3, q3, rfl, h3, hb3, -⟩; rw [size1] at hb3; have z3 := hb3.size; rw [size1] at z3; have hq3 : Below w2.heap.size w2 w3 := (below1 w2 _).trans (hb3.mono (by omega)); have hB3 := hB2.trans (hq3.mono hB2.size); have Xb_3 := Xb_2.below hq3 (by omega); have Xc_3 := (Box2.of (blk1 w2 _)).below hb3 (by omega); have Rc_3 := Rc_2.same hq3; have Rj_3 := h3; have cb0_3 := Xb_3.c0; have cb1_3 := Xb_3.c1; have lb_3 : w.heap.size < w3.heap.size := (by omega); have cc0_3 := Xc_3.c0; have cc1_3 := Xc_3.c1; have lc_3 : w2.heap.size < w3.heap.size := (by omega); clear cb0_2 cb1_2 lb_2 Xb_2) | ((with_reducible refine (hD _ _ _ (Rj_3.same (below1 w3 _))).mono ?_); rintro e w4 ⟨a4, q4, rfl, h4, hb4⟩; rw [size1] at hb4; have z4 := hb4.size; rw [size1] at z4; have hq4 : Below w3.heap.size w3 w4 := (below1 w3 _).trans (hb4.mono (by omega)); have hB4 := hB3.trans (hq4.mono hB3.size); have Xb_4 := Xb_3.below hq4 (by omega); have Xc_4 := Xc_3.below hq4 (by omega); have Xj_4 := (Box2.of (blk1 w3 _)).below hb4 (by omega); have Rc_4 := Rc_3.same hq4; have Rj_4 := Rj_3.same hq4; have Rm_4 := h4; have cb0_4 := Xb_4.c0; have cb1_4 := Xb_4.c1; have lb_4 : w.heap.size < w4.heap.size := (by omega); have cc0_4 := Xc_4.c0; have cc1_4 := Xc_4.c1; have lc_4 : w2.heap.size < w4.heap.size := (by omega); have cj0_4 := Xj_4.c0; have cj1_4 := Xj_4.c1; have lj_4 : w3.heap.size < w4.heap.size := (by omega); clear cb0_3 cb1_3 lb_3 Xb_3 cc0_3 cc1_3 lc_3 Xc_3) | ((with_reducible refine (hS _ _ _ (r0.same (hB4)) Rm_4).mono ?_); rintro e w5 ⟨rfl, hb5⟩; have z5 := hb5.size; have hq5 : Below w4.heap.size w4 w5 := (Below.refl _ w4).trans (hb5.mono (by omega)); have hB5 := hB4.trans (hq5.mono hB4.size); have Xb_5 := Xb_4.below hq5 (by omega); have Xc_5 := Xc_4.below hq5 (by omega); have Xj_5 := Xj_4.below hq5 (by omega); have Rc_5 := Rc_4.same hq5; have Rj_5 := Rj_4.same hq5; have Rm_5 := Rm_4.same hq5; have cb0_5 := Xb_5.c0; have cb1_5 := Xb_5.c1; have lb_5 : w.heap.size < w5.heap.size := (by omega); have cc0_5 := Xc_5.c0; have cc1_5 := Xc_5.c1; have lc_5 : w2.heap.size < w5.heap.size := (by omega); have cj0_5 := Xj_5.c0; have cj1_5 := Xj_5.c1; have lj_5 : w3.heap.size < w5.heap.size := (by omega); clear cb0_4 cb1_4 lb_4 Xb_4 cc0_4 cc1_4 lc_4 Xc_4 cj0_4 cj1_4 lj_4 Xj_4) | (go_at_call 16; (with_reducible refine (alive9_any _).mono ?_); rintro e wA ⟨rfl, hbA⟩))
  go_ret
  exact ⟨rfl, hB5.trans (hbA.mono hB5.size)⟩
end Go.Proofs.Ytogoiolpngbodaa.Wk

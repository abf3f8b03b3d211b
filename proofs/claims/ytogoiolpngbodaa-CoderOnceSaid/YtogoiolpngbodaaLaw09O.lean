/- The law CoderOnce. -/
import Derived.Test.YtogoiolpngbodaaLaw09
import Derived.Test.YtogoiolpngbodaaGL8
namespace Go.Proofs.Ytogoiolpngbodaa.Wk
open Go.Proofs Go.RowKit Go.Proofs.Ytogoiolpngbodaa.Kit Go.Proofs.Ytogoiolpngbodaa.M01 Go.Proofs.Ytogoiolpngbodaa.M02 Go.Proofs.Ytogoiolpngbodaa.M05 Go.Proofs.Ytogoiolpngbodaa.M06 Go.Proofs.Ytogoiolpngbodaa.M07 Go.Proofs.Ytogoiolpngbodaa.M08 Go.Proofs.Ytogoiolpngbodaa.M09 Go.Proofs.Ytogoiolpngbodaa.Bt Go.Proofs.Ytogoiolpngbodaa.R02 Go.Proofs.Ytogoiolpngbodaa.Co Go.Proofs.Ytogoiolpngbodaa.R09
set_option linter.unusedVariables false
set_option linter.unusedSimpArgs false

set_option maxRecDepth 100000 in
set_option maxHeartbeats 8000000 in
theorem coderOnce_walk (a00 : Option Addr) (l00 c00 : Nat) (x00 : List Int) (n01 : Int) (a1 : Int) (w : World) (r00 : RowIn .u8 w a00 l00 c00 x00) (b01 : -9223372036854775808 ≤ n01 ∧ n01 ≤ 9223372036854775807) (b1 : -9223372036854775808 ≤ a1 ∧ a1 ≤ 9223372036854775807) :
    Calls Try.prog 8 #[.agg #[.slice a00 l00 c00, .int .i64 n01], .int .i64 a1] w fun e w' => e = .returned (.bool true) ∧ Below w.heap.size w w' := by
  have hC := fun w' (r : RowIn .u8 w' a00 l00 c00 x00) => rcheck_any a00 l00 c00 x00 n01 w' r b01
  unfold bv at hC
  by_cases hok : okB x00 n01 = true
  case neg =>
    have e1 : chkE x00 n01 = 8 := by simp [chkE, hok]
    simp only [e1] at hC
    clear hok e1
    go_enter Try.func8, Try.ntmps8
    go_wp2_with (first | ((with_reducible refine (hC _ (r00.same ((below1 w _)))).mono ?_); rintro e w1 ⟨rfl, hb1⟩; rw [size1] at hb1; have z1 := hb1.size; rw [size1] at z1; have hq1 : Below w.heap.size w w1 := (below1 w _).trans (hb1.mono (by omega)); have hB1 := hq1; have Xb_1 := (Box2.of (blk1 w _)).below hb1 (by omega); have cb0_1 := Xb_1.c0; have cb1_1 := Xb_1.c1; have lb_1 : w.heap.size < w1.heap.size := (by omega)) | (go_at_call 16; (with_reducible refine (alive9_any _).mono ?_); rintro e wA ⟨rfl, hbA⟩))
    go_ret
    exact ⟨rfl, hB1.trans (hbA.mono hB1.size)⟩
  have e1 : chkE x00 n01 = 0 := by simp [chkE, hok]
  simp only [e1] at hC
  have hby := byte_of r00.rd
  by_cases t0 : 1500 < n01
  · have f0 : (1500 < n01) = True := eq_true t0
    go_enter Try.func8, Try.ntmps8
    go_wp2_with (first | ((with_reducible refine (hC _ (r00.same ((below1 w _)))).mono ?_); rintro e w1 ⟨rfl, hb1⟩; rw [size1] at hb1; have z1 := hb1.size; rw [size1] at z1; have hq1 : Below w.heap.size w w1 := (below1 w _).trans (hb1.mono (by omega)); have hB1 := hq1; have Xb_1 := (Box2.of (blk1 w _)).below hb1 (by omega); have cb0_1 := Xb_1.c0; have cb1_1 := Xb_1.c1; have lb_1 : w.heap.size < w1.heap.size := (by omega)) | (go_at_call 16; (with_reducible refine (alive9_any _).mono ?_); rintro e wA ⟨rfl, hbA⟩))
    go_ret
    exact ⟨rfl, hB1.trans (hbA.mono hB1.size)⟩
  have f0 : (1500 < n01) = False := eq_false t0
  by_cases t1 : a1 < 0
  · have f1 : (a1 < 0) = True := eq_true t1
    go_enter Try.func8, Try.ntmps8
    go_wp2_with (first | ((with_reducible refine (hC _ (r00.same ((below1 w _)))).mono ?_); rintro e w1 ⟨rfl, hb1⟩; rw [size1] at hb1; have z1 := hb1.size; rw [size1] at z1; have hq1 : Below w.heap.size w w1 := (below1 w _).trans (hb1.mono (by omega)); have hB1 := hq1; have Xb_1 := (Box2.of (blk1 w _)).below hb1 (by omega); have cb0_1 := Xb_1.c0; have cb1_1 := Xb_1.c1; have lb_1 : w.heap.size < w1.heap.size := (by omega)) | (go_at_call 16; (with_reducible refine (alive9_any _).mono ?_); rintro e wA ⟨rfl, hbA⟩))
    go_ret
    exact ⟨rfl, hB1.trans (hbA.mono hB1.size)⟩
  have f1 : (a1 < 0) = False := eq_false t1
  by_cases t2 : 150 < a1
  · have f2 : (150 < a1) = True := eq_true t2
    go_enter Try.func8, Try.ntmps8
    go_wp2_with (first | ((with_reducible refine (hC _ (r00.same ((below1 w _)))).mono ?_); rintro e w1 ⟨rfl, hb1⟩; rw [size1] at hb1; have z1 := hb1.size; rw [size1] at z1; have hq1 : Below w.heap.size w w1 := (below1 w _).trans (hb1.mono (by omega)); have hB1 := hq1; have Xb_1 := (Box2.of (blk1 w _)).below hb1 (by omega); have cb0_1 := Xb_1.c0; have cb1_1 := Xb_1.c1; have lb_1 : w.heap.size < w1.heap.size := (by omega)) | (go_at_call 16; (with_reducible refine (alive9_any _).mono ?_); rintro e wA ⟨rfl, hbA⟩))
    go_ret
    exact ⟨rfl, hB1.trans (hbA.mono hB1.size)⟩
  have f2 : (150 < a1) = False := eq_false t2
  have hD := fun w' (r : RowIn .u8 w' a00 l00 c00 x00) => dec9_any a00 l00 c00 x00 n01 a1 w' r b01 b1
  obtain ⟨hn0, -, -, -⟩ := okB_iff.1 hok
  by_cases hE : M09.deE x00 n01 a1 = 0
  · obtain ⟨-, -, -, hU, hm, eX, hle, eV⟩ := de_once hby hE
    have hlL : (deL x00 n01 a1).length = a1.toNat := by omega
    obtain ⟨g1, g2, g3, -⟩ := c_en (l := deL x00 n01 a1) (by omega)
    obtain ⟨b1', b2', b3', b4', -, -⟩ := c_bd isD_st' okD_st hU (by omega)
    have q1 : MP.jN 0 (pcd stD (deL x00 n01 a1)) = cN stD (deL x00 n01 a1) := by unfold MP.jN cN; omega
    have q2 : MP.jV 0 0 (pcd stD (deL x00 n01 a1)) = cV stD (deL x00 n01 a1) := by unfold MP.jV cV; rw [p2_zero]; omega
    rw [q1] at eX
    rw [q2] at eV
    have cE : cuE x00 n01 0 (deX x00 n01 a1) = 0 := by rw [cuE, if_pos hok, if_neg (by omega)]
    have cL' : cuL x00 n01 0 (deX x00 n01 a1) = cL stD (deL x00 n01 a1) := by rw [cuL, if_pos cE, p2_zero, Int.ediv_one, Int.sub_zero, eV, eX]; rfl
    have cN' : cuN x00 n01 0 (deX x00 n01 a1) = cN stD (deL x00 n01 a1) := by rw [cuN, if_pos cE, eX]; omega
    have hEn := fun a q w' (r : RowIn .u32 w' a a1.toNat q (deL x00 n01 a1)) => enc_any a a1.toNat q _ w' r
    simp only [g1, g2, g3] at hEn
    have hK := fun w' (r : RowIn .u8 w' a00 l00 c00 x00) => cut_any a00 l00 c00 x00 n01 0 (deX x00 n01 a1) w' r b01 (isInt_small (by decide) (by decide)) (isInt_small (by omega) (by omega))
    simp only [cE, cL', cN'] at hK
    simp only [hE, hlL] at hD
    have h0X : 0 ≤ deX x00 n01 a1 := by omega
    obtain ⟨X, hX⟩ : ∃ l, deX x00 n01 a1 = l := ⟨_, rfl⟩
    obtain ⟨m, hm'⟩ : ∃ l, a1.toNat = l := ⟨_, rfl⟩
    obtain ⟨L, hL⟩ : ∃ l, deL x00 n01 a1 = l := ⟨_, rfl⟩
    simp only [hL] at hD hK hEn eX
    simp only [hm', hX] at hD hK hEn
    rw [hX] at eX h0X hle
    obtain ⟨N, hN⟩ : ∃ l, cN stD L = l := ⟨_, rfl⟩
    obtain ⟨C, hC'⟩ : ∃ l, cL stD L = l := ⟨_, rfl⟩
    obtain ⟨lC, hlC⟩ : ∃ l, C.length = l := ⟨_, rfl⟩
    simp only [hN, hC', hlC] at hK hEn eX
    have ea : a1 = (m : Int) := by omega
    subst ea
    have hS := fun a q a' q' w' (r : RowIn .u8 w' a lC q C) (r' : RowIn .u8 w' a' lC q' C) => same_any a lC q C N a' lC q' C N w' r r'
    have es : sameB C N C N = true := by simp [sameB]
    simp only [es] at hS
    have hE := hEn
    have h1 : (X < 0) = False := eq_false (by omega)
    have h2 : (n01 < X) = False := eq_false (by omega)
    clear e1 cE cL' cN' hEn hX hm' hL hN hC' hlC es hok hby eX eV q1 q2 g1 g2 g3 b1' b2' b3' b4' hU hm hlL hle
    unfold bv at hD hK hE hS
    go_enter Try.func8, Try.ntmps8
    go_wp2_with (first | ((with_reducible refine (hC _ (r00.same ((below1 w _)))).mono ?_); rintro e w1 ⟨rfl, hb1⟩; rw [size1] at hb1; have z1 := hb1.size; rw [size1] at z1; have hq1 : Below w.heap.size w w1 := (below1 w _).trans (hb1.mono (by omega)); have hB1 := hq1; have Xb_1 := (Box2.of (blk1 w _)).below hb1 (by omega); have cb0_1 := Xb_1.c0; have cb1_1 := Xb_1.c1; have lb_1 : w.heap.size < w1.heap.size := (by omega)) | ((with_reducible refine (hD _ (r00.same (hB1))).mono ?_); rintro e w2 ⟨a2, q2, rfl, h2, hb2⟩; have z2 := hb2.size; have hq2 : Below w1.heap.size w1 w2 := (Below.refl _ w1).trans (hb2.mono (by omega)); have hB2 := hB1.trans (hq2.mono hB1.size); have Xb_2 := Xb_1.below hq2 (by omega); have Rm_2 := h2; have cb0_2 := Xb_2.c0; have cb1_2 := Xb_2.c1; have lb_2 : w.heap.size < w2.heap.size := (by omega); clear cb0_1 cb1_1 lb_1 Xb_1) | ((with_reducible refine (hK _ (r00.same (hB2))).mono ?_); rintro e w3 ⟨a3, q3, rfl, h3, hb3, -⟩; have z3 := hb3.size; have hq3 : Below w2.heap.size w2 w3 := (Below.refl _ w2).trans (hb3.mono (by omega)); have hB3 := hB2.trans (hq3.mono hB2.size); have Xb_3 := Xb_2.below hq3 (by omega); have Rm_3 := Rm_2.same hq3; have Rp_3 := h3; have cb0_3 := Xb_3.c0; have cb1_3 := Xb_3.c1; have lb_3 : w.heap.size < w3.heap.size := (by omega); clear cb0_2 cb1_2 lb_2 Xb_2) | ((with_reducible refine (hE _ _ _ (Rm_3.same (below1 w3 _))).mono ?_); rintro e w4 ⟨a4, q4, rfl, h4, hb4, -⟩; rw [size1] at hb4; have z4 := hb4.size; rw [size1] at z4; have hq4 : Below w3.heap.size w3 w4 := (below1 w3 _).trans (hb4.mono (by omega)); have hB4 := hB3.trans (hq4.mono hB3.size); have Xb_4 := Xb_3.below hq4 (by omega); have Xp_4 := (Box2.of (blk1 w3 _)).below hb4 (by omega); have Rm_4 := Rm_3.same hq4; have Rp_4 := Rp_3.same hq4; have Rc_4 := h4; have cb0_4 := Xb_4.c0; have cb1_4 := Xb_4.c1; have lb_4 : w.heap.size < w4.heap.size := (by omega); have cp0_4 := Xp_4.c0; have cp1_4 := Xp_4.c1; have lp_4 : w3.heap.size < w4.heap.size := (by omega); clear cb0_3 cb1_3 lb_3 Xb_3) | ((with_reducible refine (hS _ _ _ _ _ (Rp_4.same (below1 w4 _)) (Rc_4.same (below1 w4 _))).mono ?_); rintro e w5 ⟨rfl, hb5⟩; rw [size1] at hb5; have z5 := hb5.size; rw [size1] at z5; have hq5 : Below w4.heap.size w4 w5 := (below1 w4 _).trans (hb5.mono (by omega)); have hB5 := hB4.trans (hq5.mono hB4.size); have Xb_5 := Xb_4.below hq5 (by omega); have Xp_5 := Xp_4.below hq5 (by omega); have Xc_5 := (Box2.of (blk1 w4 _)).below hb5 (by omega); have Rm_5 := Rm_4.same hq5; have Rp_5 := Rp_4.same hq5; have Rc_5 := Rc_4.same hq5; have cb0_5 := Xb_5.c0; have cb1_5 := Xb_5.c1; have lb_5 : w.heap.size < w5.heap.size := (by omega); have cp0_5 := Xp_5.c0; have cp1_5 := Xp_5.c1; have lp_5 : w3.heap.size < w5.heap.size := (by omega); have cc0_5 := Xc_5.c0; have cc1_5 := Xc_5.c1; have lc_5 : w4.heap.size < w5.heap.size := (by omega); clear cb0_4 cb1_4 lb_4 Xb_4 cp0_4 cp1_4 lp_4 Xp_4) | (go_at_call 16; (with_reducible refine (alive9_any _).mono ?_); rintro e wA ⟨rfl, hbA⟩))
    go_ret
    exact ⟨rfl, hB5.trans (hbA.mono hB5.size)⟩
  · obtain ⟨hEr, eL, eX⟩ := de_err hby hok (by omega) (by omega) hE
    simp only [eL, eX, List.length_nil] at hD
    rcases hEr with e | e
    all_goals
      simp only [e] at hD
      unfold bv at hD
      clear e hE eL eX hok hby e1
      go_enter Try.func8, Try.ntmps8
      go_wp2_with (first | ((with_reducible refine (hC _ (r00.same ((below1 w _)))).mono ?_); rintro e w1 ⟨rfl, hb1⟩; rw [size1] at hb1; have z1 := hb1.size; rw [size1] at z1; have hq1 : Below w.heap.size w w1 := (below1 w _).trans (hb1.mono (by omega)); have hB1 := hq1; have Xb_1 := (Box2.of (blk1 w _)).below hb1 (by omega); have cb0_1 := Xb_1.c0; have cb1_1 := Xb_1.c1; have lb_1 : w.heap.size < w1.heap.size := (by omega)) | ((with_reducible refine (hD _ (r00.same (hB1))).mono ?_); rintro e w2 ⟨a2, q2, rfl, h2, hb2⟩; have z2 := hb2.size; have hq2 : Below w1.heap.size w1 w2 := (Below.refl _ w1).trans (hb2.mono (by omega)); have hB2 := hB1.trans (hq2.mono hB1.size); have Xb_2 := Xb_1.below hq2 (by omega); have Rm_2 := h2; have cb0_2 := Xb_2.c0; have cb1_2 := Xb_2.c1; have lb_2 : w.heap.size < w2.heap.size := (by omega); clear cb0_1 cb1_1 lb_1 Xb_1) | (go_at_call 16; (with_reducible refine (alive9_any _).mono ?_); rintro e wA ⟨rfl, hbA⟩))
      go_ret
      exact ⟨rfl, hB2.trans (hbA.mono hB2.size)⟩
end Go.Proofs.Ytogoiolpngbodaa.Wk

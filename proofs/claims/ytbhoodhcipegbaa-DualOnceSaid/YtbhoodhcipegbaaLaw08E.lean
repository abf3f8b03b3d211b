/- The law DualOnce. -/
import Derived.Test.YtbhoodhcipegbaaLaw08
import Derived.Test.YtbhoodhcipegbaaLaw07E
namespace Go.Proofs.Ytbhoodhcipegbaa.Wk
open Go.Proofs Go.RowKit Go.Proofs.Ytbhoodhcipegbaa.Kit Go.Proofs.Ytbhoodhcipegbaa.M01 Go.Proofs.Ytbhoodhcipegbaa.M02 Go.Proofs.Ytbhoodhcipegbaa.M06 Go.Proofs.Ytbhoodhcipegbaa.M07 Go.Proofs.Ytbhoodhcipegbaa.M08 Go.Proofs.Ytbhoodhcipegbaa.Bt Go.Proofs.Ytbhoodhcipegbaa.R02 Go.Proofs.Ytbhoodhcipegbaa.Un Go.Proofs.Ytbhoodhcipegbaa.R06 Go.Proofs.Ytbhoodhcipegbaa.Ri Go.Proofs.Ytbhoodhcipegbaa.R07 Go.Proofs.Ytbhoodhcipegbaa.Du Go.Proofs.Ytbhoodhcipegbaa.R08
set_option linter.unusedVariables false

theorem dw_nil {d : D4} {v : Int} (h : okD d = true) (hv : isU v) : dwE [] 0 d v = 0 ∧ dwL [] 0 d v = bl (duS d v) (duV d v) ∧ dwN [] 0 d v = duS d v ∧ dwD [] 0 d v = learnD d v ∧ okB (bl (duS d v) (duV d v)) (duS d v) = true ∧ val (bl (duS d v) (duV d v)) = duV d v := by
  have hs := duS_bd h hv
  have hl := duV_bd h hv
  have e : dwE [] 0 d v = 0 := by unfold dwE; rw [if_pos ⟨ok_nil, h⟩, if_neg (by omega)]
  refine ⟨e, ?_, ?_, ?_, ok_bl (by omega) (by omega) hl.1 hl.2, val_bl (by omega) hl.1 hl.2⟩
  · unfold dwL; rw [if_pos e, p2_zero, Int.mul_one, Int.zero_add, show val [] = 0 from rfl, Int.zero_add]
  · unfold dwN; rw [if_pos e, Int.zero_add]
  · unfold dwD; rw [if_pos e]

theorem dr_err {xs : List Int} {n p : Int} {d : D4} (hb : isByte xs) (hok : okB xs n = true) (hd : okD d = true) (hp : 0 ≤ p) (h : drE xs n p d ≠ 0) : drE xs n p d = 24 ∨ (drE xs n p d = 12 ∧ 81 ≤ n - p) := by
  obtain ⟨a0, a1, b0, b1, s1, t1⟩ := okD_iff.1 hd
  have hand : okB xs n = true ∧ okD d = true := ⟨hok, hd⟩
  by_cases h1 : n ≤ p
  · left; unfold drE; rw [if_pos hand, if_neg (show ¬ p < 0 by omega), if_pos h1]
  by_cases h3 : val xs / p2 p % 2 = 0
  · have e : drE xs n p d = if n - p - 1 < d.a then 24 else 0 := by unfold drE; rw [if_pos hand, if_neg (show ¬ p < 0 by omega), if_neg h1, if_pos h3]
    by_cases h4 : n - p - 1 < d.a
    · left; rw [e, if_pos h4]
    · rw [e, if_neg h4] at h; exact absurd rfl h
  · have e : drE xs n p d = if rrE xs n (p + 1) d.b ≠ 0 then rrE xs n (p + 1) d.b else if 4294967295 < rrN xs n (p + 1) d.b + p2 d.a then 12 else 0 := by unfold drE; rw [if_pos hand, if_neg (show ¬ p < 0 by omega), if_neg h1, if_neg h3]
    by_cases hr : rrE xs n (p + 1) d.b = 0
    · rw [if_neg (by rw [hr]; simp)] at e
      by_cases hg : 4294967295 < rrN xs n (p + 1) d.b + p2 d.a
      · right
        rw [e, if_pos hg]
        refine ⟨rfl, ?_⟩
        obtain ⟨q1, q2, q3, q4, q5⟩ := rr_ok hb hok b0 b1 hr
        have hp2 := p2_24le a1
        -- a number as great as that has an escape
        have h48 : qP (rrN xs n (p + 1) d.b) d.b = 48 := by
          have hw := (lw_val (k := d.b) q1.1 q1.2).2
          have hl := lw_bd (rrN xs n (p + 1) d.b) d.b
          have hq := qP_bd d.b q1.1
          have hb24 := p2_24le b1
          have hbp := p2_pos d.b
          by_cases g : qP (rrN xs n (p + 1) d.b) d.b = 48
          · exact g
          · exfalso
            have hB : bhS (qP (rrN xs n (p + 1) d.b) d.b) d.b = d.b := bhS_lt _ (by omega)
            rw [hB] at hl
            have hm : qP (rrN xs n (p + 1) d.b) d.b * p2 d.b ≤ 47 * p2 d.b := Int.mul_le_mul_of_nonneg_right (by omega) (by omega)
            have := (hw g).1
            omega
        have hS : cdS (rrN xs n (p + 1) d.b) d.b = 80 := by unfold cdS; rw [h48, runS_48, bhS_48]; rfl
        omega
      · rw [e, if_neg hg] at h; exact absurd rfl h
    · rw [if_pos hr] at e
      rcases rr_err hb hok (by omega) b0 b1 hr with g | ⟨g, g2⟩
      · left; rw [e, g]
      · right; rw [e, g]; exact ⟨rfl, by omega⟩

set_option maxRecDepth 100000 in
set_option maxHeartbeats 8000000 in
theorem dualOnce_walk (a00 : Option Addr) (l00 c00 : Nat) (x00 : List Int) (n01 : Int) (a1 : Int) (n20 : Int) (n21 : Int) (n22 : Int) (n23 : Int) (w : World) (r00 : RowIn .u8 w a00 l00 c00 x00) (b01 : -9223372036854775808 ≤ n01 ∧ n01 ≤ 9223372036854775807) (b1 : -9223372036854775808 ≤ a1 ∧ a1 ≤ 9223372036854775807) (b20 : -9223372036854775808 ≤ n20 ∧ n20 ≤ 9223372036854775807) (b21 : -9223372036854775808 ≤ n21 ∧ n21 ≤ 9223372036854775807) (b22 : 0 ≤ n22 ∧ n22 ≤ 18446744073709551615) (b23 : 0 ≤ n23 ∧ n23 ≤ 18446744073709551615) :
    Calls Try.prog 7 #[.agg #[.slice a00 l00 c00, .int .i64 n01], .int .i64 a1, .agg #[.int .i64 n20, .int .i64 n21, .int .u64 n22, .int .u64 n23]] w fun e w' => e = .returned (.bool true) ∧ Below w.heap.size w w' := by
  have hd : isD ⟨n20, n21, n22, n23⟩ := ⟨b20, b21, b22, b23⟩
  have hC := fun w' (r : RowIn .u8 w' a00 l00 c00 x00) => rcheck_any a00 l00 c00 x00 n01 w' r b01
  have hCD := fun w' => rcheckD_any ⟨n20, n21, n22, n23⟩ w' hd
  unfold bv at hC
  unfold dv at hCD
  simp only at hCD
  by_cases hok : okB x00 n01 = true
  case neg =>
    have e1 : chkE x00 n01 = 8 := by simp [chkE, hok]
    simp only [e1] at hC
    clear hd hok e1 hCD
    go_enter Try.func7, Try.ntmps7
    go_wp2_with (first | ((with_reducible refine (hC _ (r00.same ((below2 w _ _)))).mono ?_); rintro e w1 ⟨rfl, hb1⟩; rw [size2] at hb1; have z1 := hb1.size; rw [size2] at z1; have hq1 : Below w.heap.size w w1 := (below2 w _ _).trans (hb1.mono (by omega)); have hB1 := hq1; have Xb_1 := (Box2.of (blk2a w _ _)).below hb1 (by omega); have Xd_1 := (Box4.of (blk2 w _ _)).below hb1 (by omega); have cb0_1 := Xb_1.c0; have cb1_1 := Xb_1.c1; have lb_1 : w.heap.size < w1.heap.size := (by omega); have cd0_1 := Xd_1.c0; have cd1_1 := Xd_1.c1; have cd2_1 := Xd_1.c2; have cd3_1 := Xd_1.c3; have ld_1 : w.heap.size + 1 < w1.heap.size := (by omega)) | (go_at_call 17; (with_reducible refine (alive8_any _).mono ?_); rintro e wA ⟨rfl, hbA⟩))
    go_ret
    exact ⟨rfl, hB1.trans (hbA.mono hB1.size)⟩
  have e1 : chkE x00 n01 = 0 := by simp [chkE, hok]
  simp only [e1] at hC
  obtain ⟨hn0, hn1, hxl, hval⟩ := okB_iff.1 hok
  have hby := byte_of r00.rd
  by_cases t0 : 1500 < n01
  · have f0 : (1500 < n01) = True := eq_true t0
    go_enter Try.func7, Try.ntmps7
    go_wp2_with (first | ((with_reducible refine (hC _ (r00.same ((below2 w _ _)))).mono ?_); rintro e w1 ⟨rfl, hb1⟩; rw [size2] at hb1; have z1 := hb1.size; rw [size2] at z1; have hq1 : Below w.heap.size w w1 := (below2 w _ _).trans (hb1.mono (by omega)); have hB1 := hq1; have Xb_1 := (Box2.of (blk2a w _ _)).below hb1 (by omega); have Xd_1 := (Box4.of (blk2 w _ _)).below hb1 (by omega); have cb0_1 := Xb_1.c0; have cb1_1 := Xb_1.c1; have lb_1 : w.heap.size < w1.heap.size := (by omega); have cd0_1 := Xd_1.c0; have cd1_1 := Xd_1.c1; have cd2_1 := Xd_1.c2; have cd3_1 := Xd_1.c3; have ld_1 : w.heap.size + 1 < w1.heap.size := (by omega)) | (go_at_call 17; (with_reducible refine (alive8_any _).mono ?_); rintro e wA ⟨rfl, hbA⟩))
    go_ret
    exact ⟨rfl, hB1.trans (hbA.mono hB1.size)⟩
  have f0 : (1500 < n01) = False := eq_false t0
  by_cases t1 : a1 < 0
  · have f1 : (a1 < 0) = True := eq_true t1
    go_enter Try.func7, Try.ntmps7
    go_wp2_with (first | ((with_reducible refine (hC _ (r00.same ((below2 w _ _)))).mono ?_); rintro e w1 ⟨rfl, hb1⟩; rw [size2] at hb1; have z1 := hb1.size; rw [size2] at z1; have hq1 : Below w.heap.size w w1 := (below2 w _ _).trans (hb1.mono (by omega)); have hB1 := hq1; have Xb_1 := (Box2.of (blk2a w _ _)).below hb1 (by omega); have Xd_1 := (Box4.of (blk2 w _ _)).below hb1 (by omega); have cb0_1 := Xb_1.c0; have cb1_1 := Xb_1.c1; have lb_1 : w.heap.size < w1.heap.size := (by omega); have cd0_1 := Xd_1.c0; have cd1_1 := Xd_1.c1; have cd2_1 := Xd_1.c2; have cd3_1 := Xd_1.c3; have ld_1 : w.heap.size + 1 < w1.heap.size := (by omega)) | (go_at_call 17; (with_reducible refine (alive8_any _).mono ?_); rintro e wA ⟨rfl, hbA⟩))
    go_ret
    exact ⟨rfl, hB1.trans (hbA.mono hB1.size)⟩
  have f1 : (a1 < 0) = False := eq_false t1
  by_cases t2 : n01 < a1
  · have f2 : (n01 < a1) = True := eq_true t2
    go_enter Try.func7, Try.ntmps7
    go_wp2_with (first | ((with_reducible refine (hC _ (r00.same ((below2 w _ _)))).mono ?_); rintro e w1 ⟨rfl, hb1⟩; rw [size2] at hb1; have z1 := hb1.size; rw [size2] at z1; have hq1 : Below w.heap.size w w1 := (below2 w _ _).trans (hb1.mono (by omega)); have hB1 := hq1; have Xb_1 := (Box2.of (blk2a w _ _)).below hb1 (by omega); have Xd_1 := (Box4.of (blk2 w _ _)).below hb1 (by omega); have cb0_1 := Xb_1.c0; have cb1_1 := Xb_1.c1; have lb_1 : w.heap.size < w1.heap.size := (by omega); have cd0_1 := Xd_1.c0; have cd1_1 := Xd_1.c1; have cd2_1 := Xd_1.c2; have cd3_1 := Xd_1.c3; have ld_1 : w.heap.size + 1 < w1.heap.size := (by omega)) | (go_at_call 17; (with_reducible refine (alive8_any _).mono ?_); rintro e wA ⟨rfl, hbA⟩))
    go_ret
    exact ⟨rfl, hB1.trans (hbA.mono hB1.size)⟩
  have f2 : (n01 < a1) = False := eq_false t2
  by_cases h : okD ⟨n20, n21, n22, n23⟩ = true
  case neg =>
    rw [show chD ⟨n20, n21, n22, n23⟩ = 8 by unfold chD; rw [if_neg h]] at hCD
    clear hd hok e1 h hxl hval hby
    go_enter Try.func7, Try.ntmps7
    go_wp2_with (first | ((with_reducible refine (hC _ (r00.same ((below2 w _ _)))).mono ?_); rintro e w1 ⟨rfl, hb1⟩; rw [size2] at hb1; have z1 := hb1.size; rw [size2] at z1; have hq1 : Below w.heap.size w w1 := (below2 w _ _).trans (hb1.mono (by omega)); have hB1 := hq1; have Xb_1 := (Box2.of (blk2a w _ _)).below hb1 (by omega); have Xd_1 := (Box4.of (blk2 w _ _)).below hb1 (by omega); have cb0_1 := Xb_1.c0; have cb1_1 := Xb_1.c1; have lb_1 : w.heap.size < w1.heap.size := (by omega); have cd0_1 := Xd_1.c0; have cd1_1 := Xd_1.c1; have cd2_1 := Xd_1.c2; have cd3_1 := Xd_1.c3; have ld_1 : w.heap.size + 1 < w1.heap.size := (by omega)) | ((with_reducible refine (hCD _ ).mono ?_); rintro e w2 ⟨rfl, hb2⟩; have z2 := hb2.size; have hq2 : Below w1.heap.size w1 w2 := (Below.refl _ w1).trans (hb2.mono (by omega)); have hB2 := hB1.trans (hq2.mono hB1.size); have Xb_2 := Xb_1.below hq2 (by omega); have Xd_2 := Xd_1.below hq2 (by omega); have cb0_2 := Xb_2.c0; have cb1_2 := Xb_2.c1; have lb_2 : w.heap.size < w2.heap.size := (by omega); have cd0_2 := Xd_2.c0; have cd1_2 := Xd_2.c1; have cd2_2 := Xd_2.c2; have cd3_2 := Xd_2.c3; have ld_2 : w.heap.size + 1 < w2.heap.size := (by omega); clear cb0_1 cb1_1 lb_1 Xb_1 cd0_1 cd1_1 cd2_1 cd3_1 ld_1 Xd_1) | (go_at_call 17; (with_reducible refine (alive8_any _).mono ?_); rintro e wA ⟨rfl, hbA⟩))
    go_ret
    exact ⟨rfl, hB2.trans (hbA.mono hB2.size)⟩
  rw [show chD ⟨n20, n21, n22, n23⟩ = 0 by unfold chD; rw [if_pos h]] at hCD
  have hR := fun w' (r : RowIn .u8 w' a00 l00 c00 x00) => drd_any a00 l00 c00 x00 n01 a1 ⟨n20, n21, n22, n23⟩ w' r b01 b1 hd
  by_cases hE : drE x00 n01 a1 ⟨n20, n21, n22, n23⟩ = 0
  · obtain ⟨-, -, p0, hv, eX, hle, eV, eD⟩ := dr_once hby hE
    obtain ⟨V, hVV⟩ : ∃ V, drN x00 n01 a1 ⟨n20, n21, n22, n23⟩ = V := ⟨_, rfl⟩
    obtain ⟨NX, hNX⟩ : ∃ V, drX x00 n01 a1 ⟨n20, n21, n22, n23⟩ = V := ⟨_, rfl⟩
    simp only [hE, hVV, hNX, eD] at hR
    simp only [hVV] at hv eX hle eV
    rw [hNX] at eX
    have hs := duS_bd h hv
    have cE : cuE x00 n01 a1 NX = 0 := by rw [cuE, if_pos hok, if_neg (by omega)]
    have cL : cuL x00 n01 a1 NX = bl (duS ⟨n20, n21, n22, n23⟩ V) (duV ⟨n20, n21, n22, n23⟩ V) := by rw [cuL, if_pos cE, eX, show a1 + duS ⟨n20, n21, n22, n23⟩ V - a1 = duS ⟨n20, n21, n22, n23⟩ V by omega, eV]
    have cN : cuN x00 n01 a1 NX = duS ⟨n20, n21, n22, n23⟩ V := by rw [cuN, if_pos cE, eX]; omega
    obtain ⟨rE1, rL1, rN1, rD1, rK1, rV1⟩ := dw_nil h hv
    have hW := fun w' => dwr_any none 0 0 [] 0 ⟨n20, n21, n22, n23⟩ V w' RowIn.nil (isInt_small (by decide) (by decide)) hd hv
    have hK := fun w' (r : RowIn .u8 w' a00 l00 c00 x00) => cut_any a00 l00 c00 x00 n01 a1 NX w' r b01 b1 (isInt_small (by omega) (by omega))
    simp only [rE1, rL1, rN1, rD1] at hW
    simp only [cE, cL, cN] at hK
    obtain ⟨X, hX⟩ : ∃ X, bl (duS ⟨n20, n21, n22, n23⟩ V) (duV ⟨n20, n21, n22, n23⟩ V) = X := ⟨_, rfl⟩
    obtain ⟨lX, elX⟩ : ∃ l, X.length = l := ⟨_, rfl⟩
    obtain ⟨RS, hRS⟩ : ∃ l, duS ⟨n20, n21, n22, n23⟩ V = l := ⟨_, rfl⟩
    obtain ⟨L, hL⟩ : ∃ l, learnD ⟨n20, n21, n22, n23⟩ V = l := ⟨_, rfl⟩
    simp only [hX, elX] at hW hK
    simp only [hRS] at hW hK eX hs
    simp only [hL] at hW hR
    have hS := fun a q a' q' w' (r : RowIn .u8 w' a lX q X) (r' : RowIn .u8 w' a' lX q' X) => same_any a lX q X RS a' lX q' X RS w' r r'
    have es : sameB X RS X RS = true := by simp [sameB]
    simp only [es] at hS
    have h1 : (NX < a1) = False := eq_false (by omega)
    have h2 : (n01 < NX) = False := eq_false (by omega)
    clear e1 cE cL cN rE1 rL1 rN1 rD1 rK1 rV1 hX elX hRS es hNX hVV hok hxl hby hE eX eV eD hd h hL hle
    obtain ⟨la, lb, ls, lt⟩ := L
    unfold bv at hR hW hK hS
    unfold dv at hR hW
    simp only at hR hW
    go_enter Try.func7, Try.ntmps7
    go_wp2_with (first | ((with_reducible refine (hC _ (r00.same ((below2 w _ _)))).mono ?_); rintro e w1 ⟨rfl, hb1⟩; rw [size2] at hb1; have z1 := hb1.size; rw [size2] at z1; have hq1 : Below w.heap.size w w1 := (below2 w _ _).trans (hb1.mono (by omega)); have hB1 := hq1; have Xb_1 := (Box2.of (blk2a w _ _)).below hb1 (by omega); have Xd_1 := (Box4.of (blk2 w _ _)).below hb1 (by omega); have cb0_1 := Xb_1.c0; have cb1_1 := Xb_1.c1; have lb_1 : w.heap.size < w1.heap.size := (by omega); have cd0_1 := Xd_1.c0; have cd1_1 := Xd_1.c1; have cd2_1 := Xd_1.c2; have cd3_1 := Xd_1.c3; have ld_1 : w.heap.size + 1 < w1.heap.size := (by omega)) | ((with_reducible refine (hCD _ ).mono ?_); rintro e w2 ⟨rfl, hb2⟩; have z2 := hb2.size; have hq2 : Below w1.heap.size w1 w2 := (Below.refl _ w1).trans (hb2.mono (by omega)); have hB2 := hB1.trans (hq2.mono hB1.size); have Xb_2 := Xb_1.below hq2 (by omega); have Xd_2 := Xd_1.below hq2 (by omega); have cb0_2 := Xb_2.c0; have cb1_2 := Xb_2.c1; have lb_2 : w.heap.size < w2.heap.size := (by omega); have cd0_2 := Xd_2.c0; have cd1_2 := Xd_2.c1; have cd2_2 := Xd_2.c2; have cd3_2 := Xd_2.c3; have ld_2 : w.heap.size + 1 < w2.heap.size := (by omega); clear cb0_1 cb1_1 lb_1 Xb_1 cd0_1 cd1_1 cd2_1 cd3_1 ld_1 Xd_1) | ((with_reducible refine (hR _ (r00.same (hB2))).mono ?_); rintro e w3 ⟨rfl, hb3⟩; have z3 := hb3.size; have hq3 : Below w2.heap.size w2 w3 := (Below.refl _ w2).trans (hb3.mono (by omega)); have hB3 := hB2.trans (hq3.mono hB2.size); have Xb_3 := Xb_2.below hq3 (by omega); have Xd_3 := Xd_2.below hq3 (by omega); have cb0_3 := Xb_3.c0; have cb1_3 := Xb_3.c1; have lb_3 : w.heap.size < w3.heap.size := (by omega); have cd0_3 := Xd_3.c0; have cd1_3 := Xd_3.c1; have cd2_3 := Xd_3.c2; have cd3_3 := Xd_3.c3; have ld_3 : w.heap.size + 1 < w3.heap.size := (by omega); clear cb0_2 cb1_2 lb_2 Xb_2 cd0_2 cd1_2 cd2_2 cd3_2 ld_2 Xd_2) | ((with_reducible refine (hK _ (r00.same (hB3.trans ((below1 w3 _).mono hB3.size)))).mono ?_); rintro e w4 ⟨a4, q4, rfl, h4, hb4, -⟩; rw [size1] at hb4; have z4 := hb4.size; rw [size1] at z4; have hq4 : Below w3.heap.size w3 w4 := (below1 w3 _).trans (hb4.mono (by omega)); have hB4 := hB3.trans (hq4.mono hB3.size); have Xb_4 := Xb_3.below hq4 (by omega); have Xd_4 := Xd_3.below hq4 (by omega); have Xx_4 := (Box4.of (blk1 w3 _)).below hb4 (by omega); have Rp_4 := h4; have cb0_4 := Xb_4.c0; have cb1_4 := Xb_4.c1; have lb_4 : w.heap.size < w4.heap.size := (by omega); have cd0_4 := Xd_4.c0; have cd1_4 := Xd_4.c1; have cd2_4 := Xd_4.c2; have cd3_4 := Xd_4.c3; have ld_4 : w.heap.size + 1 < w4.heap.size := (by omega); have cx0_4 := Xx_4.c0; have cx1_4 := Xx_4.c1; have cx2_4 := Xx_4.c2; have cx3_4 := Xx_4.c3; have lx_4 : w3.heap.size < w4.heap.size := (by omega); clear cb0_3 cb1_3 lb_3 Xb_3 cd0_3 cd1_3 cd2_3 cd3_3 ld_3 Xd_3) | ((with_reducible refine (hW _ ).mono ?_); rintro e w5 ⟨a5, q5, rfl, h5, hb5, -⟩; rw [size1] at hb5; have z5 := hb5.size; rw [size1] at z5; have hq5 : Below w4.heap.size w4 w5 := (below1 w4 _).trans (hb5.mono (by omega)); have hB5 := hB4.trans (hq5.mono hB4.size); have Xb_5 := Xb_4.below hq5 (by omega); have Xd_5 := Xd_4.below hq5 (by omega); have Xx_5 := Xx_4.below hq5 (by omega); have Xp_5 := (Box2.of (blk1 w4 _)).below hb5 (by omega); have Rp_5 := Rp_4.same hq5; have Rq_5 := h5; have cb0_5 := Xb_5.c0; have cb1_5 := Xb_5.c1; have lb_5 : w.heap.size < w5.heap.size := (by omega); have cd0_5 := Xd_5.c0; have cd1_5 := Xd_5.c1; have cd2_5 := Xd_5.c2; have cd3_5 := Xd_5.c3; have ld_5 : w.heap.size + 1 < w5.heap.size := (by omega); have cx0_5 := Xx_5.c0; have cx1_5 := Xx_5.c1; have cx2_5 := Xx_5.c2; have cx3_5 := Xx_5.c3; have lx_5 : w3.heap.size < w5.heap.size := (by omega); have cp0_5 := Xp_5.c0; have cp1_5 := Xp_5.c1; have lp_5 : w4.heap.size < w5.heap.size := (by omega); clear cb0_4 cb1_4 lb_4 Xb_4 cd0_4 cd1_4 cd2_4 cd3_4 ld_4 Xd_4 cx0_4 cx1_4 cx2_4 cx3_4 lx_4 Xx_4) | ((with_reducible refine (hS _ _ _ _ _ (Rp_5.same (below2 w5 _ _)) (Rq_5.same (below2 w5 _ _))).mono ?_); rintro e w6 ⟨rfl, hb6⟩; rw [size2] at hb6; have z6 := hb6.size; rw [size2] at z6; have hq6 : Below w5.heap.size w5 w6 := (below2 w5 _ _).trans (hb6.mono (by omega)); have hB6 := hB5.trans (hq6.mono hB5.size); have Xb_6 := Xb_5.below hq6 (by omega); have Xd_6 := Xd_5.below hq6 (by omega); have Xx_6 := Xx_5.below hq6 (by omega); have Xp_6 := Xp_5.below hq6 (by omega); have Xq_6 := (Box2.of (blk2a w5 _ _)).below hb6 (by omega); have Xy_6 := (Box4.of (blk2 w5 _ _)).below hb6 (by omega); have Rp_6 := Rp_5.same hq6; have Rq_6 := Rq_5.same hq6; have cb0_6 := Xb_6.c0; have cb1_6 := Xb_6.c1; have lb_6 : w.heap.size < w6.heap.size := (by omega); have cd0_6 := Xd_6.c0; have cd1_6 := Xd_6.c1; have cd2_6 := Xd_6.c2; have cd3_6 := Xd_6.c3; have ld_6 : w.heap.size + 1 < w6.heap.size := (by omega); have cx0_6 := Xx_6.c0; have cx1_6 := Xx_6.c1; have cx2_6 := Xx_6.c2; have cx3_6 := Xx_6.c3; have lx_6 : w3.heap.size < w6.heap.size := (by omega); have cp0_6 := Xp_6.c0; have cp1_6 := Xp_6.c1; have lp_6 : w4.heap.size < w6.heap.size := (by omega); have cq0_6 := Xq_6.c0; have cq1_6 := Xq_6.c1; have lq_6 : w5.heap.size < w6.heap.size := (by omega); have cy0_6 := Xy_6.c0; have cy1_6 := Xy_6.c1; have cy2_6 := Xy_6.c2; have cy3_6 := Xy_6.c3; have ly_6 : w5.heap.size + 1 < w6.heap.size := (by omega); clear cb0_5 cb1_5 lb_5 Xb_5 cd0_5 cd1_5 cd2_5 cd3_5 ld_5 Xd_5 cx0_5 cx1_5 cx2_5 cx3_5 lx_5 Xx_5 cp0_5 cp1_5 lp_5 Xp_5) | (go_at_call 17; (with_reducible refine (alive8_any _).mono ?_); rintro e wA ⟨rfl, hbA⟩))
    go_ret
    exact ⟨rfl, hB6.trans (hbA.mono hB6.size)⟩
  · have hEr := dr_err hby hok h (by omega) hE
    have eN : drN x00 n01 a1 ⟨n20, n21, n22, n23⟩ = 0 := by rw [drN, if_neg hE]
    have eX : drX x00 n01 a1 ⟨n20, n21, n22, n23⟩ = 0 := by rw [drX, if_neg hE]
    have eD : drD x00 n01 a1 ⟨n20, n21, n22, n23⟩ = zD := by rw [drD, if_neg hE]
    simp only [eN, eX, eD] at hR
    rcases hEr with e | ⟨e, h80⟩
    · simp only [e] at hR
      unfold bv dv zD at hR
      simp only at hR
      clear e hE eN eX eD hok hxl hby e1 h hd
      go_enter Try.func7, Try.ntmps7
      go_wp2_with (first | ((with_reducible refine (hC _ (r00.same ((below2 w _ _)))).mono ?_); rintro e w1 ⟨rfl, hb1⟩; rw [size2] at hb1; have z1 := hb1.size; rw [size2] at z1; have hq1 : Below w.heap.size w w1 := (below2 w _ _).trans (hb1.mono (by omega)); have hB1 := hq1; have Xb_1 := (Box2.of (blk2a w _ _)).below hb1 (by omega); have Xd_1 := (Box4.of (blk2 w _ _)).below hb1 (by omega); have cb0_1 := Xb_1.c0; have cb1_1 := Xb_1.c1; have lb_1 : w.heap.size < w1.heap.size := (by omega); have cd0_1 := Xd_1.c0; have cd1_1 := Xd_1.c1; have cd2_1 := Xd_1.c2; have cd3_1 := Xd_1.c3; have ld_1 : w.heap.size + 1 < w1.heap.size := (by omega)) | ((with_reducible refine (hCD _ ).mono ?_); rintro e w2 ⟨rfl, hb2⟩; have z2 := hb2.size; have hq2 : Below w1.heap.size w1 w2 := (Below.refl _ w1).trans (hb2.mono (by omega)); have hB2 := hB1.trans (hq2.mono hB1.size); have Xb_2 := Xb_1.below hq2 (by omega); have Xd_2 := Xd_1.below hq2 (by omega); have cb0_2 := Xb_2.c0; have cb1_2 := Xb_2.c1; have lb_2 : w.heap.size < w2.heap.size := (by omega); have cd0_2 := Xd_2.c0; have cd1_2 := Xd_2.c1; have cd2_2 := Xd_2.c2; have cd3_2 := Xd_2.c3; have ld_2 : w.heap.size + 1 < w2.heap.size := (by omega); clear cb0_1 cb1_1 lb_1 Xb_1 cd0_1 cd1_1 cd2_1 cd3_1 ld_1 Xd_1) | ((with_reducible refine (hR _ (r00.same (hB2))).mono ?_); rintro e w3 ⟨rfl, hb3⟩; have z3 := hb3.size; have hq3 : Below w2.heap.size w2 w3 := (Below.refl _ w2).trans (hb3.mono (by omega)); have hB3 := hB2.trans (hq3.mono hB2.size); have Xb_3 := Xb_2.below hq3 (by omega); have Xd_3 := Xd_2.below hq3 (by omega); have cb0_3 := Xb_3.c0; have cb1_3 := Xb_3.c1; have lb_3 : w.heap.size < w3.heap.size := (by omega); have cd0_3 := Xd_3.c0; have cd1_3 := Xd_3.c1; have cd2_3 := Xd_3.c2; have cd3_3 := Xd_3.c3; have ld_3 : w.heap.size + 1 < w3.heap.size := (by omega); clear cb0_2 cb1_2 lb_2 Xb_2 cd0_2 cd1_2 cd2_2 cd3_2 ld_2 Xd_2) | (go_at_call 17; (with_reducible refine (alive8_any _).mono ?_); rintro e wA ⟨rfl, hbA⟩))
      go_ret
      exact ⟨rfl, (hB3.trans ((below1 w3 _).mono hB3.size)).trans (hbA.mono (by have := hB3.size; rw [size1]; omega))⟩
    · simp only [e] at hR
      unfold bv dv zD at hR
      simp only at hR
      have h1 : (81 ≤ n01 - a1) = True := eq_true h80
      clear e hE eN eX eD hok hxl hby e1 h hd
      go_enter Try.func7, Try.ntmps7
      go_wp2_with (first | ((with_reducible refine (hC _ (r00.same ((below2 w _ _)))).mono ?_); rintro e w1 ⟨rfl, hb1⟩; rw [size2] at hb1; have z1 := hb1.size; rw [size2] at z1; have hq1 : Below w.heap.size w w1 := (below2 w _ _).trans (hb1.mono (by omega)); have hB1 := hq1; have Xb_1 := (Box2.of (blk2a w _ _)).below hb1 (by omega); have Xd_1 := (Box4.of (blk2 w _ _)).below hb1 (by omega); have cb0_1 := Xb_1.c0; have cb1_1 := Xb_1.c1; have lb_1 : w.heap.size < w1.heap.size := (by omega); have cd0_1 := Xd_1.c0; have cd1_1 := Xd_1.c1; have cd2_1 := Xd_1.c2; have cd3_1 := Xd_1.c3; have ld_1 : w.heap.size + 1 < w1.heap.size := (by omega)) | ((with_reducible refine (hCD _ ).mono ?_); rintro e w2 ⟨rfl, hb2⟩; have z2 := hb2.size; have hq2 : Below w1.heap.size w1 w2 := (Below.refl _ w1).trans (hb2.mono (by omega)); have hB2 := hB1.trans (hq2.mono hB1.size); have Xb_2 := Xb_1.below hq2 (by omega); have Xd_2 := Xd_1.below hq2 (by omega); have cb0_2 := Xb_2.c0; have cb1_2 := Xb_2.c1; have lb_2 : w.heap.size < w2.heap.size := (by omega); have cd0_2 := Xd_2.c0; have cd1_2 := Xd_2.c1; have cd2_2 := Xd_2.c2; have cd3_2 := Xd_2.c3; have ld_2 : w.heap.size + 1 < w2.heap.size := (by omega); clear cb0_1 cb1_1 lb_1 Xb_1 cd0_1 cd1_1 cd2_1 cd3_1 ld_1 Xd_1) | ((with_reducible refine (hR _ (r00.same (hB2))).mono ?_); rintro e w3 ⟨rfl, hb3⟩; have z3 := hb3.size; have hq3 : Below w2.heap.size w2 w3 := (Below.refl _ w2).trans (hb3.mono (by omega)); have hB3 := hB2.trans (hq3.mono hB2.size); have Xb_3 := Xb_2.below hq3 (by omega); have Xd_3 := Xd_2.below hq3 (by omega); have cb0_3 := Xb_3.c0; have cb1_3 := Xb_3.c1; have lb_3 : w.heap.size < w3.heap.size := (by omega); have cd0_3 := Xd_3.c0; have cd1_3 := Xd_3.c1; have cd2_3 := Xd_3.c2; have cd3_3 := Xd_3.c3; have ld_3 : w.heap.size + 1 < w3.heap.size := (by omega); clear cb0_2 cb1_2 lb_2 Xb_2 cd0_2 cd1_2 cd2_2 cd3_2 ld_2 Xd_2) | (go_at_call 17; (with_reducible refine (alive8_any _).mono ?_); rintro e wA ⟨rfl, hbA⟩))
      go_ret
      exact ⟨rfl, (hB3.trans ((below1 w3 _).mono hB3.size)).trans (hbA.mono (by have := hB3.size; rw [size1]; omega))⟩
end Go.Proofs.Ytbhoodhcipegbaa.Wk

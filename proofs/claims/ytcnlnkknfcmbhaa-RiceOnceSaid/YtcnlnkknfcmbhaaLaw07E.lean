/- The law RiceOnce. -/
import Derived.Test.YtcnlnkknfcmbhaaLaw07
namespace Go.Proofs.Ytcnlnkknfcmbhaa.Wk
open Go.Proofs Go.RowKit Go.Proofs.Ytcnlnkknfcmbhaa.Kit Go.Proofs.Ytcnlnkknfcmbhaa.M01 Go.Proofs.Ytcnlnkknfcmbhaa.M02 Go.Proofs.Ytcnlnkknfcmbhaa.M06 Go.Proofs.Ytcnlnkknfcmbhaa.M07 Go.Proofs.Ytcnlnkknfcmbhaa.Bt Go.Proofs.Ytcnlnkknfcmbhaa.R02 Go.Proofs.Ytcnlnkknfcmbhaa.Un Go.Proofs.Ytcnlnkknfcmbhaa.R06 Go.Proofs.Ytcnlnkknfcmbhaa.Ri Go.Proofs.Ytcnlnkknfcmbhaa.R07
set_option linter.unusedVariables false

theorem rr_err {xs : List Int} {n p k : Int} (hb : isByte xs) (hok : okB xs n = true) (hp : 0 ≤ p) (h0 : 0 ≤ k) (h1 : k ≤ 24) (h : rrE xs n p k ≠ 0) : rrE xs n p k = 24 ∨ (rrE xs n p k = 12 ∧ 80 ≤ n - p) := by
  by_cases hE : rdE xs n p = 0
  · obtain ⟨-, pX, pN, pL⟩ := rd_next hb hok hE
    rw [rrE, if_pos hok, if_neg (by omega), if_neg (by rw [hE]; simp)] at h ⊢
    by_cases hS : n - rdX xs n p < dcM (val xs / p2 p) k
    · rw [if_pos hS]; exact .inl rfl
    · rw [if_neg hS] at h ⊢
      by_cases g : qP (dcN (val xs / p2 p) k) k = cq (val xs / p2 p)
      · rw [if_neg (by simp [g])] at h; exact absurd rfl h
      · rw [if_pos g]
        refine .inr ⟨rfl, ?_⟩
        have h48 : cq (val xs / p2 p) = 48 := by
          by_cases q : cq (val xs / p2 p) = 48
          · exact q
          · exact absurd (dc_q q).1 g
        rw [pX] at hS
        unfold dcM at hS
        rw [h48, bhS_48, runS_48] at hS
        omega
  · have e : rdE xs n p = 24 := by
      unfold rdE at hE ⊢
      rw [if_pos hok, if_neg (by omega)] at hE ⊢
      by_cases q : n ≤ p
      · rw [if_pos q]
      · rw [if_neg q] at hE ⊢
        by_cases q2 : ons xs p < 48 ∧ n ≤ p + ons xs p
        · rw [if_pos q2]
        · rw [if_neg q2] at hE; exact absurd rfl hE
    rw [rrE, if_pos hok, if_neg (by omega), if_pos hE, e]; exact .inl rfl

theorem rr_ok {xs : List Int} {n p k : Int} (hb : isByte xs) (hok : okB xs n = true) (h0 : 0 ≤ k) (h1 : k ≤ 24) (h : rrE xs n p k = 0) :
    isU32 (rrN xs n p k) ∧ p ≤ rrX xs n p k ∧ rrX xs n p k ≤ n ∧ rrX xs n p k - p = cdS (rrN xs n p k) k ∧ val xs / p2 p % p2 (cdS (rrN xs n p k) k) = cdV (rrN xs n p k) k := by
  have eN : rrN xs n p k = dcN (val xs / p2 p) k := by rw [rrN, if_pos h]
  have eX : rrX xs n p k = p + dcS (val xs / p2 p) k := by rw [rrX, if_pos h]
  have hE : rdE xs n p = 0 := by
    by_cases q : rdE xs n p = 0
    · exact q
    · rw [rrE, if_pos hok, if_neg (by omega), if_pos q] at h; exact absurd h q
  obtain ⟨hp, pX, pN, pL⟩ := rd_next hb hok hE
  rw [rrE, if_pos hok, if_neg (by omega), if_neg (by rw [hE]; simp)] at h
  by_cases hS : n - rdX xs n p < dcM (val xs / p2 p) k
  · rw [if_pos hS] at h; omega
  · rw [if_neg hS] at h
    by_cases g : qP (dcN (val xs / p2 p) k) k = cq (val xs / p2 p)
    · obtain ⟨c1, c2⟩ := dc_code h0 h1 g
      have hnb := dcN_bd (X := val xs / p2 p) h0 h1
      have hd : dcS (val xs / p2 p) k = runS (cq (val xs / p2 p)) + dcM (val xs / p2 p) k := rfl
      have hs := runS_bd (cq_bd (val xs / p2 p)).1 (cq_bd (val xs / p2 p)).2
      have hB := bhS_bd (cq (val xs / p2 p)) h0 h1
      have hM : dcM (val xs / p2 p) k = bhS (cq (val xs / p2 p)) k := rfl
      rw [eN, eX, c1, c2]
      exact ⟨⟨hnb.1, hnb.2.1⟩, by omega, by omega, by omega, rfl⟩
    · rw [if_pos g] at h; omega

set_option maxRecDepth 100000 in
set_option maxHeartbeats 8000000 in
theorem riceOnce_walk (a00 : Option Addr) (l00 c00 : Nat) (x00 : List Int) (n01 : Int) (a1 : Int) (a2 : Int) (w : World) (r00 : RowIn .u8 w a00 l00 c00 x00) (b01 : -9223372036854775808 ≤ n01 ∧ n01 ≤ 9223372036854775807) (b1 : -9223372036854775808 ≤ a1 ∧ a1 ≤ 9223372036854775807) (b2 : -9223372036854775808 ≤ a2 ∧ a2 ≤ 9223372036854775807) :
    Calls Try.prog 6 #[.agg #[.slice a00 l00 c00, .int .i64 n01], .int .i64 a1, .int .i64 a2] w fun e w' => e = .returned (.bool true) ∧ Below w.heap.size w w' := by
  have hC := fun w' (r : RowIn .u8 w' a00 l00 c00 x00) => rcheck_any a00 l00 c00 x00 n01 w' r b01
  unfold bv at hC
  by_cases hok : okB x00 n01 = true
  · have e1 : chkE x00 n01 = 0 := by simp [chkE, hok]
    simp only [e1] at hC
    obtain ⟨hn0, hn1, hxl, hval⟩ := okB_iff.1 hok
    have hby := byte_of r00.rd
    by_cases t0 : 1500 < n01
    · have f0 : (1500 < n01) = True := eq_true t0
      go_enter Try.func6, Try.ntmps6
      go_wp2_with (first | ((with_reducible refine (hC _ (r00.same (below1 w _))).mono ?_); rintro e w1 ⟨rfl, hb1⟩; rw [size1] at hb1; have hB1 := (below1 w _).trans (hb1.mono (by omega)); have z1 := hb1.size; rw [size1] at z1; have Xb_1 := (Box2.of (blk1 w _)).below hb1 (by omega); have cb0_1 := Xb_1.c0; have cb1_1 := Xb_1.c1; have lb_1 : w.heap.size < w1.heap.size := (by omega)) | (go_at_call 14; (with_reducible refine (alive7_any _).mono ?_); rintro e wA ⟨rfl, hbA⟩))
      go_ret
      exact ⟨rfl, hB1.trans (hbA.mono hB1.size)⟩
    have f0 : (1500 < n01) = False := eq_false t0
    by_cases t1 : a1 < 0
    · have f1 : (a1 < 0) = True := eq_true t1
      go_enter Try.func6, Try.ntmps6
      go_wp2_with (first | ((with_reducible refine (hC _ (r00.same (below1 w _))).mono ?_); rintro e w1 ⟨rfl, hb1⟩; rw [size1] at hb1; have hB1 := (below1 w _).trans (hb1.mono (by omega)); have z1 := hb1.size; rw [size1] at z1; have Xb_1 := (Box2.of (blk1 w _)).below hb1 (by omega); have cb0_1 := Xb_1.c0; have cb1_1 := Xb_1.c1; have lb_1 : w.heap.size < w1.heap.size := (by omega)) | (go_at_call 14; (with_reducible refine (alive7_any _).mono ?_); rintro e wA ⟨rfl, hbA⟩))
      go_ret
      exact ⟨rfl, hB1.trans (hbA.mono hB1.size)⟩
    have f1 : (a1 < 0) = False := eq_false t1
    by_cases t2 : n01 < a1
    · have f2 : (n01 < a1) = True := eq_true t2
      go_enter Try.func6, Try.ntmps6
      go_wp2_with (first | ((with_reducible refine (hC _ (r00.same (below1 w _))).mono ?_); rintro e w1 ⟨rfl, hb1⟩; rw [size1] at hb1; have hB1 := (below1 w _).trans (hb1.mono (by omega)); have z1 := hb1.size; rw [size1] at z1; have Xb_1 := (Box2.of (blk1 w _)).below hb1 (by omega); have cb0_1 := Xb_1.c0; have cb1_1 := Xb_1.c1; have lb_1 : w.heap.size < w1.heap.size := (by omega)) | (go_at_call 14; (with_reducible refine (alive7_any _).mono ?_); rintro e wA ⟨rfl, hbA⟩))
      go_ret
      exact ⟨rfl, hB1.trans (hbA.mono hB1.size)⟩
    have f2 : (n01 < a1) = False := eq_false t2
    by_cases t3 : a2 < 0
    · have f3 : (a2 < 0) = True := eq_true t3
      go_enter Try.func6, Try.ntmps6
      go_wp2_with (first | ((with_reducible refine (hC _ (r00.same (below1 w _))).mono ?_); rintro e w1 ⟨rfl, hb1⟩; rw [size1] at hb1; have hB1 := (below1 w _).trans (hb1.mono (by omega)); have z1 := hb1.size; rw [size1] at z1; have Xb_1 := (Box2.of (blk1 w _)).below hb1 (by omega); have cb0_1 := Xb_1.c0; have cb1_1 := Xb_1.c1; have lb_1 : w.heap.size < w1.heap.size := (by omega)) | (go_at_call 14; (with_reducible refine (alive7_any _).mono ?_); rintro e wA ⟨rfl, hbA⟩))
      go_ret
      exact ⟨rfl, hB1.trans (hbA.mono hB1.size)⟩
    have f3 : (a2 < 0) = False := eq_false t3
    by_cases t4 : 24 < a2
    · have f4 : (24 < a2) = True := eq_true t4
      go_enter Try.func6, Try.ntmps6
      go_wp2_with (first | ((with_reducible refine (hC _ (r00.same (below1 w _))).mono ?_); rintro e w1 ⟨rfl, hb1⟩; rw [size1] at hb1; have hB1 := (below1 w _).trans (hb1.mono (by omega)); have z1 := hb1.size; rw [size1] at z1; have Xb_1 := (Box2.of (blk1 w _)).below hb1 (by omega); have cb0_1 := Xb_1.c0; have cb1_1 := Xb_1.c1; have lb_1 : w.heap.size < w1.heap.size := (by omega)) | (go_at_call 14; (with_reducible refine (alive7_any _).mono ?_); rintro e wA ⟨rfl, hbA⟩))
      go_ret
      exact ⟨rfl, hB1.trans (hbA.mono hB1.size)⟩
    have f4 : (24 < a2) = False := eq_false t4
    have hR := fun w' (r : RowIn .u8 w' a00 l00 c00 x00) => rrd_any a00 l00 c00 x00 n01 a1 a2 w' r b01 b1 b2
    by_cases hE : rrE x00 n01 a1 a2 = 0
    · obtain ⟨hv, x1, x2, hS, hV⟩ := rr_ok hby hok (by omega) (by omega) hE
      obtain ⟨V, hVV⟩ : ∃ V, rrN x00 n01 a1 a2 = V := ⟨_, rfl⟩
      obtain ⟨NX, hNX⟩ : ∃ V, rrX x00 n01 a1 a2 = V := ⟨_, rfl⟩
      simp only [hE, hVV, hNX] at hR
      rw [hVV] at hv hS hV
      rw [hNX] at hS x1 x2
      have cE : cuE x00 n01 a1 NX = 0 := by rw [cuE, if_pos hok, if_neg (by omega)]
      have cL : cuL x00 n01 a1 NX = bl (cdS V a2) (cdV V a2) := by rw [cuL, if_pos cE, hS, hV]
      have cN : cuN x00 n01 a1 NX = cdS V a2 := by rw [cuN, if_pos cE, hS]
      obtain ⟨rE1, rL1, rN1, rK1, rV1⟩ := rw_nil (v := V) (k := a2) hv (by omega) (by omega)
      have hW := fun w' => rwr_any none 0 0 [] 0 V a2 w' RowIn.nil (isInt_small (by decide) (by decide)) hv b2
      have hK := fun w' (r : RowIn .u8 w' a00 l00 c00 x00) => cut_any a00 l00 c00 x00 n01 a1 NX w' r b01 b1 (isInt_small (by omega) (by omega))
      simp only [rE1, rL1, rN1] at hW
      simp only [cE, cL, cN] at hK
      obtain ⟨X, hX⟩ : ∃ X, bl (cdS V a2) (cdV V a2) = X := ⟨_, rfl⟩
      obtain ⟨lX, elX⟩ : ∃ l, X.length = l := ⟨_, rfl⟩
      obtain ⟨RS, hRS⟩ : ∃ l, cdS V a2 = l := ⟨_, rfl⟩
      simp only [hX, elX] at hW hK
      simp only [hRS] at hW hK
      have hS' := fun a q a' q' w' (r : RowIn .u8 w' a lX q X) (r' : RowIn .u8 w' a' lX q' X) => same_any a lX q X RS a' lX q' X RS w' r r'
      have es : sameB X RS X RS = true := by simp [sameB]
      simp only [es] at hS'
      clear hS
      have hS := hS'
      have h1 : (NX < a1) = False := eq_false (by omega)
      have h2 : (n01 < NX) = False := eq_false (by omega)
      clear e1 cE cL cN rE1 rL1 rN1 rK1 rV1 hX elX hRS es hNX hVV hok hxl hby hV hE hS' x1 x2
      unfold bv at hR hW hK hS
      go_enter Try.func6, Try.ntmps6
      go_wp2_with (first | ((with_reducible refine (hC _ (r00.same (below1 w _))).mono ?_); rintro e w1 ⟨rfl, hb1⟩; rw [size1] at hb1; have hB1 := (below1 w _).trans (hb1.mono (by omega)); have z1 := hb1.size; rw [size1] at z1; have Xb_1 := (Box2.of (blk1 w _)).below hb1 (by omega); have cb0_1 := Xb_1.c0; have cb1_1 := Xb_1.c1; have lb_1 : w.heap.size < w1.heap.size := (by omega)) | ((with_reducible refine (hR _ (r00.same (hB1))).mono ?_); rintro e w2 ⟨rfl, hb2⟩; have hq2 := hb2; have z2 := hb2.size; have hB2 := hB1.trans (hq2.mono hB1.size); have Xb_2 := Xb_1.below hq2 (by omega); have cb0_2 := Xb_2.c0; have cb1_2 := Xb_2.c1; have lb_2 : w.heap.size < w2.heap.size := (by omega); clear cb0_1 cb1_1 lb_1) | ((with_reducible refine (hK _ (r00.same (hB2))).mono ?_); rintro e w3 ⟨a3, q3, rfl, h3, hb3, -⟩; have hq3 := hb3; have z3 := hb3.size; have hB3 := hB2.trans (hq3.mono hB2.size); have Xb_3 := Xb_2.below hq3 (by omega); have Rx_3 := h3; have cb0_3 := Xb_3.c0; have cb1_3 := Xb_3.c1; have lb_3 : w.heap.size < w3.heap.size := (by omega); clear cb0_2 cb1_2 lb_2) | ((with_reducible refine (hW _ ).mono ?_); rintro e w4 ⟨a4, q4, rfl, h4, hb4, -⟩; rw [size1] at hb4; have hq4 := (below1 w3 _).trans (hb4.mono (Nat.le_succ _)); have z4 := hb4.size; rw [size1] at z4; have hB4 := hB3.trans (hq4.mono hB3.size); have Xb_4 := Xb_3.below hq4 (by omega); have Xx_4 := (Box2.of (blk1 w3 _)).below hb4 (Nat.lt_succ_self _); have Rx_4 := Rx_3.same hq4; have Ry_4 := h4; have cb0_4 := Xb_4.c0; have cb1_4 := Xb_4.c1; have lb_4 : w.heap.size < w4.heap.size := (by omega); have cx0_4 := Xx_4.c0; have cx1_4 := Xx_4.c1; have lx_4 : w3.heap.size < w4.heap.size := (by omega); clear cb0_3 cb1_3 lb_3) | ((with_reducible refine (hS _ _ _ _ _ (Rx_4.same (below1 w4 _)) (Ry_4.same (below1 w4 _))).mono ?_); rintro e w5 ⟨rfl, hb5⟩; rw [size1] at hb5; have hq5 := (below1 w4 _).trans (hb5.mono (Nat.le_succ _)); have z5 := hb5.size; rw [size1] at z5; have hB5 := hB4.trans (hq5.mono hB4.size); have Xb_5 := Xb_4.below hq5 (by omega); have Xx_5 := Xx_4.below hq5 (by omega); have Xy_5 := (Box2.of (blk1 w4 _)).below hb5 (Nat.lt_succ_self _); have Rx_5 := Rx_4.same hq5; have Ry_5 := Ry_4.same hq5; have cb0_5 := Xb_5.c0; have cb1_5 := Xb_5.c1; have lb_5 : w.heap.size < w5.heap.size := (by omega); have cx0_5 := Xx_5.c0; have cx1_5 := Xx_5.c1; have lx_5 : w3.heap.size < w5.heap.size := (by omega); have cy0_5 := Xy_5.c0; have cy1_5 := Xy_5.c1; have ly_5 : w4.heap.size < w5.heap.size := (by omega); clear cb0_4 cb1_4 lb_4 cx0_4 cx1_4 lx_4) | (go_at_call 14; (with_reducible refine (alive7_any _).mono ?_); rintro e wA ⟨rfl, hbA⟩))
      go_ret
      exact ⟨rfl, hB5.trans (hbA.mono hB5.size)⟩
    · have hEr := rr_err hby hok (by omega) (by omega) (by omega) hE
      have eN : rrN x00 n01 a1 a2 = 0 := by rw [rrN, if_neg hE]
      have eX : rrX x00 n01 a1 a2 = 0 := by rw [rrX, if_neg hE]
      simp only [eN, eX] at hR
      rcases hEr with e | ⟨e, h80⟩
      · simp only [e] at hR
        unfold bv at hR
        clear e hE eN eX hok hxl hby e1
        go_enter Try.func6, Try.ntmps6
        go_wp2_with (first | ((with_reducible refine (hC _ (r00.same (below1 w _))).mono ?_); rintro e w1 ⟨rfl, hb1⟩; rw [size1] at hb1; have hB1 := (below1 w _).trans (hb1.mono (by omega)); have z1 := hb1.size; rw [size1] at z1; have Xb_1 := (Box2.of (blk1 w _)).below hb1 (by omega); have cb0_1 := Xb_1.c0; have cb1_1 := Xb_1.c1; have lb_1 : w.heap.size < w1.heap.size := (by omega)) | ((with_reducible refine (hR _ (r00.same (hB1))).mono ?_); rintro e w2 ⟨rfl, hb2⟩; have hq2 := hb2; have z2 := hb2.size; have hB2 := hB1.trans (hq2.mono hB1.size); have Xb_2 := Xb_1.below hq2 (by omega); have cb0_2 := Xb_2.c0; have cb1_2 := Xb_2.c1; have lb_2 : w.heap.size < w2.heap.size := (by omega); clear cb0_1 cb1_1 lb_1) | (go_at_call 14; (with_reducible refine (alive7_any _).mono ?_); rintro e wA ⟨rfl, hbA⟩))
        go_ret
        exact ⟨rfl, hB2.trans (hbA.mono hB2.size)⟩
      · simp only [e] at hR
        unfold bv at hR
        have h1 : (80 ≤ n01 - a1) = True := eq_true h80
        clear e hE eN eX hok hxl hby e1
        go_enter Try.func6, Try.ntmps6
        go_wp2_with (first | ((with_reducible refine (hC _ (r00.same (below1 w _))).mono ?_); rintro e w1 ⟨rfl, hb1⟩; rw [size1] at hb1; have hB1 := (below1 w _).trans (hb1.mono (by omega)); have z1 := hb1.size; rw [size1] at z1; have Xb_1 := (Box2.of (blk1 w _)).below hb1 (by omega); have cb0_1 := Xb_1.c0; have cb1_1 := Xb_1.c1; have lb_1 : w.heap.size < w1.heap.size := (by omega)) | ((with_reducible refine (hR _ (r00.same (hB1))).mono ?_); rintro e w2 ⟨rfl, hb2⟩; have hq2 := hb2; have z2 := hb2.size; have hB2 := hB1.trans (hq2.mono hB1.size); have Xb_2 := Xb_1.below hq2 (by omega); have cb0_2 := Xb_2.c0; have cb1_2 := Xb_2.c1; have lb_2 : w.heap.size < w2.heap.size := (by omega); clear cb0_1 cb1_1 lb_1) | (go_at_call 14; (with_reducible refine (alive7_any _).mono ?_); rintro e wA ⟨rfl, hbA⟩))
        go_ret
        exact ⟨rfl, hB2.trans (hbA.mono hB2.size)⟩
  · have e1 : chkE x00 n01 = 8 := by simp [chkE, hok]
    simp only [e1] at hC
    go_enter Try.func6, Try.ntmps6
    go_wp2_with (first | ((with_reducible refine (hC _ (r00.same (below1 w _))).mono ?_); rintro e w1 ⟨rfl, hb1⟩; rw [size1] at hb1; have hB1 := (below1 w _).trans (hb1.mono (by omega)); have z1 := hb1.size; rw [size1] at z1; have Xb_1 := (Box2.of (blk1 w _)).below hb1 (by omega); have cb0_1 := Xb_1.c0; have cb1_1 := Xb_1.c1; have lb_1 : w.heap.size < w1.heap.size := (by omega)) | (go_at_call 14; (with_reducible refine (alive7_any _).mono ?_); rintro e wA ⟨rfl, hbA⟩))
    go_ret
    exact ⟨rfl, hB1.trans (hbA.mono hB1.size)⟩
end Go.Proofs.Ytcnlnkknfcmbhaa.Wk

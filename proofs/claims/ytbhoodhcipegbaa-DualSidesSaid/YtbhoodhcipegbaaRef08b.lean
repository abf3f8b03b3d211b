/- What the reference of layer 8 returns: learning, lengths. -/
import Derived.Test.YtbhoodhcipegbaaRef08
import Derived.Deep.RegionHeld3
namespace Go.Proofs.Ytbhoodhcipegbaa.R08
open Go.Proofs Go.RowKit Go.Proofs.Ytbhoodhcipegbaa.Kit Go.Proofs.Ytbhoodhcipegbaa.M01 Go.Proofs.Ytbhoodhcipegbaa.M02 Go.Proofs.Ytbhoodhcipegbaa.M06 Go.Proofs.Ytbhoodhcipegbaa.M07 Go.Proofs.Ytbhoodhcipegbaa.M08 Go.Proofs.Ytbhoodhcipegbaa.Bt Go.Proofs.Ytbhoodhcipegbaa.R02 Go.Proofs.Ytbhoodhcipegbaa.Un Go.Proofs.Ytbhoodhcipegbaa.R06 Go.Proofs.Ytbhoodhcipegbaa.Ri Go.Proofs.Ytbhoodhcipegbaa.R07 Go.Proofs.Ytbhoodhcipegbaa.Du
set_option linter.unusedVariables false
attribute [local irreducible] wpStill

set_option maxHeartbeats 8000000 in
theorem learnt_any (d : D4) (v : Int) (w : World) (hd : isD d) (h : okD d = true) (hv : isU v) :
    Calls Try.prog 42 #[dv d, .int .u32 v] w fun e w' => e = .returned (dv (learnD d v)) ∧ Below w.heap.size w w' := by
  obtain ⟨a0, a1, b0, b1, s1, t1⟩ := okD_iff.1 h
  have hP0 := fun w' => rpair_any d.a d.s v w' a0 a1 hd.2.2.1.1 s1 hv
  have hu := small_u64' hv
  have hw0 := p2_24le a1
  have hw1 := p2_pos d.a
  by_cases hl : v < p2 d.a
  · have hLo := fun w' => low8_any d v true w' a0 a1 hv (decide_eq_true hl).symm
    have e1 : learnD d v = ⟨lK d.a (lS d.s v), d.b, lS d.s v, d.t⟩ := by unfold learnD; rw [if_pos hl, if_pos hl]
    rw [e1]
    clear e1 h
    obtain ⟨a, b, s, t⟩ := d
    simp only at a0 a1 b0 b1 s1 t1 hP0 hLo hl hw0 hw1 ⊢
    unfold dv at hLo ⊢
    simp only at hLo ⊢
    obtain ⟨K0, hK0⟩ : ∃ P, lK a (lS s v) = P := ⟨_, rfl⟩
    obtain ⟨S0, hS0⟩ : ∃ P, lS s v = P := ⟨_, rfl⟩
    simp only [hK0] at hP0 ⊢
    simp only [hS0] at hP0 ⊢
    clear hK0 hS0 hl hd
    go_enter Try.func42, Try.ntmps42
    go_wp2_with (first | (go_at_call 60; (with_reducible refine (hLo _).mono ?_); rintro e w1 ⟨rfl, hb1⟩; have hB1 := (below3 w _ _ _).trans (hb1.mono (by rw [size3]; omega)); have z1 : w.heap.size + 3 ≤ w1.heap.size := (by have := hb1.size; rw [size3] at this; exact this); obtain ⟨dc0, dc1, dc2, dc3, df0, df1, df2, df3⟩ := (Box4.of (blk3a w _ _ _)).below hb1 (by rw [size3]; omega); obtain ⟨rc0, rc1, rc2, rc3, rf0, rf1, rf2, rf3⟩ := (Box4.of (blk3b w _ _ _)).below hb1 (by rw [size3]; omega); obtain ⟨xc0, xc1, xc2, xc3, xf0, xf1, xf2, xf3⟩ := (Box4.of (blk3 w _ _ _)).below hb1 (by rw [size3]; omega)) | (go_at_call 61; (with_reducible refine (hP0 _).mono ?_); rintro e wz ⟨rfl, rfl⟩))
    refine bodyPost_ret_by (v := .agg #[.int .i64 K0, .int .i64 b, .int .u64 S0, .int .u64 t]) (by rw [results_cell1 rfl]; go_simp) rfl ?_
    exact ⟨rfl, Below.set4 ((hB1.setCell (by dsimp only; omega) _).setCell (by dsimp only; omega) _) (by omega) _ _ _ _⟩
  · have hLo := fun w' => low8_any d v false w' a0 a1 hv (decide_eq_false hl).symm
    have hul := left_bd hv hl
    have hLf := fun w' => left8_any d v w' a0 a1 hv hl
    have hP1 := fun w' => rpair_any d.b d.t (v - p2 d.a) w' b0 b1 hd.2.2.2.1 t1 hul
    have e1 : learnD d v = ⟨lK d.a (lS d.s v), lK d.b (lS d.t (v - p2 d.a)), lS d.s v, lS d.t (v - p2 d.a)⟩ := by unfold learnD; rw [if_neg hl, if_neg hl]
    rw [e1]
    clear e1 h
    obtain ⟨a, b, s, t⟩ := d
    simp only at a0 a1 b0 b1 s1 t1 hP0 hP1 hLo hLf hl hw0 hw1 hul ⊢
    unfold dv at hLo hLf ⊢
    simp only at hLo hLf ⊢
    obtain ⟨U, hU⟩ : ∃ U, v - p2 a = U := ⟨_, rfl⟩
    simp only [hU] at hLf hP1 hul ⊢
    have hu2 := small_u64' hul
    obtain ⟨K0, hK0⟩ : ∃ P, lK a (lS s v) = P := ⟨_, rfl⟩
    obtain ⟨S0, hS0⟩ : ∃ P, lS s v = P := ⟨_, rfl⟩
    obtain ⟨K1, hK1⟩ : ∃ P, lK b (lS t U) = P := ⟨_, rfl⟩
    obtain ⟨S1, hS1⟩ : ∃ P, lS t U = P := ⟨_, rfl⟩
    simp only [hK0] at hP0 ⊢
    simp only [hS0] at hP0 ⊢
    simp only [hK1] at hP1 ⊢
    simp only [hS1] at hP1 ⊢
    clear hK0 hS0 hK1 hS1 hU hl hd
    go_enter Try.func42, Try.ntmps42
    go_wp2_with ((go_at_call 60; (with_reducible refine (hLo _).mono ?_); rintro e w1 ⟨rfl, hb1⟩; have hB1 := (below3 w _ _ _).trans (hb1.mono (by rw [size3]; omega)); have z1 : w.heap.size + 3 ≤ w1.heap.size := (by have := hb1.size; rw [size3] at this; exact this); obtain ⟨dc0, dc1, dc2, dc3, df0, df1, df2, df3⟩ := (Box4.of (blk3a w _ _ _)).below hb1 (by rw [size3]; omega); obtain ⟨rc0, rc1, rc2, rc3, rf0, rf1, rf2, rf3⟩ := (Box4.of (blk3b w _ _ _)).below hb1 (by rw [size3]; omega); obtain ⟨xc0, xc1, xc2, xc3, xf0, xf1, xf2, xf3⟩ := (Box4.of (blk3 w _ _ _)).below hb1 (by rw [size3]; omega)))
    have hn : w.heap.size ≠ w.heap.size + 2 := by omega
    go_region_held3 (fun w' => w'.cell? ⟨w.heap.size, 0, none⟩ = some (.int .i64 a) ∧ w'.cell? ⟨w.heap.size, 1, none⟩ = some (.int .i64 b) ∧ w'.cell? ⟨w.heap.size, 2, none⟩ = some (.int .u64 s) ∧ w'.cell? ⟨w.heap.size, 3, none⟩ = some (.int .u64 t)) (first | exact ⟨dc0, dc1, dc2, dc3⟩ | exact ⟨dc0', dc1', dc2', dc3'⟩ | exact ⟨cellS1 dc0' hn, cellS1 dc1' hn, cellS1 dc2' hn, cellS1 dc3' hn⟩ | exact ⟨cellS2 dc0' hn, cellS2 dc1' hn, cellS2 dc2' hn, cellS2 dc3' hn⟩ | go_keep) (first | (go_at_call 62; (with_reducible refine (hLf _).mono ?_); rintro e w2 ⟨rfl, hb2⟩; have hB2 := hB1.drew.trans (hb2.mono (show w.heap.size ≤ w1.heap.size by omega)); have z2 : w1.heap.size ≤ w2.heap.size := hb2.size; obtain ⟨dc0', dc1', dc2', dc3', df0', df1', df2', df3'⟩ := (Box4.mk dc0 dc1 dc2 dc3 df0 df1 df2 df3).drew.below hb2 (show w.heap.size < w1.heap.size by omega); obtain ⟨rc0', rc1', rc2', rc3', rf0', rf1', rf2', rf3'⟩ := (Box4.mk rc0 rc1 rc2 rc3 rf0 rf1 rf2 rf3).drew.below hb2 (show w.heap.size + 1 < w1.heap.size by omega); obtain ⟨xc0', xc1', xc2', xc3', xf0', xf1', xf2', xf3'⟩ := (Box4.mk xc0 xc1 xc2 xc3 xf0 xf1 xf2 xf3).drew.below hb2 (show w.heap.size + 2 < w1.heap.size by omega)) | (go_at_call 61; (with_reducible refine (hP1 _).mono ?_); rintro e wz ⟨rfl, rfl⟩))
    all_goals
      clear dc0 dc1 dc2 dc3 df0 df1 df2 df3 rc0 rc1 rc2 rc3 rf0 rf1 rf2 rf3 xc0 xc1 xc2 xc3 xf0 xf1 xf2 xf3
      go_wp2_with ((go_at_call 61; (with_reducible refine (hP0 _).mono ?_); rintro e wz ⟨rfl, rfl⟩))
      refine bodyPost_ret_by (v := .agg #[.int .i64 K0, .int .i64 K1, .int .u64 S0, .int .u64 S1]) (by rw [results_cell1 rfl]; go_simp) rfl ?_
      exact ⟨rfl, Below.set4 ((((hB2.setCell (by dsimp only; omega) _).setCell (by dsimp only; omega) _).setCell (by dsimp only; omega) _).setCell (by dsimp only; omega) _) (by omega) _ _ _ _⟩

set_option maxHeartbeats 8000000 in
theorem rlearn_any (d : D4) (v : Int) (w : World) (hd : isD d) (hv : isU v) :
    Calls Try.prog 20 #[dv d, .int .u32 v] w fun e w' => e = .returned (.tuple #[dv (lnD d v), .int .i64 (chD d)]) ∧ Below w.heap.size w w' := by
  have hC := fun w' => rcheckD_any d w' hd
  by_cases h : okD d = true
  · have hL := fun w' => learnt_any d v w' hd h hv
    rw [show chD d = 0 by unfold chD; rw [if_pos h]] at hC ⊢
    rw [show lnD d v = learnD d v by unfold lnD; rw [if_pos h]]
    obtain ⟨L, hLL⟩ : ∃ L, learnD d v = L := ⟨_, rfl⟩
    simp only [hLL] at hL ⊢
    clear h hd hLL
    obtain ⟨a, b, s, t⟩ := d
    obtain ⟨la, lb, ls, lt⟩ := L
    unfold dv at hC hL ⊢
    simp only at hC hL ⊢
    go_enter Try.func20, Try.ntmps20
    go_wp2_with (first | (go_at_call 25; (with_reducible refine (hC _).mono ?_); rintro e w1 ⟨rfl, hb1⟩; have hB1 := (below2 w _ _).trans (hb1.mono (by rw [size2]; omega)); have z1 : w.heap.size + 2 ≤ w1.heap.size := (by have := hb1.size; rw [size2] at this; exact this); obtain ⟨dc0, dc1, dc2, dc3, df0, df1, df2, df3⟩ := (Box4.of (blk2a w _ _)).below hb1 (by rw [size2]; omega); obtain ⟨rc0, rc1, rc2, rc3, rf0, rf1, rf2, rf3⟩ := (Box4.of (blk2 w _ _)).below hb1 (by rw [size2]; omega)) | (go_at_call 42; (with_reducible refine (hL _).mono ?_); rintro e w2 ⟨rfl, hb2⟩; have hB2 := hB1.trans (hb2.mono (by omega)); have z2 := hb2.size; have R2 := (Box4.mk rc0 rc1 rc2 rc3 rf0 rf1 rf2 rf3).below hb2 (by omega); clear dc0 dc1 dc2 dc3 df0 df1 df2 df3 rc0 rc1 rc2 rc3 rf0 rf1 rf2 rf3; obtain ⟨rc0, rc1, rc2, rc3, rf0, rf1, rf2, rf3⟩ := R2))
    refine bodyPost_ret_by (v := .tuple #[.agg #[.int .i64 la, .int .i64 lb, .int .u64 ls, .int .u64 lt], .int .i64 0]) (by rw [results_cell_tmp rfl]; go_simp) rfl ?_
    exact ⟨rfl, Below.set4 hB2 (by omega) _ _ _ _⟩
  · rw [show chD d = 8 by unfold chD; rw [if_neg h]] at hC ⊢
    rw [show lnD d v = zD by unfold lnD; rw [if_neg h]]
    clear h hd
    obtain ⟨a, b, s, t⟩ := d
    unfold dv at hC ⊢
    unfold zD
    simp only at hC ⊢
    go_enter Try.func20, Try.ntmps20
    go_wp2_with ((go_at_call 25; (with_reducible refine (hC _).mono ?_); rintro e w1 ⟨rfl, hb1⟩; have hB1 := (below2 w _ _).trans (hb1.mono (by rw [size2]; omega)); have z1 : w.heap.size + 2 ≤ w1.heap.size := (by have := hb1.size; rw [size2] at this; exact this); obtain ⟨dc0, dc1, dc2, dc3, df0, df1, df2, df3⟩ := (Box4.of (blk2a w _ _)).below hb1 (by rw [size2]; omega); obtain ⟨rc0, rc1, rc2, rc3, rf0, rf1, rf2, rf3⟩ := (Box4.of (blk2 w _ _)).below hb1 (by rw [size2]; omega)))
    refine bodyPost_ret_by (v := .tuple #[.agg #[.int .i64 0, .int .i64 0, .int .u64 0, .int .u64 0], .int .i64 8]) (by rw [results_cell_tmp rfl]; go_simp) rfl ?_
    exact ⟨rfl, Below.set4 hB1 (by omega) _ _ _ _⟩

set_option maxHeartbeats 8000000 in
theorem long8_any (d : D4) (v : Int) (w : World) (h : okD d = true) (hv : isU v) :
    Calls Try.prog 43 #[dv d, .int .u32 v] w fun e w' => e = .returned (.int .i64 (duS d v)) ∧ Below w.heap.size w w' := by
  obtain ⟨a0, a1, b0, b1, s1, t1⟩ := okD_iff.1 h
  by_cases hl : v < p2 d.a
  · have hLo := fun w' => low8_any d v true w' a0 a1 hv (decide_eq_true hl).symm
    rw [show duS d v = 1 + d.a by unfold duS; rw [if_pos hl]]
    clear h hl
    obtain ⟨a, b, s, t⟩ := d
    simp only at a0 a1 b0 b1 s1 t1 hLo ⊢
    unfold dv at hLo ⊢
    simp only at hLo ⊢
    go_enter Try.func43, Try.ntmps43
    go_wp2_with ((go_at_call 60; (with_reducible refine (hLo _).mono ?_); rintro e w1 ⟨rfl, hb1⟩; have hB1 := (below1 w _).trans (hb1.mono (by rw [size1]; omega)); have z1 : w.heap.size + 1 ≤ w1.heap.size := (by have := hb1.size; rw [size1] at this; exact this); obtain ⟨dc0, dc1, dc2, dc3, df0, df1, df2, df3⟩ := (Box4.of (blk1 w _)).below hb1 (by rw [size1]; omega)))
    go_ret
    exact ⟨rfl, hB1⟩
  · have hLo := fun w' => low8_any d v false w' a0 a1 hv (decide_eq_false hl).symm
    have hul := left_bd hv hl
    have hLf := fun w' => left8_any d v w' a0 a1 hv hl
    have hG := fun w' => rlong7_any (v - p2 d.a) d.b w' hul b0 b1
    have hcs := cdS_bd hul.1 b0 b1
    rw [show duS d v = 1 + cdS (v - p2 d.a) d.b by unfold duS; rw [if_neg hl]]
    clear h hl
    obtain ⟨a, b, s, t⟩ := d
    simp only at a0 a1 b0 b1 s1 t1 hLo hLf hG hcs hul ⊢
    unfold dv at hLo hLf ⊢
    simp only at hLo hLf ⊢
    obtain ⟨U, hU⟩ : ∃ U, v - p2 a = U := ⟨_, rfl⟩
    simp only [hU] at hLf hG hcs hul ⊢
    obtain ⟨S, hS⟩ : ∃ Q, cdS U b = Q := ⟨_, rfl⟩
    simp only [hS] at hG hcs ⊢
    clear hS hU
    have hw : IntKind.i64.wrap (1 + S) = 1 + S := by simp [IntKind.wrap, IntKind.bits, IntKind.signed]; omega
    go_enter Try.func43, Try.ntmps43
    go_wp2_with ((go_at_call 60; (with_reducible refine (hLo _).mono ?_); rintro e w1 ⟨rfl, hb1⟩; have hB1 := (below1 w _).trans (hb1.mono (by rw [size1]; omega)); have z1 : w.heap.size + 1 ≤ w1.heap.size := (by have := hb1.size; rw [size1] at this; exact this); obtain ⟨dc0, dc1, dc2, dc3, df0, df1, df2, df3⟩ := (Box4.of (blk1 w _)).below hb1 (by rw [size1]; omega)))
    go_region_with (first | (go_at_call 62; (with_reducible refine (hLf _).mono ?_); rintro e w2 ⟨rfl, hb2⟩; have hB2 := hB1.drew.trans (hb2.mono (show w.heap.size ≤ w1.heap.size by omega)); have z2 : w1.heap.size ≤ w2.heap.size := hb2.size; obtain ⟨dc0', dc1', dc2', dc3', df0', df1', df2', df3'⟩ := (Box4.mk dc0 dc1 dc2 dc3 df0 df1 df2 df3).drew.below hb2 (show w.heap.size < w1.heap.size by omega)) | (go_at_call 63; (with_reducible refine (hG _).mono ?_); rintro e wz ⟨rfl, rfl⟩))
    all_goals
      go_wp2
      go_ret
      exact ⟨rfl, hB2⟩

set_option maxHeartbeats 8000000 in
theorem rlen8_any (d : D4) (v : Int) (w : World) (hd : isD d) (hv : isU v) :
    Calls Try.prog 21 #[dv d, .int .u32 v] w fun e w' => e = .returned (.tuple #[.int .i64 (dlN d v), .int .i64 (chD d)]) ∧ Below w.heap.size w w' := by
  have hC := fun w' => rcheckD_any d w' hd
  by_cases h : okD d = true
  · have hL := fun w' => long8_any d v w' h hv
    rw [show chD d = 0 by unfold chD; rw [if_pos h]] at hC ⊢
    rw [show dlN d v = duS d v by unfold dlN; rw [if_pos h]]
    obtain ⟨S, hS⟩ : ∃ S, duS d v = S := ⟨_, rfl⟩
    simp only [hS] at hL ⊢
    clear h hd hS
    obtain ⟨a, b, s, t⟩ := d
    unfold dv at hC hL ⊢
    simp only at hC hL ⊢
    go_enter Try.func21, Try.ntmps21
    go_wp2_with (first | (go_at_call 25; (with_reducible refine (hC _).mono ?_); rintro e w1 ⟨rfl, hb1⟩; have hB1 := (below1 w _).trans (hb1.mono (by rw [size1]; omega)); have z1 : w.heap.size + 1 ≤ w1.heap.size := (by have := hb1.size; rw [size1] at this; exact this); obtain ⟨dc0, dc1, dc2, dc3, df0, df1, df2, df3⟩ := (Box4.of (blk1 w _)).below hb1 (by rw [size1]; omega)) | (go_at_call 43; (with_reducible refine (hL _).mono ?_); rintro e w2 ⟨rfl, hb2⟩; have hB2 := hB1.trans (hb2.mono (by omega))))
    go_ret2
    exact ⟨rfl, hB2⟩
  · rw [show chD d = 8 by unfold chD; rw [if_neg h]] at hC ⊢
    rw [show dlN d v = 0 by unfold dlN; rw [if_neg h]]
    clear h hd
    obtain ⟨a, b, s, t⟩ := d
    unfold dv at hC ⊢
    simp only at hC ⊢
    go_enter Try.func21, Try.ntmps21
    go_wp2_with ((go_at_call 25; (with_reducible refine (hC _).mono ?_); rintro e w1 ⟨rfl, hb1⟩; have hB1 := (below1 w _).trans (hb1.mono (by rw [size1]; omega)); have z1 : w.heap.size + 1 ≤ w1.heap.size := (by have := hb1.size; rw [size1] at this; exact this); obtain ⟨dc0, dc1, dc2, dc3, df0, df1, df2, df3⟩ := (Box4.of (blk1 w _)).below hb1 (by rw [size1]; omega)))
    go_ret2
    exact ⟨rfl, hB1⟩

end Go.Proofs.Ytbhoodhcipegbaa.R08

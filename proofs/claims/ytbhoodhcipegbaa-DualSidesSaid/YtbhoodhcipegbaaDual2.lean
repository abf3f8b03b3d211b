/- What package dual returns: learning, lengths. -/
import Derived.Test.YtbhoodhcipegbaaDual
namespace Go.Proofs.Ytbhoodhcipegbaa.Du
open Go.Proofs Go.RowKit Go.Proofs.Ytbhoodhcipegbaa.Kit Go.Proofs.Ytbhoodhcipegbaa.M01 Go.Proofs.Ytbhoodhcipegbaa.M02 Go.Proofs.Ytbhoodhcipegbaa.M06 Go.Proofs.Ytbhoodhcipegbaa.M07 Go.Proofs.Ytbhoodhcipegbaa.M08 Go.Proofs.Ytbhoodhcipegbaa.Bt Go.Proofs.Ytbhoodhcipegbaa.Un Go.Proofs.Ytbhoodhcipegbaa.Ri
set_option linter.unusedVariables false
attribute [local irreducible] wpStill

theorem results_ct {fn : Func} {p u : Tmp} {t1 : TypeId} (h : fn.results = #[.cell p t1, .tmp u]) (tmps : Array Value) (P : Program) (w : World) :
    (results fn tmps).run P w = ((asAddr (tmps.getD p undef)).run P w).andThen fun a w₁ => ((loadVar t1 a).run P w₁).andThen fun v w₂ => .ok (.tuple #[v, tmps.getD u undef]) w₂ := by
  simp only [results, h]
  simp [Sem.run_bind, Result.andThen]

set_option maxHeartbeats 4000000 in
theorem learn_any (d : D4) (v : Int) (w : World) (hd : isD d) (hv : isU v) :
    Calls Try.prog 11 #[dv d, .int .u32 v] w fun e w' => e = .returned (.tuple #[dv (lnD d v), .int .i64 (chD d)]) ∧ Below w.heap.size w w' := by
  have hC := fun w' => checkD_any d w' hd
  by_cases h : okD d = true
  · obtain ⟨a0, a1, b0, b1, s1, t1⟩ := okD_iff.1 h
    have hL := fun w' => least_any d w' a0 a1
    have hP0 := fun w' => learnPair_any d.a d.s v w' a0 a1 hd.2.2.1.1 s1 hv
    rw [show chD d = 0 by unfold chD; rw [if_pos h]] at hC ⊢
    rw [show lnD d v = learnD d v by unfold lnD; rw [if_pos h]]
    have hw0 := p2_24le a1
    have hw1 := p2_pos d.a
    by_cases hl : v < p2 d.a
    · have e1 : learnD d v = ⟨lK d.a (lS d.s v), d.b, lS d.s v, d.t⟩ := by unfold learnD; rw [if_pos hl, if_pos hl]
      rw [e1]
      clear e1 h
      obtain ⟨a, b, s, t⟩ := d
      simp only at a0 a1 b0 b1 s1 t1 hL hP0 hC hl hw0 hw1 ⊢
      unfold dv at hC hL ⊢
      simp only at hC hL ⊢
      obtain ⟨P, hP⟩ : ∃ P, p2 a = P := ⟨_, rfl⟩
      obtain ⟨K0, hK0⟩ : ∃ P, lK a (lS s v) = P := ⟨_, rfl⟩
      obtain ⟨S0, hS0⟩ : ∃ P, lS s v = P := ⟨_, rfl⟩
      simp only [hP] at hL hl hw0 hw1
      simp only [hK0] at hP0 ⊢
      simp only [hS0] at hP0 ⊢
      have f1 : (v < P) = True := eq_true hl
      have f2 : (P ≤ v) = False := eq_false (by omega)
      clear hP hK0 hS0 hl hd
      go_enter Try.func11, Try.ntmps11
      go_wp2_with (first | (go_at_call 15; (with_reducible refine (hC _).mono ?_); rintro e w1 ⟨rfl, hb1⟩; have hB1 := (below2 w _ _).trans (hb1.mono (by rw [size2]; omega)); have z1 : w.heap.size + 2 ≤ w1.heap.size := (by have := hb1.size; rw [size2] at this; exact this); obtain ⟨xc0, xc1, xc2, xc3, xf0, xf1, xf2, xf3⟩ := (Box4.of (blk2a w _ _)).below hb1 (by rw [size2]; omega); obtain ⟨yc0, yc1, yc2, yc3, yf0, yf1, yf2, yf3⟩ := (Box4.of (blk2 w _ _)).below hb1 (by rw [size2]; omega)) | (go_at_call 35; (with_reducible refine (hL _).mono ?_); rintro e w2 ⟨rfl, hb2⟩; have hB2 := hB1.trans (hb2.mono (by omega)); have z2 := hb2.size; have X2 := (Box4.mk xc0 xc1 xc2 xc3 xf0 xf1 xf2 xf3).below hb2 (by omega); have Y2 := (Box4.mk yc0 yc1 yc2 yc3 yf0 yf1 yf2 yf3).below hb2 (by omega); clear xc0 xc1 xc2 xc3 xf0 xf1 xf2 xf3 yc0 yc1 yc2 yc3 yf0 yf1 yf2 yf3; obtain ⟨xc0, xc1, xc2, xc3, xf0, xf1, xf2, xf3⟩ := X2; obtain ⟨yc0, yc1, yc2, yc3, yf0, yf1, yf2, yf3⟩ := Y2) | (go_at_call 36; (with_reducible refine (hP0 _).mono ?_); rintro e w4 ⟨rfl, rfl⟩))
      refine bodyPost_ret_by (v := .tuple #[.agg #[.int .i64 K0, .int .i64 b, .int .u64 S0, .int .u64 t], .int .i64 0]) (by rw [results_cell_tmp rfl]; go_simp) rfl ?_
      exact ⟨rfl, Below.set4 ((hB2.setCell (by dsimp only; omega) _).setCell (by dsimp only; omega) _) (by omega) _ _ _ _⟩
    · have hu := left_bd hv hl
      have hP1 := fun w' => learnPair_any d.b d.t (v - p2 d.a) w' b0 b1 hd.2.2.2.1 t1 hu
      have e1 : learnD d v = ⟨lK d.a (lS d.s v), lK d.b (lS d.t (v - p2 d.a)), lS d.s v, lS d.t (v - p2 d.a)⟩ := by unfold learnD; rw [if_neg hl, if_neg hl]
      rw [e1]
      clear e1 h
      obtain ⟨a, b, s, t⟩ := d
      simp only at a0 a1 b0 b1 s1 t1 hL hP0 hP1 hC hl hw0 hw1 hu ⊢
      unfold dv at hC hL ⊢
      simp only at hC hL ⊢
      obtain ⟨P, hP⟩ : ∃ P, p2 a = P := ⟨_, rfl⟩
      obtain ⟨K0, hK0⟩ : ∃ P, lK a (lS s v) = P := ⟨_, rfl⟩
      obtain ⟨S0, hS0⟩ : ∃ P, lS s v = P := ⟨_, rfl⟩
      simp only [hP] at hL hl hw0 hw1 hP1 hu ⊢
      obtain ⟨K1, hK1⟩ : ∃ Q, lK b (lS t (v - P)) = Q := ⟨_, rfl⟩
      obtain ⟨S1, hS1⟩ : ∃ Q, lS t (v - P) = Q := ⟨_, rfl⟩
      simp only [hK0] at hP0 ⊢
      simp only [hS0] at hP0 ⊢
      simp only [hK1] at hP1 ⊢
      simp only [hS1] at hP1 ⊢
      have f1 : (v < P) = False := eq_false hl
      have f2 : (P ≤ v) = True := eq_true (by omega)
      obtain ⟨v0, v1⟩ := hv
      have hle : P ≤ v := by omega
      clear hP hK0 hS0 hK1 hS1 hl hd hu
      go_enter Try.func11, Try.ntmps11
      go_wp2_with (first | (go_at_call 15; (with_reducible refine (hC _).mono ?_); rintro e w1 ⟨rfl, hb1⟩; have hB1 := (below2 w _ _).trans (hb1.mono (by rw [size2]; omega)); have z1 : w.heap.size + 2 ≤ w1.heap.size := (by have := hb1.size; rw [size2] at this; exact this); obtain ⟨xc0, xc1, xc2, xc3, xf0, xf1, xf2, xf3⟩ := (Box4.of (blk2a w _ _)).below hb1 (by rw [size2]; omega); obtain ⟨yc0, yc1, yc2, yc3, yf0, yf1, yf2, yf3⟩ := (Box4.of (blk2 w _ _)).below hb1 (by rw [size2]; omega)) | (go_at_call 35; (with_reducible refine (hL _).mono ?_); rintro e w2 ⟨rfl, hb2⟩; have hB2 := hB1.trans (hb2.mono (by omega)); have z2 := hb2.size; have X2 := (Box4.mk xc0 xc1 xc2 xc3 xf0 xf1 xf2 xf3).below hb2 (by omega); have Y2 := (Box4.mk yc0 yc1 yc2 yc3 yf0 yf1 yf2 yf3).below hb2 (by omega); clear xc0 xc1 xc2 xc3 xf0 xf1 xf2 xf3 yc0 yc1 yc2 yc3 yf0 yf1 yf2 yf3; obtain ⟨xc0, xc1, xc2, xc3, xf0, xf1, xf2, xf3⟩ := X2; obtain ⟨yc0, yc1, yc2, yc3, yf0, yf1, yf2, yf3⟩ := Y2) | (go_at_call 36; (with_reducible refine (hP1 _).mono ?_); rintro e w3 ⟨rfl, rfl⟩) | (go_at_call 36; (with_reducible refine (hP0 _).mono ?_); rintro e w4 ⟨rfl, rfl⟩))
      refine bodyPost_ret_by (v := .tuple #[.agg #[.int .i64 K0, .int .i64 K1, .int .u64 S0, .int .u64 S1], .int .i64 0]) (by rw [results_cell_tmp rfl]; go_simp) rfl ?_
      exact ⟨rfl, Below.set4 ((((hB2.setCell (by dsimp only; omega) _).setCell (by dsimp only; omega) _).setCell (by dsimp only; omega) _).setCell (by dsimp only; omega) _) (by omega) _ _ _ _⟩
  · rw [show chD d = 8 by unfold chD; rw [if_neg h]] at hC ⊢
    rw [show lnD d v = zD by unfold lnD; rw [if_neg h]]
    clear h hd
    obtain ⟨a, b, s, t⟩ := d
    unfold dv at hC ⊢
    unfold zD
    simp only at hC ⊢
    go_enter Try.func11, Try.ntmps11
    go_wp2_with ((go_at_call 15; (with_reducible refine (hC _).mono ?_); rintro e w1 ⟨rfl, hb1⟩; have hB1 := (below2 w _ _).trans (hb1.mono (by rw [size2]; omega)); have z1 : w.heap.size + 2 ≤ w1.heap.size := (by have := hb1.size; rw [size2] at this; exact this); obtain ⟨xc0, xc1, xc2, xc3, xf0, xf1, xf2, xf3⟩ := (Box4.of (blk2a w _ _)).below hb1 (by rw [size2]; omega); obtain ⟨yc0, yc1, yc2, yc3, yf0, yf1, yf2, yf3⟩ := (Box4.of (blk2 w _ _)).below hb1 (by rw [size2]; omega)))
    refine bodyPost_ret_by (v := .tuple #[.agg #[.int .i64 0, .int .i64 0, .int .u64 0, .int .u64 0], .int .i64 8]) (by rw [results_cell_tmp rfl]; go_simp) rfl ?_
    exact ⟨rfl, Below.set4 hB1 (by omega) _ _ _ _⟩

set_option maxHeartbeats 4000000 in
theorem dlen_any (d : D4) (v : Int) (w : World) (hd : isD d) (hv : isU v) :
    Calls Try.prog 12 #[dv d, .int .u32 v] w fun e w' => e = .returned (.tuple #[.int .i64 (dlN d v), .int .i64 (chD d)]) ∧ Below w.heap.size w w' := by
  have hC := fun w' => checkD_any d w' hd
  by_cases h : okD d = true
  · obtain ⟨a0, a1, b0, b1, s1, t1⟩ := okD_iff.1 h
    have hL := fun w' => least_any d w' a0 a1
    rw [show chD d = 0 by unfold chD; rw [if_pos h]] at hC ⊢
    rw [show dlN d v = duS d v by unfold dlN; rw [if_pos h]]
    have hw0 := p2_24le a1
    have hw1 := p2_pos d.a
    by_cases hl : v < p2 d.a
    · have e1 : duS d v = 1 + d.a := by unfold duS; rw [if_pos hl]
      rw [e1]
      clear e1 h
      obtain ⟨a, b, s, t⟩ := d
      simp only at a0 a1 b0 b1 s1 t1 hL hC hl hw0 hw1 ⊢
      unfold dv at hC hL ⊢
      simp only at hC hL ⊢
      obtain ⟨P, hP⟩ : ∃ P, p2 a = P := ⟨_, rfl⟩
      simp only [hP] at hL hl hw0 hw1
      have f1 : (v < P) = True := eq_true hl
      clear hP hl hd
      go_enter Try.func12, Try.ntmps12
      go_wp2_with (first | (go_at_call 15; (with_reducible refine (hC _).mono ?_); rintro e w1 ⟨rfl, hb1⟩; have hB1 := (below1 w _).trans (hb1.mono (by rw [size1]; omega)); have z1 : w.heap.size + 1 ≤ w1.heap.size := (by have := hb1.size; rw [size1] at this; exact this); obtain ⟨xc0, xc1, xc2, xc3, xf0, xf1, xf2, xf3⟩ := (Box4.of (blk1 w _)).below hb1 (by rw [size1]; omega)) | (go_at_call 35; (with_reducible refine (hL _).mono ?_); rintro e w2 ⟨rfl, hb2⟩; have hB2 := hB1.trans (hb2.mono (by omega)); have z2 := hb2.size; have X2 := (Box4.mk xc0 xc1 xc2 xc3 xf0 xf1 xf2 xf3).below hb2 (by omega); clear xc0 xc1 xc2 xc3 xf0 xf1 xf2 xf3; obtain ⟨xc0, xc1, xc2, xc3, xf0, xf1, xf2, xf3⟩ := X2))
      go_ret2
      exact ⟨rfl, hB2⟩
    · have hu := left_bd hv hl
      have hR := fun w' => rlen_any (v - p2 d.a) d.b w' hu (by unfold isInt; omega)
      have e1 : duS d v = 1 + cdS (v - p2 d.a) d.b := by unfold duS; rw [if_neg hl]
      have eN : rlN (v - p2 d.a) d.b = cdS (v - p2 d.a) d.b := by rw [rlN, if_neg (by omega)]
      have eE : rlE d.b = 0 := by rw [rlE, if_neg (by omega)]
      have hcs := cdS_bd hu.1 b0 b1
      simp only [eN, eE] at hR
      rw [e1]
      clear e1 h eN eE
      obtain ⟨a, b, s, t⟩ := d
      simp only at a0 a1 b0 b1 s1 t1 hL hC hR hl hw0 hw1 hcs hu ⊢
      unfold dv at hC hL ⊢
      simp only at hC hL ⊢
      obtain ⟨P, hP⟩ : ∃ P, p2 a = P := ⟨_, rfl⟩
      simp only [hP] at hL hl hw0 hw1 hR hcs hu ⊢
      obtain ⟨S, hS⟩ : ∃ Q, cdS (v - P) b = Q := ⟨_, rfl⟩
      simp only [hS] at hR hcs ⊢
      have f1 : (v < P) = False := eq_false hl
      obtain ⟨v0, v1⟩ := hv
      have hle : P ≤ v := by omega
      clear hP hS hl hd hu
      go_enter Try.func12, Try.ntmps12
      go_wp2_with (first | (go_at_call 15; (with_reducible refine (hC _).mono ?_); rintro e w1 ⟨rfl, hb1⟩; have hB1 := (below1 w _).trans (hb1.mono (by rw [size1]; omega)); have z1 : w.heap.size + 1 ≤ w1.heap.size := (by have := hb1.size; rw [size1] at this; exact this); obtain ⟨xc0, xc1, xc2, xc3, xf0, xf1, xf2, xf3⟩ := (Box4.of (blk1 w _)).below hb1 (by rw [size1]; omega)) | (go_at_call 35; (with_reducible refine (hL _).mono ?_); rintro e w2 ⟨rfl, hb2⟩; have hB2 := hB1.trans (hb2.mono (by omega)); have z2 := hb2.size; have X2 := (Box4.mk xc0 xc1 xc2 xc3 xf0 xf1 xf2 xf3).below hb2 (by omega); clear xc0 xc1 xc2 xc3 xf0 xf1 xf2 xf3; obtain ⟨xc0, xc1, xc2, xc3, xf0, xf1, xf2, xf3⟩ := X2) | (go_at_call 37; (with_reducible refine (hR _).mono ?_); rintro e w3 ⟨rfl, rfl⟩))
      go_ret2
      exact ⟨rfl, hB2⟩
  · rw [show chD d = 8 by unfold chD; rw [if_neg h]] at hC ⊢
    rw [show dlN d v = 0 by unfold dlN; rw [if_neg h]]
    clear h hd
    obtain ⟨a, b, s, t⟩ := d
    unfold dv at hC ⊢
    simp only at hC ⊢
    go_enter Try.func12, Try.ntmps12
    go_wp2_with ((go_at_call 15; (with_reducible refine (hC _).mono ?_); rintro e w1 ⟨rfl, hb1⟩; have hB1 := (below1 w _).trans (hb1.mono (by rw [size1]; omega)); have z1 : w.heap.size + 1 ≤ w1.heap.size := (by have := hb1.size; rw [size1] at this; exact this); obtain ⟨xc0, xc1, xc2, xc3, xf0, xf1, xf2, xf3⟩ := (Box4.of (blk1 w _)).below hb1 (by rw [size1]; omega)))
    go_ret2
    exact ⟨rfl, hB1⟩

end Go.Proofs.Ytbhoodhcipegbaa.Du

/- What package dual returns: writing. -/
import Derived.Test.YtmnhepcnbdbhoaaGD
import Derived.Deep.Cut
namespace Go.Proofs.Ytmnhepcnbdbhoaa.Du
open Go.Proofs Go.RowKit Go.Proofs.Ytmnhepcnbdbhoaa.Kit Go.Proofs.Ytmnhepcnbdbhoaa.M01 Go.Proofs.Ytmnhepcnbdbhoaa.M02 Go.Proofs.Ytmnhepcnbdbhoaa.M06 Go.Proofs.Ytmnhepcnbdbhoaa.M07 Go.Proofs.Ytmnhepcnbdbhoaa.M08 Go.Proofs.Ytmnhepcnbdbhoaa.Bt Go.Proofs.Ytmnhepcnbdbhoaa.Un Go.Proofs.Ytmnhepcnbdbhoaa.Ri
set_option linter.unusedVariables false
attribute [local irreducible] wpStill

theorem results_cct {fn : Func} {p q u : Tmp} {t1 t2 : TypeId} (h : fn.results = #[.cell p t1, .cell q t2, .tmp u]) (tmps : Array Value) (P : Program) (w : World) :
    (results fn tmps).run P w = ((asAddr (tmps.getD p undef)).run P w).andThen fun a w₁ => ((loadVar t1 a).run P w₁).andThen fun v w₂ =>
      ((asAddr (tmps.getD q undef)).run P w₂).andThen fun b w₃ => ((loadVar t2 b).run P w₃).andThen fun x w₄ => .ok (.tuple #[v, x, tmps.getD u undef]) w₄ := by
  simp only [results, h]
  simp [Sem.run_bind, Result.andThen]

theorem ok_one {β : Int} (h : β = 0 ∨ β = 1) : okB [β] 1 = true ∧ val [β] = β := by
  rcases h with rfl | rfl <;> decide +kernel

set_option maxHeartbeats 4000000 in
theorem code_any (d : D4) (v : Int) (w : World) (hd : isD d) (h : okD d = true) (hv : isU v) :
    Calls Try.prog 72 #[dv d, .int .u32 v] w fun e w' => ∃ a' cap', e = .returned (bv a' (bl (duS d v) (duV d v)).length cap' (duS d v)) ∧ RowIn .u8 w' a' (bl (duS d v) (duV d v)).length cap' (bl (duS d v) (duV d v)) ∧ Below w.heap.size w w' := by
  obtain ⟨a0, a1, b0, b1, s1, t1⟩ := okD_iff.1 h
  have hL := fun w' => least_any d w' a0 a1
  have hw0 := p2_24le a1
  have hw1 := p2_pos d.a
  obtain ⟨v0, v1⟩ := hv
  by_cases hl : v < p2 d.a
  · have hP1 := fun w' => put_any none 0 0 [] 0 0 1 w' RowIn.nil (by unfold isInt; omega) (by decide) (by decide) (by unfold isInt; omega)
    simp only [show putE [] 0 0 1 = 0 by decide +kernel, show putL [] 0 0 1 = [0] by decide +kernel, show putN [] 0 0 1 = 1 by decide +kernel] at hP1
    obtain ⟨k1, k2⟩ := ok_one (β := 0) (.inl rfl)
    have eE : putE [0] 1 v d.a = 0 := by rw [putE, if_pos k1, if_neg (by omega), if_neg (by omega), if_neg (by omega)]
    have eL : putL [0] 1 v d.a = bl (duS d v) (duV d v) := by unfold putL duS duV; rw [if_pos eE, k2, if_pos hl, if_pos hl, p2_1, Int.zero_add]
    have eN : putN [0] 1 v d.a = duS d v := by unfold putN duS; rw [if_pos eE, if_pos hl]
    have hP2 := fun a q w' (r : RowIn .u8 w' a 1 q [0]) => put_any a 1 q [0] 1 v d.a w' r (by unfold isInt; omega) v0 (by omega) (by unfold isInt; omega)
    simp only [eE, eL, eN] at hP2
    clear eE eL eN k1 k2
    obtain ⟨R, hR⟩ : ∃ R, bl (duS d v) (duV d v) = R := ⟨_, rfl⟩
    obtain ⟨S, hS⟩ : ∃ R, duS d v = R := ⟨_, rfl⟩
    simp only [hR] at hP2 ⊢
    simp only [hS] at hP2 ⊢
    clear hR hS hd h
    obtain ⟨a, b, s, t⟩ := d
    simp only at a0 a1 b0 b1 s1 t1 hL hP2 hl hw0 hw1 ⊢
    unfold bv at hP1 hP2 ⊢
    unfold dv at hL ⊢
    simp only [List.length_cons, List.length_nil, Nat.zero_add] at hP1 hL ⊢
    obtain ⟨P, hP⟩ : ∃ P, p2 a = P := ⟨_, rfl⟩
    simp only [hP] at hL hl hw0 hw1
    have f1 : (v < P) = True := eq_true hl
    clear hP hl
    go_enter Try.func72, Try.ntmps72
    go_wp2_with (first | (go_at_call 60; (with_reducible refine (hL _).mono ?_); rintro e w1 ⟨rfl, hb1⟩; have hB1 := (below2 w _ _).trans (hb1.mono (by rw [size2]; omega)); have z1 : w.heap.size + 2 ≤ w1.heap.size := (by have := hb1.size; rw [size2] at this; exact this); obtain ⟨xc0, xc1, xc2, xc3, xf0, xf1, xf2, xf3⟩ := (Box4.of (blk2a w _ _)).below hb1 (by rw [size2]; omega); obtain ⟨r0, r1, r2, r3⟩ := (Box2.of (blk2 w _ _)).below hb1 (by rw [size2]; omega)) | (go_at_call 77; (with_reducible refine (hP1 _).mono ?_); rintro e w2 ⟨a2, q2, rfl, h2, hb2, -⟩; have hB2 := hB1.trans (hb2.mono (by omega)); have z2 := hb2.size; have X2 := (Box4.mk xc0 xc1 xc2 xc3 xf0 xf1 xf2 xf3).below hb2 (by omega); have Y2 := (Box2.mk r0 r1 r2 r3).below hb2 (by omega); clear xc0 xc1 xc2 xc3 xf0 xf1 xf2 xf3 r0 r1 r2 r3; obtain ⟨xc0, xc1, xc2, xc3, xf0, xf1, xf2, xf3⟩ := X2; obtain ⟨r0, r1, r2, r3⟩ := Y2; have lx : w.heap.size < w2.heap.size := (by omega); have ly : w.heap.size + 1 < w2.heap.size := (by omega)) | (go_at_call 77; (with_reducible refine (hP2 _ _ _ (h2.same (below1 w2 _))).mono ?_); rintro e w3 ⟨a3, q3, rfl, h3, hb3, F3⟩; rw [size1] at hb3; have hB3 := (hB2.trans ((below1 w2 _).mono (by omega))).trans (hb3.mono (by omega)); have z3 := hb3.size; rw [size1] at z3; have hne := F3.ne (g := w.heap.size + 1) (by rw [size1]; omega); have Y3 := ((Box2.mk r0 r1 r2 r3).below (below1 w2 _) (by omega)).below hb3 (by omega); clear xc0 xc1 xc2 xc3 xf0 xf1 xf2 xf3 r0 r1 r2 r3; obtain ⟨r0, r1, r2, r3⟩ := Y3; have my : w.heap.size + 1 < w3.heap.size := (by omega)))
    refine bodyPost_ret_by (v := .agg #[.slice a3 R.length q3, .int .i64 S]) (by rw [results_cell1 rfl]; go_simp) rfl ?_
    exact ⟨_, _, rfl, ((h3.set hne).set hne).same (below1 _ _), (Below.set2 hB3 (by omega) _ _).trans ((below1 _ _).mono (by simp only [World.size_setCell]; omega))⟩
  · have hu := left_bd ⟨v0, v1⟩ hl
    have hP1 := fun w' => put_any none 0 0 [] 0 1 1 w' RowIn.nil (by unfold isInt; omega) (by decide) (by decide) (by unfold isInt; omega)
    simp only [show putE [] 0 1 1 = 0 by decide +kernel, show putL [] 0 1 1 = [1] by decide +kernel, show putN [] 0 1 1 = 1 by decide +kernel] at hP1
    obtain ⟨k1, k2⟩ := ok_one (β := 1) (.inr rfl)
    have hcs := cdS_bd hu.1 b0 b1
    have eE : rwE [1] 1 (v - p2 d.a) d.b = 0 := by rw [rwE, if_pos k1, if_neg (by omega), if_neg (by omega)]
    have eL : rwL [1] 1 (v - p2 d.a) d.b = bl (duS d v) (duV d v) := by unfold rwL duS duV; rw [if_pos eE, k2, if_neg hl, if_neg hl, p2_1]
    have eN : rwN [1] 1 (v - p2 d.a) d.b = duS d v := by unfold rwN duS; rw [if_pos eE, if_neg hl]
    have hP2 := fun a q w' (r : RowIn .u8 w' a 1 q [1]) => rwr_any a 1 q [1] 1 (v - p2 d.a) d.b w' r (by unfold isInt; omega) hu (by unfold isInt; omega)
    simp only [eE, eL, eN] at hP2
    clear eE eL eN k1 k2 hcs hu
    obtain ⟨R, hR⟩ : ∃ R, bl (duS d v) (duV d v) = R := ⟨_, rfl⟩
    obtain ⟨S, hS⟩ : ∃ R, duS d v = R := ⟨_, rfl⟩
    simp only [hR] at hP2 ⊢
    simp only [hS] at hP2 ⊢
    clear hR hS hd h
    obtain ⟨a, b, s, t⟩ := d
    simp only at a0 a1 b0 b1 s1 t1 hL hP2 hl hw0 hw1 ⊢
    unfold bv at hP1 hP2 ⊢
    unfold dv at hL ⊢
    simp only [List.length_cons, List.length_nil, Nat.zero_add] at hP1 hL ⊢
    obtain ⟨P, hP⟩ : ∃ P, p2 a = P := ⟨_, rfl⟩
    simp only [hP] at hL hl hw0 hw1 hP2
    have f1 : (v < P) = False := eq_false hl
    have hle : P ≤ v := by omega
    clear hP hl
    go_enter Try.func72, Try.ntmps72
    go_wp2_with (first | (go_at_call 60; (with_reducible refine (hL _).mono ?_); rintro e w1 ⟨rfl, hb1⟩; have hB1 := (below2 w _ _).trans (hb1.mono (by rw [size2]; omega)); have z1 : w.heap.size + 2 ≤ w1.heap.size := (by have := hb1.size; rw [size2] at this; exact this); obtain ⟨xc0, xc1, xc2, xc3, xf0, xf1, xf2, xf3⟩ := (Box4.of (blk2a w _ _)).below hb1 (by rw [size2]; omega); obtain ⟨r0, r1, r2, r3⟩ := (Box2.of (blk2 w _ _)).below hb1 (by rw [size2]; omega)) | (go_at_call 77; (with_reducible refine (hP1 _).mono ?_); rintro e w2 ⟨a2, q2, rfl, h2, hb2, -⟩; have hB2 := hB1.trans (hb2.mono (by omega)); have z2 := hb2.size; have X2 := (Box4.mk xc0 xc1 xc2 xc3 xf0 xf1 xf2 xf3).below hb2 (by omega); have Y2 := (Box2.mk r0 r1 r2 r3).below hb2 (by omega); clear xc0 xc1 xc2 xc3 xf0 xf1 xf2 xf3 r0 r1 r2 r3; obtain ⟨xc0, xc1, xc2, xc3, xf0, xf1, xf2, xf3⟩ := X2; obtain ⟨r0, r1, r2, r3⟩ := Y2; have lx : w.heap.size < w2.heap.size := (by omega); have ly : w.heap.size + 1 < w2.heap.size := (by omega)) | (go_at_call 78; (with_reducible refine (hP2 _ _ _ (h2.same (below1 w2 _))).mono ?_); rintro e w3 ⟨a3, q3, rfl, h3, hb3, F3⟩; rw [size1] at hb3; have hB3 := (hB2.trans ((below1 w2 _).mono (by omega))).trans (hb3.mono (by omega)); have z3 := hb3.size; rw [size1] at z3; have hne := F3.ne (g := w.heap.size + 1) (by rw [size1]; omega); have Y3 := ((Box2.mk r0 r1 r2 r3).below (below1 w2 _) (by omega)).below hb3 (by omega); clear xc0 xc1 xc2 xc3 xf0 xf1 xf2 xf3 r0 r1 r2 r3; obtain ⟨r0, r1, r2, r3⟩ := Y3; have my : w.heap.size + 1 < w3.heap.size := (by omega)))
    refine bodyPost_ret_by (v := .agg #[.slice a3 R.length q3, .int .i64 S]) (by rw [results_cell1 rfl]; go_simp) rfl ?_
    exact ⟨_, _, rfl, ((h3.set hne).set hne).same (below1 _ _), (Below.set2 hB3 (by omega) _ _).trans ((below1 _ _).mono (by simp only [World.size_setCell]; omega))⟩

/-- What Join does with the code. -/
theorem dw_join {xs : List Int} {n v : Int} {d : D4} (h : okD d = true) (hv : isU v) :
    joE xs n (bl (duS d v) (duV d v)) (duS d v) = dwE xs n d v ∧ joL xs n (bl (duS d v) (duV d v)) (duS d v) = dwL xs n d v ∧ joN xs n (bl (duS d v) (duV d v)) (duS d v) = dwN xs n d v := by
  have hS := duS_bd h hv
  have hV := duV_bd h hv
  have hk : okB (bl (duS d v) (duV d v)) (duS d v) = true := ok_bl (by omega) (by omega) hV.1 hV.2
  have hval : val (bl (duS d v) (duV d v)) = duV d v := val_bl (by omega) hV.1 hV.2
  have e : joE xs n (bl (duS d v) (duV d v)) (duS d v) = dwE xs n d v := by
    unfold joE dwE
    by_cases g : okB xs n = true
    · rw [if_pos g, if_pos hk, if_pos (show okB xs n = true ∧ okD d = true from ⟨g, h⟩)]
    · rw [if_neg g, if_neg (fun q => g q.1)]
  refine ⟨e, ?_, ?_⟩
  · unfold joL dwL; rw [e, hval]
  · unfold joN dwN; rw [e]

set_option maxHeartbeats 8000000 in
theorem dwr_any (a : Option Addr) (len cap : Nat) (xs : List Int) (n : Int) (d : D4) (v : Int) (w : World) (hr : RowIn .u8 w a len cap xs) (hn : isInt n) (hd : isD d) (hv : isU v) :
    Calls Try.prog 59 #[bv a len cap n, dv d, .int .u32 v] w fun e w' => ∃ a' cap', e = .returned (.tuple #[bv a' (dwL xs n d v).length cap' (dwN xs n d v), dv (dwD xs n d v), .int .i64 (dwE xs n d v)]) ∧ RowIn .u8 w' a' (dwL xs n d v).length cap' (dwL xs n d v) ∧ Below w.heap.size w w' ∧ Fresh w a' := by
  have hLn := fun w' => learn_any d v w' hd hv
  by_cases h : okD d = true
  · rw [show chD d = 0 by unfold chD; rw [if_pos h], show lnD d v = learnD d v by unfold lnD; rw [if_pos h]] at hLn
    have hCd := fun w' => code_any d v w' hd h hv
    obtain ⟨e1, e2, e3⟩ := dw_join (xs := xs) (n := n) h hv
    have hS := duS_bd h hv
    have hJ := fun a3 q3 w' (r : RowIn .u8 w' a len cap xs) (r2 : RowIn .u8 w' a3 (bl (duS d v) (duV d v)).length q3 (bl (duS d v) (duV d v))) => join_any a len cap xs n a3 _ q3 (bl (duS d v) (duV d v)) (duS d v) w' r hn r2 (by unfold isInt; omega)
    simp only [e1, e2, e3] at hJ
    have eD : dwD xs n d v = if dwE xs n d v = 0 then learnD d v else zD := rfl
    have eL : dwE xs n d v ≠ 0 → dwL xs n d v = [] ∧ dwN xs n d v = 0 := fun g => ⟨by unfold dwL; rw [if_neg g], by unfold dwN; rw [if_neg g]⟩
    rw [eD]
    clear eD e1 e2 e3
    obtain ⟨C, hC⟩ : ∃ R, bl (duS d v) (duV d v) = R := ⟨_, rfl⟩
    obtain ⟨S, hSS⟩ : ∃ R, duS d v = R := ⟨_, rfl⟩
    obtain ⟨R, hR⟩ : ∃ R, dwL xs n d v = R := ⟨_, rfl⟩
    obtain ⟨N, hN⟩ : ∃ R, dwN xs n d v = R := ⟨_, rfl⟩
    obtain ⟨E, hE⟩ : ∃ R, dwE xs n d v = R := ⟨_, rfl⟩
    obtain ⟨X, hX⟩ : ∃ X, learnD d v = X := ⟨_, rfl⟩
    simp only [hC] at hCd hJ
    simp only [hSS] at hCd hJ
    simp only [hR, hN, hE] at hJ eL ⊢
    simp only [hX] at hLn ⊢
    clear hC hSS hR hN hE hX hS h hd
    obtain ⟨da, db, ds, dt⟩ := d
    obtain ⟨xa, xb, xs', xt⟩ := X
    unfold bv at hCd hJ ⊢
    unfold dv at hLn hCd ⊢
    simp only at hLn hCd ⊢
    by_cases hE : E = 0
    · subst hE
      rw [if_pos rfl]
      simp only
      clear eL
      go_enter Try.func59, Try.ntmps59
      go_wp2_with (go_at_call 41; (with_reducible refine (hLn _).mono ?_); rintro e w1 ⟨rfl, hb1⟩; have hB1 := (below4 w _ _ _ _).trans (hb1.mono (by rw [size4]; omega)); have z1 : w.heap.size + 4 ≤ w1.heap.size := (by have := hb1.size; rw [size4] at this; exact this); have B1 := (Box2.of (blk4a w _ _ _ _)).below hb1 (by rw [size4]; omega); have D1 := (Box4.of (blk4b w _ _ _ _)).below hb1 (by rw [size4]; omega); have R1 := (Box2.of (blk4c w _ _ _ _)).below hb1 (by rw [size4]; omega); have Q1 := (Box4.of (blk4 w _ _ _ _)).below hb1 (by rw [size4]; omega))
      have X2 := Box4.of (blk1 w1 (.cells #[.int .i64 xa, .int .i64 xb, .int .u64 xs', .int .u64 xt] 24))
      have hbe := below1 w1 (.cells #[.int .i64 xa, .int .i64 xb, .int .u64 xs', .int .u64 xt] 24)
      have hsz := size1 w1 (.cells #[.int .i64 xa, .int .i64 xb, .int .u64 xs', .int .u64 xt] 24)
      have B2 := B1.below hbe (by omega)
      have D2 := D1.below hbe (by omega)
      have R2 := R1.below hbe (by omega)
      have Q2 := Q1.below hbe (by omega)
      have hB2 := hB1.trans (hbe.mono (by omega))
      obtain ⟨G, hG⟩ : ∃ G, w1.heap.size = G := ⟨_, rfl⟩
      rw [hG] at X2 hsz z1 ⊢
      generalize (w1.alloc (.cells #[.int .i64 xa, .int .i64 xb, .int .u64 xs', .int .u64 xt] 24)) = w2 at *
      clear hbe hB1 hb1 B1 D1 R1 Q1 hLn hG
      obtain ⟨bc0, bc1, bf0, bf1⟩ := B2
      obtain ⟨dc0, dc1, dc2, dc3, df0, df1, df2, df3⟩ := D2

      have B2 := Box2.mk bc0 bc1 bf0 bf1
      go_region_with (first | (go_at_call 72; (with_reducible refine (hCd _).mono ?_); rintro e w3 ⟨a3, q3, rfl, h3, hb3⟩; have hB3 := hB2.drew.trans (hb3.mono (show w.heap.size ≤ w2.heap.size by omega)); have z3 : w2.heap.size ≤ w3.heap.size := hb3.size; have B3 := B2.drew.below hb3 (show w.heap.size < w2.heap.size by omega); have R3 := R2.drew.below hb3 (show w.heap.size + 2 < w2.heap.size by omega); have Q3 := Q2.drew.below hb3 (show w.heap.size + 3 < w2.heap.size by omega); have X3 := X2.drew.below hb3 (show G < w2.heap.size by omega); clear bc0 bc1 bf0 bf1; obtain ⟨bc0, bc1, bf0, bf1⟩ := B3) | (go_at_call 24; (with_reducible refine (hJ _ _ _ (hr.same hB3) h3).mono ?_); rintro e w4 ⟨a4, q4, rfl, h4, hb4, F4⟩; have hB4 := hB3.trans (hb4.mono (by omega)); have z4 := hb4.size; have B4 := (Box2.mk bc0 bc1 bf0 bf1).below hb4 (by omega); have R4 := R3.below hb4 (by omega); have Q4 := Q3.below hb4 (by omega); have X4 := X3.below hb4 (by omega); clear bc0 bc1 bf0 bf1 dc0 dc1 dc2 dc3 df0 df1 df2 df3; obtain ⟨bc0, bc1, bf0, bf1⟩ := B4; obtain ⟨rc0, rc1, rf0, rf1⟩ := R4; obtain ⟨qc0, qc1, qc2, qc3, qf0, qf1, qf2, qf3⟩ := Q4; obtain ⟨xc0, xc1, xc2, xc3, xf0, xf1, xf2, xf3⟩ := X4))
      all_goals
        go_wp2
        go_region
        go_wp2
        refine bodyPost_ret_by (v := .tuple #[.agg #[.slice a4 R.length q4, .int .i64 N], .agg #[.int .i64 xa, .int .i64 xb, .int .u64 xs', .int .u64 xt], .int .i64 0]) (by rw [results_cct rfl]; go_simp) rfl ?_
        refine ⟨_, _, rfl, ?_, (Below.set4 (Below.set2 (Below.set2 hB4 (by omega) _ _) (by omega) _ _) (by omega) _ _ _ _).drew, F4.lift (by omega)⟩
        refine RowIn.drew ?_
        repeat refine RowIn.set ?_ (F4.ne (by omega))
        exact h4
    · rw [if_neg hE]
      obtain ⟨hR0, rfl⟩ := eL hE
      subst hR0
      unfold zD
      simp only [List.length_nil] at hJ ⊢
      have f9 : (E = 0) = False := eq_false hE
      have f10 : (E != 0) = true := bne_iff_ne.2 hE
      clear eL hE
      go_enter Try.func59, Try.ntmps59
      go_wp2_with (go_at_call 41; (with_reducible refine (hLn _).mono ?_); rintro e w1 ⟨rfl, hb1⟩; have hB1 := (below4 w _ _ _ _).trans (hb1.mono (by rw [size4]; omega)); have z1 : w.heap.size + 4 ≤ w1.heap.size := (by have := hb1.size; rw [size4] at this; exact this); have B1 := (Box2.of (blk4a w _ _ _ _)).below hb1 (by rw [size4]; omega); have D1 := (Box4.of (blk4b w _ _ _ _)).below hb1 (by rw [size4]; omega); have R1 := (Box2.of (blk4c w _ _ _ _)).below hb1 (by rw [size4]; omega); have Q1 := (Box4.of (blk4 w _ _ _ _)).below hb1 (by rw [size4]; omega))
      have X2 := Box4.of (blk1 w1 (.cells #[.int .i64 xa, .int .i64 xb, .int .u64 xs', .int .u64 xt] 24))
      have hbe := below1 w1 (.cells #[.int .i64 xa, .int .i64 xb, .int .u64 xs', .int .u64 xt] 24)
      have hsz := size1 w1 (.cells #[.int .i64 xa, .int .i64 xb, .int .u64 xs', .int .u64 xt] 24)
      have B2 := B1.below hbe (by omega)
      have D2 := D1.below hbe (by omega)
      have R2 := R1.below hbe (by omega)
      have Q2 := Q1.below hbe (by omega)
      have hB2 := hB1.trans (hbe.mono (by omega))
      obtain ⟨G, hG⟩ : ∃ G, w1.heap.size = G := ⟨_, rfl⟩
      rw [hG] at X2 hsz z1 ⊢
      generalize (w1.alloc (.cells #[.int .i64 xa, .int .i64 xb, .int .u64 xs', .int .u64 xt] 24)) = w2 at *
      clear hbe hB1 hb1 B1 D1 R1 Q1 hLn hG
      obtain ⟨bc0, bc1, bf0, bf1⟩ := B2
      obtain ⟨dc0, dc1, dc2, dc3, df0, df1, df2, df3⟩ := D2

      have B2 := Box2.mk bc0 bc1 bf0 bf1
      go_region_with (first | (go_at_call 72; (with_reducible refine (hCd _).mono ?_); rintro e w3 ⟨a3, q3, rfl, h3, hb3⟩; have hB3 := hB2.drew.trans (hb3.mono (show w.heap.size ≤ w2.heap.size by omega)); have z3 : w2.heap.size ≤ w3.heap.size := hb3.size; have B3 := B2.drew.below hb3 (show w.heap.size < w2.heap.size by omega); have R3 := R2.drew.below hb3 (show w.heap.size + 2 < w2.heap.size by omega); have Q3 := Q2.drew.below hb3 (show w.heap.size + 3 < w2.heap.size by omega); have X3 := X2.drew.below hb3 (show G < w2.heap.size by omega); clear bc0 bc1 bf0 bf1; obtain ⟨bc0, bc1, bf0, bf1⟩ := B3) | (go_at_call 24; (with_reducible refine (hJ _ _ _ (hr.same hB3) h3).mono ?_); rintro e w4 ⟨a4, q4, rfl, h4, hb4, F4⟩; have hB4 := hB3.trans (hb4.mono (by omega)); have z4 := hb4.size; have B4 := (Box2.mk bc0 bc1 bf0 bf1).below hb4 (by omega); have R4 := R3.below hb4 (by omega); have Q4 := Q3.below hb4 (by omega); have X4 := X3.below hb4 (by omega); clear bc0 bc1 bf0 bf1 dc0 dc1 dc2 dc3 df0 df1 df2 df3; obtain ⟨bc0, bc1, bf0, bf1⟩ := B4; obtain ⟨rc0, rc1, rf0, rf1⟩ := R4; obtain ⟨qc0, qc1, qc2, qc3, qf0, qf1, qf2, qf3⟩ := Q4; obtain ⟨xc0, xc1, xc2, xc3, xf0, xf1, xf2, xf3⟩ := X4))
      all_goals
        go_wp2
        refine bodyPost_ret_by (v := .tuple #[.agg #[.slice none 0 0, .int .i64 0], .agg #[.int .i64 0, .int .i64 0, .int .u64 0, .int .u64 0], .int .i64 E]) (by rw [results_cct rfl]; go_simp) rfl ?_
        exact ⟨none, 0, rfl, RowIn.nil, Below.set4 (Below.set2 (Below.set2 hB4 (by omega) _ _) (by omega) _ _) (by omega) _ _ _ _, Fresh.none⟩
  · have eE : dwE xs n d v = 8 := by unfold dwE; rw [if_neg (fun q => h q.2)]
    rw [show chD d = 8 by unfold chD; rw [if_neg h], show lnD d v = zD by unfold lnD; rw [if_neg h]] at hLn
    rw [show dwL xs n d v = [] by unfold dwL; rw [if_neg (by rw [eE]; decide)], show dwN xs n d v = 0 by unfold dwN; rw [if_neg (by rw [eE]; decide)], show dwD xs n d v = zD by unfold dwD; rw [if_neg (by rw [eE]; decide)], eE]
    clear eE h hd
    obtain ⟨da, db, ds, dt⟩ := d
    unfold bv
    unfold dv zD at hLn ⊢
    simp only at hLn ⊢
    go_enter Try.func59, Try.ntmps59
    go_upto_region 3 with (go_at_call 41; (with_reducible refine (hLn _).mono ?_); rintro e w1 ⟨rfl, hb1⟩; have hB1 := (below4 w _ _ _ _).trans (hb1.mono (by rw [size4]; omega)); have z1 : w.heap.size + 4 ≤ w1.heap.size := (by have := hb1.size; rw [size4] at this; exact this); have B1 := (Box2.of (blk4a w _ _ _ _)).below hb1 (by rw [size4]; omega); have D1 := (Box4.of (blk4b w _ _ _ _)).below hb1 (by rw [size4]; omega); have R1 := (Box2.of (blk4c w _ _ _ _)).below hb1 (by rw [size4]; omega); have Q1 := (Box4.of (blk4 w _ _ _ _)).below hb1 (by rw [size4]; omega))
    have hbe := below1 w1 (.cells #[.int .i64 0, .int .i64 0, .int .u64 0, .int .u64 0] 24)
    have hsz := size1 w1 (.cells #[.int .i64 0, .int .i64 0, .int .u64 0, .int .u64 0] 24)
    have R2 := R1.below hbe (by omega)
    have Q2 := Q1.below hbe (by omega)
    have hB2 := hB1.trans (hbe.mono (by omega))
    generalize (w1.alloc (.cells #[.int .i64 0, .int .i64 0, .int .u64 0, .int .u64 0] 24)) = w2 at *
    clear hbe hB1 hb1 B1 D1 R1 Q1 hLn
    obtain ⟨rc0, rc1, rf0, rf1⟩ := R2
    obtain ⟨qc0, qc1, qc2, qc3, qf0, qf1, qf2, qf3⟩ := Q2

    go_wp2
    refine bodyPost_ret_by (v := .tuple #[.agg #[.slice none 0 0, .int .i64 0], .agg #[.int .i64 0, .int .i64 0, .int .u64 0, .int .u64 0], .int .i64 8]) (by rw [results_cct rfl]; go_simp) rfl ?_
    exact ⟨none, 0, rfl, RowIn.nil, Below.set4 (Below.set2 hB2 (by omega) _ _) (by omega) _ _ _ _, Fresh.none⟩

end Go.Proofs.Ytmnhepcnbdbhoaa.Du

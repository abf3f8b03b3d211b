/- What package dual returns: reading, and learning. -/
import Derived.Test.YtmnhepcnbdbhoaaDual4
namespace Go.Proofs.Ytmnhepcnbdbhoaa.Du
open Go.Proofs Go.RowKit Go.Proofs.Ytmnhepcnbdbhoaa.Kit Go.Proofs.Ytmnhepcnbdbhoaa.M01 Go.Proofs.Ytmnhepcnbdbhoaa.M02 Go.Proofs.Ytmnhepcnbdbhoaa.M06 Go.Proofs.Ytmnhepcnbdbhoaa.M07 Go.Proofs.Ytmnhepcnbdbhoaa.M08 Go.Proofs.Ytmnhepcnbdbhoaa.Bt Go.Proofs.Ytmnhepcnbdbhoaa.Un Go.Proofs.Ytmnhepcnbdbhoaa.Ri
set_option linter.unusedVariables false
attribute [local irreducible] wpStill

theorem results_ttct {fn : Func} {u p q z : Tmp} {t1 : TypeId} (h : fn.results = #[.tmp u, .tmp z, .cell p t1, .tmp q]) (tmps : Array Value) (P : Program) (w : World) :
    (results fn tmps).run P w = ((asAddr (tmps.getD p undef)).run P w).andThen fun a w₁ => ((loadVar t1 a).run P w₁).andThen fun v w₂ => .ok (.tuple #[tmps.getD u undef, tmps.getD z undef, v, tmps.getD q undef]) w₂ := by
  simp only [results, h]
  simp [Sem.run_bind, Result.andThen]

set_option maxHeartbeats 8000000 in
theorem drd_any (a : Option Addr) (len cap : Nat) (xs : List Int) (n p : Int) (d : D4) (w : World) (hr : RowIn .u8 w a len cap xs) (hn : isInt n) (hp : isInt p) (hd : isD d) :
    Calls Try.prog 29 #[bv a len cap n, .int .i64 p, dv d] w fun e w' => e = .returned (.tuple #[.int .u32 (drN xs n p d), .int .i64 (drX xs n p d), dv (drD xs n p d), .int .i64 (drE xs n p d)]) ∧ Below w.heap.size w w' := by
  have hC := fun w' => checkD_any d w' hd
  have hZ : ∀ E, E ≠ 0 → drE xs n p d = E → drN xs n p d = 0 ∧ drX xs n p d = 0 ∧ drD xs n p d = zD := by
    intro E g e
    refine ⟨by rw [drN, if_neg (by rw [e]; exact g)], by rw [drX, if_neg (by rw [e]; exact g)], by rw [drD, if_neg (by rw [e]; exact g)]⟩
  by_cases h : okD d = true
  · rw [show chD d = 0 by unfold chD; rw [if_pos h]] at hC
    obtain ⟨k1, k2⟩ := deE_dr (xs := xs) (n := n) (p := p) h
    have hD := fun w' (r : RowIn .u8 w' a len cap xs) => dec_any a len cap xs n p d w' r hn hp hd h
    by_cases hE : deE xs n p d = 0
    · obtain ⟨m0, m1, m2, m3⟩ := k2 hE
      simp only [hE] at hD
      by_cases hg : 4294967295 < dnN (val xs / p2 p) d
      · have e1 := m2 hg
        obtain ⟨z1, z2, z3⟩ := hZ 12 (by decide) e1
        rw [e1, z1, z2, z3]
        clear e1 z1 z2 z3 hZ k1 k2 m2 m3 hE h
        obtain ⟨M, hM⟩ : ∃ M, dnN (val xs / p2 p) d = M := ⟨_, rfl⟩
        obtain ⟨Y, hY⟩ : ∃ M, p + dnS (val xs / p2 p) d = M := ⟨_, rfl⟩
        simp only [hM] at hD hg m0 m1
        simp only [hY] at hD
        clear hM hY hd
        obtain ⟨da, db, ds, dt⟩ := d
        unfold bv at hD ⊢
        unfold dv at hC hD ⊢
        unfold zD
        simp only at hC hD ⊢
        have f1 : (4294967295 < M) = True := eq_true hg
        go_enter Try.func29, Try.ntmps29
        go_wp2_with (first | (go_at_call 33; (with_reducible refine (hC _).mono ?_); rintro e w1 ⟨rfl, hb1⟩; have hB1 := (below3 w _ _ _).trans (hb1.mono (by rw [size3]; omega)); have z1 : w.heap.size + 3 ≤ w1.heap.size := (by have := hb1.size; rw [size3] at this; exact this); obtain ⟨bc0, bc1, bf0, bf1⟩ := (Box2.of (blk3a w _ _ _)).below hb1 (by rw [size3]; omega); obtain ⟨dc0, dc1, dc2, dc3, df0, df1, df2, df3⟩ := (Box4.of (blk3b w _ _ _)).below hb1 (by rw [size3]; omega); obtain ⟨rc0, rc1, rc2, rc3, rf0, rf1, rf2, rf3⟩ := (Box4.of (blk3 w _ _ _)).below hb1 (by rw [size3]; omega)) | (go_at_call 45; (with_reducible refine (hD _ (hr.same hB1)).mono ?_); rintro e w2 ⟨N, X, rfl, hNX, hb2⟩; obtain ⟨rfl, rfl⟩ := hNX trivial; have hB2 := hB1.trans (hb2.mono (by omega)); have z2 := hb2.size; have D2 := (Box4.mk dc0 dc1 dc2 dc3 df0 df1 df2 df3).below hb2 (by omega); have R2 := (Box4.mk rc0 rc1 rc2 rc3 rf0 rf1 rf2 rf3).below hb2 (by omega); clear bc0 bc1 bf0 bf1 dc0 dc1 dc2 dc3 df0 df1 df2 df3 rc0 rc1 rc2 rc3 rf0 rf1 rf2 rf3; obtain ⟨dc0, dc1, dc2, dc3, df0, df1, df2, df3⟩ := D2; obtain ⟨rc0, rc1, rc2, rc3, rf0, rf1, rf2, rf3⟩ := R2))
        refine bodyPost_ret_by (v := .tuple #[.int .u32 0, .int .i64 0, .agg #[.int .i64 0, .int .i64 0, .int .u64 0, .int .u64 0], .int .i64 12]) (by rw [results_ttct rfl]; go_simp) rfl ?_
        exact ⟨rfl, Below.set4 hB2 (by omega) _ _ _ _⟩
      · obtain ⟨e1, e2⟩ := m3 hg
        have e3 : drN xs n p d = dnN (val xs / p2 p) d := by rw [drN, if_pos e1]
        have e4 : drD xs n p d = learnD d (dnN (val xs / p2 p) d) := by rw [drD, if_pos e1]
        rw [e1, e2, e3, e4]
        have hLn := fun w' => learn_any d (dnN (val xs / p2 p) d) w' hd (by unfold isU; omega)
        rw [show chD d = 0 by unfold chD; rw [if_pos h], show lnD d (dnN (val xs / p2 p) d) = learnD d (dnN (val xs / p2 p) d) by unfold lnD; rw [if_pos h]] at hLn
        clear e1 e2 e3 e4 hZ k1 k2 m2 m3 hE h
        obtain ⟨M, hM⟩ : ∃ M, dnN (val xs / p2 p) d = M := ⟨_, rfl⟩
        obtain ⟨Y, hY⟩ : ∃ M, p + dnS (val xs / p2 p) d = M := ⟨_, rfl⟩
        simp only [hM] at hD hg m0 m1 hLn ⊢
        simp only [hY] at hD ⊢
        obtain ⟨L, hL⟩ : ∃ Q, learnD d M = Q := ⟨_, rfl⟩
        simp only [hL] at hLn ⊢
        clear hM hY hd hL
        obtain ⟨da, db, ds, dt⟩ := d
        obtain ⟨la, lb, ls, lt⟩ := L
        unfold bv at hD ⊢
        unfold dv at hC hD hLn ⊢
        simp only at hC hD hLn ⊢
        have f1 : (4294967295 < M) = False := eq_false hg
        have hle : M ≤ 4294967295 := by omega
        go_enter Try.func29, Try.ntmps29
        go_wp2_with (first | (go_at_call 33; (with_reducible refine (hC _).mono ?_); rintro e w1 ⟨rfl, hb1⟩; have hB1 := (below3 w _ _ _).trans (hb1.mono (by rw [size3]; omega)); have z1 : w.heap.size + 3 ≤ w1.heap.size := (by have := hb1.size; rw [size3] at this; exact this); obtain ⟨bc0, bc1, bf0, bf1⟩ := (Box2.of (blk3a w _ _ _)).below hb1 (by rw [size3]; omega); obtain ⟨dc0, dc1, dc2, dc3, df0, df1, df2, df3⟩ := (Box4.of (blk3b w _ _ _)).below hb1 (by rw [size3]; omega); obtain ⟨rc0, rc1, rc2, rc3, rf0, rf1, rf2, rf3⟩ := (Box4.of (blk3 w _ _ _)).below hb1 (by rw [size3]; omega)) | (go_at_call 45; (with_reducible refine (hD _ (hr.same hB1)).mono ?_); rintro e w2 ⟨N, X, rfl, hNX, hb2⟩; obtain ⟨rfl, rfl⟩ := hNX trivial; have hB2 := hB1.trans (hb2.mono (by omega)); have z2 := hb2.size; have D2 := (Box4.mk dc0 dc1 dc2 dc3 df0 df1 df2 df3).below hb2 (by omega); have R2 := (Box4.mk rc0 rc1 rc2 rc3 rf0 rf1 rf2 rf3).below hb2 (by omega); clear bc0 bc1 bf0 bf1 dc0 dc1 dc2 dc3 df0 df1 df2 df3 rc0 rc1 rc2 rc3 rf0 rf1 rf2 rf3; obtain ⟨dc0, dc1, dc2, dc3, df0, df1, df2, df3⟩ := D2; obtain ⟨rc0, rc1, rc2, rc3, rf0, rf1, rf2, rf3⟩ := R2) | (go_at_call 41; (with_reducible refine (hLn _).mono ?_); rintro e w3 ⟨rfl, hb3⟩; have hB3 := hB2.trans (hb3.mono (by omega)); have z3 := hb3.size; have R3 := (Box4.mk rc0 rc1 rc2 rc3 rf0 rf1 rf2 rf3).below hb3 (by omega); clear dc0 dc1 dc2 dc3 df0 df1 df2 df3 rc0 rc1 rc2 rc3 rf0 rf1 rf2 rf3; obtain ⟨rc0, rc1, rc2, rc3, rf0, rf1, rf2, rf3⟩ := R3))
        have R4 : Box4 ((((w3.setCell ⟨w.heap.size + 1 + 1, 0, none⟩ (.int .i64 la)).setCell ⟨w.heap.size + 1 + 1, 1, none⟩ (.int .i64 lb)).setCell ⟨w.heap.size + 1 + 1, 2, none⟩ (.int .u64 ls)).setCell ⟨w.heap.size + 1 + 1, 3, none⟩ (.int .u64 lt)) (w.heap.size + 2) (.int .i64 la) (.int .i64 lb) (.int .u64 ls) (.int .u64 lt) := (Box4.mk rc0 rc1 rc2 rc3 rf0 rf1 rf2 rf3).putAll _ _ _ _
        have hB4 : Below w.heap.size w ((((w3.setCell ⟨w.heap.size + 1 + 1, 0, none⟩ (.int .i64 la)).setCell ⟨w.heap.size + 1 + 1, 1, none⟩ (.int .i64 lb)).setCell ⟨w.heap.size + 1 + 1, 2, none⟩ (.int .u64 ls)).setCell ⟨w.heap.size + 1 + 1, 3, none⟩ (.int .u64 lt)) := Below.set4 hB3 (by omega) _ _ _ _
        clear rc0 rc1 rc2 rc3 rf0 rf1 rf2 rf3
        generalize ((((w3.setCell ⟨w.heap.size + 1 + 1, 0, none⟩ (.int .i64 la)).setCell ⟨w.heap.size + 1 + 1, 1, none⟩ (.int .i64 lb)).setCell ⟨w.heap.size + 1 + 1, 2, none⟩ (.int .u64 ls)).setCell ⟨w.heap.size + 1 + 1, 3, none⟩ (.int .u64 lt)) = w4 at *
        obtain ⟨rc0, rc1, rc2, rc3, rf0, rf1, rf2, rf3⟩ := R4
        go_region
        go_wp2
        refine bodyPost_ret_by (v := .tuple #[.int .u32 N, .int .i64 X, .agg #[.int .i64 la, .int .i64 lb, .int .u64 ls, .int .u64 lt], .int .i64 0]) (by rw [results_ttct rfl]; go_simp) rfl ?_
        exact ⟨rfl, (Below.set4 hB4 (by omega) _ _ _ _).drew⟩
    · have e1 := k1 hE
      obtain ⟨z1, z2, z3⟩ := hZ _ hE e1
      rw [e1, z1, z2, z3]
      obtain ⟨E, hEE⟩ : ∃ E, deE xs n p d = E := ⟨_, rfl⟩
      simp only [hEE] at hE hD ⊢
      clear e1 z1 z2 z3 hZ k1 k2 hEE h hd
      have f1 : (E = 0) = False := eq_false hE
      have f2 : (E != 0) = true := bne_iff_ne.2 hE
      have hD := fun w' r => (hD w' r).mono (fun e w1 q => show ∃ N X, e = .returned (.tuple #[.int .u64 N, .int .i64 X, .int .i64 E]) ∧ True ∧ Below w'.heap.size w' w1 from by obtain ⟨N, X, q1, _, q2⟩ := q; exact ⟨N, X, q1, trivial, q2⟩)
      obtain ⟨da, db, ds, dt⟩ := d
      unfold bv at hD ⊢
      unfold dv at hC hD ⊢
      unfold zD
      simp only at hC hD ⊢
      go_enter Try.func29, Try.ntmps29
      go_wp2_with (first | (go_at_call 33; (with_reducible refine (hC _).mono ?_); rintro e w1 ⟨rfl, hb1⟩; have hB1 := (below3 w _ _ _).trans (hb1.mono (by rw [size3]; omega)); have z1 : w.heap.size + 3 ≤ w1.heap.size := (by have := hb1.size; rw [size3] at this; exact this); obtain ⟨bc0, bc1, bf0, bf1⟩ := (Box2.of (blk3a w _ _ _)).below hb1 (by rw [size3]; omega); obtain ⟨dc0, dc1, dc2, dc3, df0, df1, df2, df3⟩ := (Box4.of (blk3b w _ _ _)).below hb1 (by rw [size3]; omega); obtain ⟨rc0, rc1, rc2, rc3, rf0, rf1, rf2, rf3⟩ := (Box4.of (blk3 w _ _ _)).below hb1 (by rw [size3]; omega)) | (go_at_call 45; (with_reducible refine (hD _ (hr.same hB1)).mono ?_); rintro e w2 ⟨N, X, rfl, hNX, hb2⟩; have hB2 := hB1.trans (hb2.mono (by omega)); have z2 := hb2.size; have D2 := (Box4.mk dc0 dc1 dc2 dc3 df0 df1 df2 df3).below hb2 (by omega); have R2 := (Box4.mk rc0 rc1 rc2 rc3 rf0 rf1 rf2 rf3).below hb2 (by omega); clear bc0 bc1 bf0 bf1 dc0 dc1 dc2 dc3 df0 df1 df2 df3 rc0 rc1 rc2 rc3 rf0 rf1 rf2 rf3; obtain ⟨dc0, dc1, dc2, dc3, df0, df1, df2, df3⟩ := D2; obtain ⟨rc0, rc1, rc2, rc3, rf0, rf1, rf2, rf3⟩ := R2))
      refine bodyPost_ret_by (v := .tuple #[.int .u32 0, .int .i64 0, .agg #[.int .i64 0, .int .i64 0, .int .u64 0, .int .u64 0], .int .i64 E]) (by rw [results_ttct rfl]; go_simp) rfl ?_
      exact ⟨rfl, Below.set4 hB2 (by omega) _ _ _ _⟩
  · have e1 : drE xs n p d = 8 := by unfold drE; rw [if_neg (fun q => h q.2)]
    obtain ⟨z1, z2, z3⟩ := hZ 8 (by decide) e1
    rw [show chD d = 8 by unfold chD; rw [if_neg h]] at hC
    rw [e1, z1, z2, z3]
    clear e1 z1 z2 z3 hZ h hd
    obtain ⟨da, db, ds, dt⟩ := d
    unfold bv
    unfold dv at hC ⊢
    unfold zD
    simp only at hC ⊢
    go_enter Try.func29, Try.ntmps29
    go_wp2_with ((go_at_call 33; (with_reducible refine (hC _).mono ?_); rintro e w1 ⟨rfl, hb1⟩; have hB1 := (below3 w _ _ _).trans (hb1.mono (by rw [size3]; omega)); have z1 : w.heap.size + 3 ≤ w1.heap.size := (by have := hb1.size; rw [size3] at this; exact this); obtain ⟨bc0, bc1, bf0, bf1⟩ := (Box2.of (blk3a w _ _ _)).below hb1 (by rw [size3]; omega); obtain ⟨dc0, dc1, dc2, dc3, df0, df1, df2, df3⟩ := (Box4.of (blk3b w _ _ _)).below hb1 (by rw [size3]; omega); obtain ⟨rc0, rc1, rc2, rc3, rf0, rf1, rf2, rf3⟩ := (Box4.of (blk3 w _ _ _)).below hb1 (by rw [size3]; omega)))
    refine bodyPost_ret_by (v := .tuple #[.int .u32 0, .int .i64 0, .agg #[.int .i64 0, .int .i64 0, .int .u64 0, .int .u64 0], .int .i64 8]) (by rw [results_ttct rfl]; go_simp) rfl ?_
    exact ⟨rfl, Below.set4 hB1 (by omega) _ _ _ _⟩

end Go.Proofs.Ytmnhepcnbdbhoaa.Du

/- What the reference of layer 8 returns: reading. -/
import Derived.Test.YtbhoodhcipegbaaRef08b
namespace Go.Proofs.Ytbhoodhcipegbaa.R08
open Go.Proofs Go.RowKit Go.Proofs.Ytbhoodhcipegbaa.Kit Go.Proofs.Ytbhoodhcipegbaa.M01 Go.Proofs.Ytbhoodhcipegbaa.M02 Go.Proofs.Ytbhoodhcipegbaa.M06 Go.Proofs.Ytbhoodhcipegbaa.M07 Go.Proofs.Ytbhoodhcipegbaa.M08 Go.Proofs.Ytbhoodhcipegbaa.Bt Go.Proofs.Ytbhoodhcipegbaa.R02 Go.Proofs.Ytbhoodhcipegbaa.Un Go.Proofs.Ytbhoodhcipegbaa.R06 Go.Proofs.Ytbhoodhcipegbaa.Ri Go.Proofs.Ytbhoodhcipegbaa.R07 Go.Proofs.Ytbhoodhcipegbaa.Du
set_option linter.unusedVariables false
attribute [local irreducible] wpStill

set_option maxHeartbeats 8000000 in
theorem got8_any (a : Option Addr) (len cap : Nat) (xs : List Int) (n p : Int) (d : D4) (w : World) (hr : RowIn .u8 w a len cap xs) (hok : okB xs n = true) (hp0 : 0 ≤ p) (hp1 : p ≤ 9223372036854775807) (h : okD d = true) :
    Calls Try.prog 46 #[bv a len cap n, .int .i64 p, dv d] w fun e w' => e = .returned (.tuple #[.int .u32 (drN xs n p d), .int .i64 (drX xs n p d), .int .i64 (drE xs n p d)]) ∧ Below w.heap.size w w' := by
  obtain ⟨a0, a1, b0, b1, s1, t1⟩ := okD_iff.1 h
  obtain ⟨hn0, hn1, hxl, hval⟩ := okB_iff.1 hok
  have hand : okB xs n = true ∧ okD d = true := ⟨hok, h⟩
  have hZ : drE xs n p d ≠ 0 → drN xs n p d = 0 ∧ drX xs n p d = 0 := fun g => ⟨by rw [drN, if_neg g], by rw [drX, if_neg g]⟩
  have hll := hr.hl
  have hw0 := p2_24le a1
  have hw1 := p2_pos d.a
  have hneg : ¬ p < 0 := by omega
  by_cases h1 : n ≤ p
  · have eE : drE xs n p d = 24 := by unfold drE; rw [if_pos hand, if_neg hneg, if_pos h1]
    obtain ⟨y1, y2⟩ := hZ (by rw [eE]; decide)
    rw [eE, y1, y2]
    have f1 : (n ≤ p) = True := eq_true h1
    clear eE y1 y2 hZ hand hok hxl hval h
    obtain ⟨da, db, ds, dt⟩ := d
    unfold bv dv
    simp only
    go_enter Try.func46, Try.ntmps46
    go_wp2
    go_ret3
    exact ⟨rfl, below2 _ _ _⟩
  have f1 : (n ≤ p) = False := eq_false h1
  have hAt := fun w' (r : RowIn .u8 w' a len cap xs) => at_any a len cap xs n p w' r hp0 (by omega) (by omega)
  by_cases hbit : val xs / p2 p % 2 = 0
  · simp only [hbit] at hAt
    by_cases h4 : n - p - 1 < d.a
    · have eE : drE xs n p d = 24 := by unfold drE; rw [if_pos hand, if_neg hneg, if_neg h1, if_pos hbit, if_pos h4]
      obtain ⟨y1, y2⟩ := hZ (by rw [eE]; decide)
      rw [eE, y1, y2]
      clear eE y1 y2 hZ hand hok hxl hval h hbit
      obtain ⟨da, db, ds, dt⟩ := d
      simp only at a0 a1 b0 b1 s1 t1 h4
      have f4 : (n - p - 1 < da) = True := eq_true h4
      unfold bv at hAt ⊢
      unfold dv
      simp only
      go_enter Try.func46, Try.ntmps46
      go_wp2_with (first | (go_at_call 47; (with_reducible refine (hAt _ (hr.same (below2 _ _ _))).mono ?_); rintro e w1 ⟨rfl, hb1⟩; have hB1 := (below2 w _ _).trans (hb1.mono (by rw [size2]; omega)); have z1 : w.heap.size + 2 ≤ w1.heap.size := (by have := hb1.size; rw [size2] at this; exact this); obtain ⟨bc0, bc1, bf0, bf1⟩ := (Box2.of (blk2a w _ _)).below hb1 (by rw [size2]; omega); obtain ⟨dc0, dc1, dc2, dc3, df0, df1, df2, df3⟩ := (Box4.of (blk2 w _ _)).below hb1 (by rw [size2]; omega)))
      go_ret3
      exact ⟨rfl, hB1⟩
    · have eE : drE xs n p d = 0 := by unfold drE; rw [if_pos hand, if_neg hneg, if_neg h1, if_pos hbit, if_neg h4]
      have eN : drN xs n p d = val xs / p2 (p + 1) % p2 d.a := by rw [drN, if_pos eE]; unfold dnN; rw [if_pos hbit, next_val hp0]
      have eX : drX xs n p d = p + 1 + d.a := by rw [drX, if_pos eE]; unfold dnS; rw [if_pos hbit]; omega
      have hm := emod_bd (val xs / p2 (p + 1)) d.a
      have hV := fun w' (r : RowIn .u8 w' a len cap xs) => value_any a len cap xs n (p + 1) d.a w' r (by omega) a0 (by omega) (by omega) (by omega)
      rw [eE, eN, eX]
      obtain ⟨N, hN⟩ : ∃ N, val xs / p2 (p + 1) % p2 d.a = N := ⟨_, rfl⟩
      simp only [hN] at hV hm ⊢
      have u1 : IntKind.u32.wrap N = N := by simp [IntKind.wrap, IntKind.bits, IntKind.signed]; omega
      have u2 : IntKind.i64.wrap (p + 1) = p + 1 := by simp [IntKind.wrap, IntKind.bits, IntKind.signed]; omega
      have u3 : IntKind.i64.wrap (p + 1 + d.a) = p + 1 + d.a := by simp [IntKind.wrap, IntKind.bits, IntKind.signed]; omega
      clear eE eN eX hZ hand hok hxl hval h hbit hN
      obtain ⟨da, db, ds, dt⟩ := d
      simp only at a0 a1 b0 b1 s1 t1 h4 hV u3 ⊢
      have f4 : (n - p - 1 < da) = False := eq_false h4
      unfold bv at hAt hV ⊢
      unfold dv
      simp only
      go_enter Try.func46, Try.ntmps46
      go_wp2_with (first | (go_at_call 47; (with_reducible refine (hAt _ (hr.same (below2 _ _ _))).mono ?_); rintro e w1 ⟨rfl, hb1⟩; have hB1 := (below2 w _ _).trans (hb1.mono (by rw [size2]; omega)); have z1 : w.heap.size + 2 ≤ w1.heap.size := (by have := hb1.size; rw [size2] at this; exact this); obtain ⟨bc0, bc1, bf0, bf1⟩ := (Box2.of (blk2a w _ _)).below hb1 (by rw [size2]; omega); obtain ⟨dc0, dc1, dc2, dc3, df0, df1, df2, df3⟩ := (Box4.of (blk2 w _ _)).below hb1 (by rw [size2]; omega)))
      go_region_held3 (fun w' => w'.cell? ⟨w.heap.size, 0, none⟩ = some (.slice a len cap) ∧ w'.cell? ⟨w.heap.size, 1, none⟩ = some (.int .i64 n) ∧ w'.cell? ⟨w.heap.size + 1, 0, none⟩ = some (.int .i64 da) ∧ w'.cell? ⟨w.heap.size + 1, 1, none⟩ = some (.int .i64 db) ∧ w'.cell? ⟨w.heap.size + 1, 2, none⟩ = some (.int .u64 ds) ∧ w'.cell? ⟨w.heap.size + 1, 3, none⟩ = some (.int .u64 dt)) (first | with_reducible exact ⟨bc0, bc1, dc0, dc1, dc2, dc3⟩ | with_reducible exact ⟨bc0', bc1', dc0', dc1', dc2', dc3'⟩ | go_keep) (first | (go_at_call 67; (with_reducible refine (hV _ (hr.same hB1.drew)).mono ?_); rintro e w2 ⟨rfl, hb2⟩; have hB2 := hB1.drew.trans (hb2.mono (show w.heap.size ≤ w1.heap.size by omega)); obtain ⟨bc0', bc1', bf0', bf1'⟩ := (Box2.mk bc0 bc1 bf0 bf1).drew.below hb2 (show w.heap.size < w1.heap.size by omega); obtain ⟨dc0', dc1', dc2', dc3', df0', df1', df2', df3'⟩ := (Box4.mk dc0 dc1 dc2 dc3 df0 df1 df2 df3).drew.below hb2 (show w.heap.size + 1 < w1.heap.size by omega)))
      all_goals
        go_wp2
        go_ret3
        exact ⟨rfl, hB2⟩
  · have hb1 : val xs / p2 p % 2 = 1 := by omega
    simp only [hb1] at hAt
    have hG := fun w' (r : RowIn .u8 w' a len cap xs) => rgot7_any a len cap xs n (p + 1) d.b w' r hok (by omega) (by omega) b0 b1
    have hP := fun w' => rpower_any d.a w' a0 (by omega)
    have e2 : drE xs n p d = if rrE xs n (p + 1) d.b ≠ 0 then rrE xs n (p + 1) d.b else if 4294967295 < rrN xs n (p + 1) d.b + p2 d.a then 12 else 0 := by unfold drE; rw [if_pos hand, if_neg hneg, if_neg h1, if_neg hbit]
    by_cases hr0 : rrE xs n (p + 1) d.b = 0
    · rw [if_neg (by rw [hr0]; simp)] at e2
      simp only [hr0] at hG
      have hrb : 0 ≤ rrN xs n (p + 1) d.b ∧ rrN xs n (p + 1) d.b ≤ 4294967295 := by
        rw [rrN, if_pos hr0]
        have := dcN_bd (X := val xs / p2 (p + 1)) b0 b1; omega
      have eD : dnN (val xs / p2 p) d = rrN xs n (p + 1) d.b + p2 d.a := by unfold dnN; rw [if_neg hbit, rrN, if_pos hr0, next_val hp0]
      have eS : p + dnS (val xs / p2 p) d = rrX xs n (p + 1) d.b := by unfold dnS; rw [if_neg hbit, rrX, if_pos hr0, next_val hp0]; omega
      by_cases hg : 4294967295 < rrN xs n (p + 1) d.b + p2 d.a
      · rw [if_pos hg] at e2
        obtain ⟨y1, y2⟩ := hZ (by rw [e2]; decide)
        rw [e2, y1, y2]
        clear e2 y1 y2 hZ hand hok hxl hval h hbit hr0 eD eS
        obtain ⟨P, hPP⟩ : ∃ P, p2 d.a = P := ⟨_, rfl⟩
        obtain ⟨N, hN⟩ : ∃ P, rrN xs n (p + 1) d.b = P := ⟨_, rfl⟩
        obtain ⟨X, hX⟩ : ∃ P, rrX xs n (p + 1) d.b = P := ⟨_, rfl⟩
        simp only [hPP] at hP hg hw0 hw1
        simp only [hN] at hG hg hrb
        simp only [hX] at hG
        clear hPP hN hX
        have u1 := small_u64' (v := N) hrb
        have u3 : IntKind.u64.wrap (N + P) = N + P := by simp [IntKind.wrap, IntKind.bits, IntKind.signed]; omega
        obtain ⟨da, db, ds, dt⟩ := d
        simp only at a0 a1 b0 b1 s1 t1 hG hP ⊢
        have f4 : (4294967295 < N + P) = True := eq_true hg
        unfold bv at hAt hG ⊢
        unfold dv
        simp only
        go_enter Try.func46, Try.ntmps46
        go_wp2_with (first | (go_at_call 47; (with_reducible refine (hAt _ (hr.same (below2 _ _ _))).mono ?_); rintro e w1 ⟨rfl, hb1⟩; have hB1 := (below2 w _ _).trans (hb1.mono (by rw [size2]; omega)); have z1 : w.heap.size + 2 ≤ w1.heap.size := (by have := hb1.size; rw [size2] at this; exact this); obtain ⟨bc0, bc1, bf0, bf1⟩ := (Box2.of (blk2a w _ _)).below hb1 (by rw [size2]; omega); obtain ⟨dc0, dc1, dc2, dc3, df0, df1, df2, df3⟩ := (Box4.of (blk2 w _ _)).below hb1 (by rw [size2]; omega)) | (go_at_call 68; (with_reducible refine (hG _ (hr.same hB1)).mono ?_); rintro e w2 ⟨rfl, hb2⟩; have hB2 := hB1.trans (hb2.mono (by omega)); have z2 := hb2.size; obtain ⟨bc0', bc1', bf0', bf1'⟩ := (Box2.mk bc0 bc1 bf0 bf1).below hb2 (show w.heap.size < w1.heap.size by omega); obtain ⟨dc0', dc1', dc2', dc3', df0', df1', df2', df3'⟩ := (Box4.mk dc0 dc1 dc2 dc3 df0 df1 df2 df3).below hb2 (show w.heap.size + 1 < w1.heap.size by omega); clear bc0 bf0 bc1 bf1 dc0 df0 dc1 df1 dc2 df2 dc3 df3) | (go_at_call 69; (with_reducible refine (hP _).mono ?_); rintro e wz ⟨rfl, rfl⟩))
        go_ret3
        exact ⟨rfl, hB2⟩
      · rw [if_neg hg] at e2
        rw [show drN xs n p d = rrN xs n (p + 1) d.b + p2 d.a by rw [drN, if_pos e2, eD], show drX xs n p d = rrX xs n (p + 1) d.b by rw [drX, if_pos e2, eS], e2]
        clear e2 hZ hand hok hxl hval h hbit hr0 eD eS
        obtain ⟨P, hPP⟩ : ∃ P, p2 d.a = P := ⟨_, rfl⟩
        obtain ⟨N, hN⟩ : ∃ P, rrN xs n (p + 1) d.b = P := ⟨_, rfl⟩
        obtain ⟨X, hX⟩ : ∃ P, rrX xs n (p + 1) d.b = P := ⟨_, rfl⟩
        simp only [hPP] at hP hg hw0 hw1 ⊢
        simp only [hN] at hG hg hrb ⊢
        simp only [hX] at hG ⊢
        clear hPP hN hX
        have u1 := small_u64' (v := N) hrb
        have u3 : IntKind.u64.wrap (N + P) = N + P := by simp [IntKind.wrap, IntKind.bits, IntKind.signed]; omega
        have u4 : IntKind.u32.wrap (N + P) = N + P := by simp [IntKind.wrap, IntKind.bits, IntKind.signed]; omega
        obtain ⟨da, db, ds, dt⟩ := d
        simp only at a0 a1 b0 b1 s1 t1 hG hP ⊢
        have f4 : (4294967295 < N + P) = False := eq_false hg
        unfold bv at hAt hG ⊢
        unfold dv
        simp only
        go_enter Try.func46, Try.ntmps46
        go_wp2_with (first | (go_at_call 47; (with_reducible refine (hAt _ (hr.same (below2 _ _ _))).mono ?_); rintro e w1 ⟨rfl, hb1⟩; have hB1 := (below2 w _ _).trans (hb1.mono (by rw [size2]; omega)); have z1 : w.heap.size + 2 ≤ w1.heap.size := (by have := hb1.size; rw [size2] at this; exact this); obtain ⟨bc0, bc1, bf0, bf1⟩ := (Box2.of (blk2a w _ _)).below hb1 (by rw [size2]; omega); obtain ⟨dc0, dc1, dc2, dc3, df0, df1, df2, df3⟩ := (Box4.of (blk2 w _ _)).below hb1 (by rw [size2]; omega)) | (go_at_call 68; (with_reducible refine (hG _ (hr.same hB1)).mono ?_); rintro e w2 ⟨rfl, hb2⟩; have hB2 := hB1.trans (hb2.mono (by omega)); have z2 := hb2.size; obtain ⟨bc0', bc1', bf0', bf1'⟩ := (Box2.mk bc0 bc1 bf0 bf1).below hb2 (show w.heap.size < w1.heap.size by omega); obtain ⟨dc0', dc1', dc2', dc3', df0', df1', df2', df3'⟩ := (Box4.mk dc0 dc1 dc2 dc3 df0 df1 df2 df3).below hb2 (show w.heap.size + 1 < w1.heap.size by omega); clear bc0 bf0 bc1 bf1 dc0 df0 dc1 df1 dc2 df2 dc3 df3) | (go_at_call 69; (with_reducible refine (hP _).mono ?_); rintro e wz ⟨rfl, rfl⟩))
        go_ret3
        exact ⟨rfl, hB2⟩
    · rw [if_pos hr0] at e2
      obtain ⟨y1, y2⟩ := hZ (by rw [e2]; exact hr0)
      rw [e2, y1, y2]
      clear e2 y1 y2 hZ hand hok hxl hval h hbit
      obtain ⟨E, hE⟩ : ∃ P, rrE xs n (p + 1) d.b = P := ⟨_, rfl⟩
      obtain ⟨N, hN⟩ : ∃ P, rrN xs n (p + 1) d.b = P := ⟨_, rfl⟩
      obtain ⟨X, hX⟩ : ∃ P, rrX xs n (p + 1) d.b = P := ⟨_, rfl⟩
      simp only [hE, hN, hX] at hG hr0 ⊢
      clear hE hN hX
      have f5 : (E = 0) = False := eq_false hr0
      have f6 : (E != 0) = true := bne_iff_ne.2 hr0
      obtain ⟨da, db, ds, dt⟩ := d
      simp only at a0 a1 b0 b1 s1 t1 hG
      unfold bv at hAt hG ⊢
      unfold dv
      simp only
      go_enter Try.func46, Try.ntmps46
      go_wp2_with (first | (go_at_call 47; (with_reducible refine (hAt _ (hr.same (below2 _ _ _))).mono ?_); rintro e w1 ⟨rfl, hb1⟩; have hB1 := (below2 w _ _).trans (hb1.mono (by rw [size2]; omega)); have z1 : w.heap.size + 2 ≤ w1.heap.size := (by have := hb1.size; rw [size2] at this; exact this); obtain ⟨bc0, bc1, bf0, bf1⟩ := (Box2.of (blk2a w _ _)).below hb1 (by rw [size2]; omega); obtain ⟨dc0, dc1, dc2, dc3, df0, df1, df2, df3⟩ := (Box4.of (blk2 w _ _)).below hb1 (by rw [size2]; omega)) | (go_at_call 68; (with_reducible refine (hG _ (hr.same hB1)).mono ?_); rintro e w2 ⟨rfl, hb2⟩; have hB2 := hB1.trans (hb2.mono (by omega)); have z2 := hb2.size; obtain ⟨bc0', bc1', bf0', bf1'⟩ := (Box2.mk bc0 bc1 bf0 bf1).below hb2 (show w.heap.size < w1.heap.size by omega); obtain ⟨dc0', dc1', dc2', dc3', df0', df1', df2', df3'⟩ := (Box4.mk dc0 dc1 dc2 dc3 df0 df1 df2 df3).below hb2 (show w.heap.size + 1 < w1.heap.size by omega); clear bc0 bf0 bc1 bf1 dc0 df0 dc1 df1 dc2 df2 dc3 df3))
      go_ret3
      exact ⟨rfl, hB2⟩

theorem results_ttct8 {fn : Func} {u p q z : Tmp} {t1 : TypeId} (h : fn.results = #[.tmp u, .tmp z, .cell p t1, .tmp q]) (tmps : Array Value) (P : Program) (w : World) :
    (results fn tmps).run P w = ((asAddr (tmps.getD p undef)).run P w).andThen fun a w₁ => ((loadVar t1 a).run P w₁).andThen fun v w₂ => .ok (.tuple #[tmps.getD u undef, tmps.getD z undef, v, tmps.getD q undef]) w₂ := by
  simp only [results, h]
  simp [Sem.run_bind, Result.andThen]

theorem drN_u32 {xs : List Int} {n p : Int} {d : D4} (hb : isByte xs) : isU (drN xs n p d) := by
  by_cases h : drE xs n p d = 0
  · exact (dr_once hb h).2.2.2.1
  · rw [drN, if_neg h]; unfold isU; omega

set_option maxHeartbeats 8000000 in
theorem rread8_any (a : Option Addr) (len cap : Nat) (xs : List Int) (n p : Int) (d : D4) (w : World) (hr : RowIn .u8 w a len cap xs) (hn : isInt n) (hp : isInt p) (hd : isD d) :
    Calls Try.prog 27 #[bv a len cap n, .int .i64 p, dv d] w fun e w' => e = .returned (.tuple #[.int .u32 (drN xs n p d), .int .i64 (drX xs n p d), dv (drD xs n p d), .int .i64 (drE xs n p d)]) ∧ Below w.heap.size w w' := by
  have hC := fun w' hb => rcheck_any a len cap xs n w' (hr.same hb) hn
  have hD := fun w' => rcheckD_any d w' hd
  have hZ : drE xs n p d ≠ 0 → drN xs n p d = 0 ∧ drX xs n p d = 0 ∧ drD xs n p d = zD := fun g => ⟨by rw [drN, if_neg g], by rw [drX, if_neg g], by rw [drD, if_neg g]⟩
  by_cases hok : okB xs n = true
  case neg =>
    have e1 : chkE xs n = 8 := by simp [chkE, hok]
    simp only [e1] at hC
    have eE : drE xs n p d = 8 := by unfold drE; rw [if_neg (fun q => hok q.1)]
    obtain ⟨y1, y2, y3⟩ := hZ (by rw [eE]; decide)
    rw [eE, y1, y2, y3]
    clear eE y1 y2 y3 hZ hok e1 hd hD
    obtain ⟨da, db, ds, dt⟩ := d
    unfold bv at hC ⊢
    unfold dv zD
    simp only
    go_enter Try.func27, Try.ntmps27
    go_wp2_with (first | (go_at_call 28; (with_reducible refine (hC _ (below3 _ _ _ _)).mono ?_); rintro e w1 ⟨rfl, hb1⟩; have hB1 := (below3 w _ _ _).trans (hb1.mono (by rw [size3]; omega)); have z1 : w.heap.size + 3 ≤ w1.heap.size := (by have := hb1.size; rw [size3] at this; exact this); obtain ⟨bc0, bc1, bf0, bf1⟩ := (Box2.of (blk3a w _ _ _)).below hb1 (by rw [size3]; omega); obtain ⟨dc0, dc1, dc2, dc3, df0, df1, df2, df3⟩ := (Box4.of (blk3b w _ _ _)).below hb1 (by rw [size3]; omega); obtain ⟨qc0, qc1, qc2, qc3, qf0, qf1, qf2, qf3⟩ := (Box4.of (blk3 w _ _ _)).below hb1 (by rw [size3]; omega)))
    refine bodyPost_ret_by (v := .tuple #[.int .u32 0, .int .i64 0, .agg #[.int .i64 0, .int .i64 0, .int .u64 0, .int .u64 0], .int .i64 8]) (by rw [results_ttct8 rfl]; go_simp) rfl ?_
    exact ⟨rfl, Below.set4 hB1 (by omega) _ _ _ _⟩
  have e1 : chkE xs n = 0 := by simp [chkE, hok]
  simp only [e1] at hC
  clear e1
  by_cases h : okD d = true
  case neg =>
    have eE : drE xs n p d = 8 := by unfold drE; rw [if_neg (fun q => h q.2)]
    obtain ⟨y1, y2, y3⟩ := hZ (by rw [eE]; decide)
    rw [eE, y1, y2, y3]
    rw [show chD d = 8 by unfold chD; rw [if_neg h]] at hD
    clear eE y1 y2 y3 hZ hok hd h
    obtain ⟨da, db, ds, dt⟩ := d
    unfold bv at hC ⊢
    unfold dv at hD ⊢
    unfold zD
    simp only at hD ⊢
    go_enter Try.func27, Try.ntmps27
    go_wp2_with (first | (go_at_call 28; (with_reducible refine (hC _ (below3 _ _ _ _)).mono ?_); rintro e w1 ⟨rfl, hb1⟩; have hB1 := (below3 w _ _ _).trans (hb1.mono (by rw [size3]; omega)); have z1 : w.heap.size + 3 ≤ w1.heap.size := (by have := hb1.size; rw [size3] at this; exact this); obtain ⟨bc0, bc1, bf0, bf1⟩ := (Box2.of (blk3a w _ _ _)).below hb1 (by rw [size3]; omega); obtain ⟨dc0, dc1, dc2, dc3, df0, df1, df2, df3⟩ := (Box4.of (blk3b w _ _ _)).below hb1 (by rw [size3]; omega); obtain ⟨qc0, qc1, qc2, qc3, qf0, qf1, qf2, qf3⟩ := (Box4.of (blk3 w _ _ _)).below hb1 (by rw [size3]; omega)) | (go_at_call 25; (with_reducible refine (hD _).mono ?_); rintro e w2 ⟨rfl, hb2⟩; have hB2 := hB1.trans (hb2.mono (by omega)); have z2 := hb2.size; have Tb := (Box2.mk bc0 bc1 bf0 bf1).below hb2 (show w.heap.size < w1.heap.size by omega); have Td := (Box4.mk dc0 dc1 dc2 dc3 df0 df1 df2 df3).below hb2 (show w.heap.size + 1 < w1.heap.size by omega); have Tq := (Box4.mk qc0 qc1 qc2 qc3 qf0 qf1 qf2 qf3).below hb2 (show w.heap.size + 2 < w1.heap.size by omega); clear bc0 bf0 bc1 bf1 dc0 df0 dc1 df1 dc2 df2 dc3 df3 qc0 qf0 qc1 qf1 qc2 qf2 qc3 qf3; obtain ⟨bc0, bc1, bf0, bf1⟩ := Tb; obtain ⟨dc0, dc1, dc2, dc3, df0, df1, df2, df3⟩ := Td; obtain ⟨qc0, qc1, qc2, qc3, qf0, qf1, qf2, qf3⟩ := Tq))
    refine bodyPost_ret_by (v := .tuple #[.int .u32 0, .int .i64 0, .agg #[.int .i64 0, .int .i64 0, .int .u64 0, .int .u64 0], .int .i64 8]) (by rw [results_ttct8 rfl]; go_simp) rfl ?_
    exact ⟨rfl, Below.set4 hB2 (by omega) _ _ _ _⟩
  rw [show chD d = 0 by unfold chD; rw [if_pos h]] at hD
  by_cases hneg : p < 0
  · have eE : drE xs n p d = 2 := by unfold drE; rw [if_pos ⟨hok, h⟩, if_pos hneg]
    obtain ⟨y1, y2, y3⟩ := hZ (by rw [eE]; decide)
    rw [eE, y1, y2, y3]
    have f1 : (p < 0) = True := eq_true hneg
    clear eE y1 y2 y3 hZ hok hd h
    obtain ⟨da, db, ds, dt⟩ := d
    unfold bv at hC ⊢
    unfold dv at hD ⊢
    unfold zD
    simp only at hD ⊢
    go_enter Try.func27, Try.ntmps27
    go_wp2_with (first | (go_at_call 28; (with_reducible refine (hC _ (below3 _ _ _ _)).mono ?_); rintro e w1 ⟨rfl, hb1⟩; have hB1 := (below3 w _ _ _).trans (hb1.mono (by rw [size3]; omega)); have z1 : w.heap.size + 3 ≤ w1.heap.size := (by have := hb1.size; rw [size3] at this; exact this); obtain ⟨bc0, bc1, bf0, bf1⟩ := (Box2.of (blk3a w _ _ _)).below hb1 (by rw [size3]; omega); obtain ⟨dc0, dc1, dc2, dc3, df0, df1, df2, df3⟩ := (Box4.of (blk3b w _ _ _)).below hb1 (by rw [size3]; omega); obtain ⟨qc0, qc1, qc2, qc3, qf0, qf1, qf2, qf3⟩ := (Box4.of (blk3 w _ _ _)).below hb1 (by rw [size3]; omega)) | (go_at_call 25; (with_reducible refine (hD _).mono ?_); rintro e w2 ⟨rfl, hb2⟩; have hB2 := hB1.trans (hb2.mono (by omega)); have z2 := hb2.size; have Tb := (Box2.mk bc0 bc1 bf0 bf1).below hb2 (show w.heap.size < w1.heap.size by omega); have Td := (Box4.mk dc0 dc1 dc2 dc3 df0 df1 df2 df3).below hb2 (show w.heap.size + 1 < w1.heap.size by omega); have Tq := (Box4.mk qc0 qc1 qc2 qc3 qf0 qf1 qf2 qf3).below hb2 (show w.heap.size + 2 < w1.heap.size by omega); clear bc0 bf0 bc1 bf1 dc0 df0 dc1 df1 dc2 df2 dc3 df3 qc0 qf0 qc1 qf1 qc2 qf2 qc3 qf3; obtain ⟨bc0, bc1, bf0, bf1⟩ := Tb; obtain ⟨dc0, dc1, dc2, dc3, df0, df1, df2, df3⟩ := Td; obtain ⟨qc0, qc1, qc2, qc3, qf0, qf1, qf2, qf3⟩ := Tq))
    refine bodyPost_ret_by (v := .tuple #[.int .u32 0, .int .i64 0, .agg #[.int .i64 0, .int .i64 0, .int .u64 0, .int .u64 0], .int .i64 2]) (by rw [results_ttct8 rfl]; go_simp) rfl ?_
    exact ⟨rfl, Below.set4 hB2 (by omega) _ _ _ _⟩
  have f1 : (p < 0) = False := eq_false hneg
  obtain ⟨hp1, hp2⟩ := hp
  have hG := fun w' (r : RowIn .u8 w' a len cap xs) => got8_any a len cap xs n p d w' r hok (by omega) hp2 h
  by_cases hE : drE xs n p d = 0
  · have hv := drN_u32 (n := n) (p := p) (d := d) (byte_of hr.rd)
    have hLt := fun w' => learnt_any d (drN xs n p d) w' hd h hv
    rw [show learnD d (drN xs n p d) = drD xs n p d by rw [drD, drN, if_pos hE, if_pos hE]] at hLt
    simp only [hE] at hG ⊢
    obtain ⟨N, hN⟩ : ∃ P, drN xs n p d = P := ⟨_, rfl⟩
    obtain ⟨X, hX⟩ : ∃ P, drX xs n p d = P := ⟨_, rfl⟩
    obtain ⟨L, hL⟩ : ∃ P, drD xs n p d = P := ⟨_, rfl⟩
    simp only [hN, hX] at hG ⊢
    simp only [hN, hL] at hLt ⊢
    clear hN hX hL hZ hok hd h hE hv
    obtain ⟨da, db, ds, dt⟩ := d
    obtain ⟨la, lb, ls, lt⟩ := L
    unfold bv at hC hG ⊢
    unfold dv at hD hG hLt ⊢
    simp only at hD hG hLt ⊢
    go_enter Try.func27, Try.ntmps27
    go_wp2_with (first | (go_at_call 28; (with_reducible refine (hC _ (below3 _ _ _ _)).mono ?_); rintro e w1 ⟨rfl, hb1⟩; have hB1 := (below3 w _ _ _).trans (hb1.mono (by rw [size3]; omega)); have z1 : w.heap.size + 3 ≤ w1.heap.size := (by have := hb1.size; rw [size3] at this; exact this); obtain ⟨bc0, bc1, bf0, bf1⟩ := (Box2.of (blk3a w _ _ _)).below hb1 (by rw [size3]; omega); obtain ⟨dc0, dc1, dc2, dc3, df0, df1, df2, df3⟩ := (Box4.of (blk3b w _ _ _)).below hb1 (by rw [size3]; omega); obtain ⟨qc0, qc1, qc2, qc3, qf0, qf1, qf2, qf3⟩ := (Box4.of (blk3 w _ _ _)).below hb1 (by rw [size3]; omega)) | (go_at_call 25; (with_reducible refine (hD _).mono ?_); rintro e w2 ⟨rfl, hb2⟩; have hB2 := hB1.trans (hb2.mono (by omega)); have z2 := hb2.size; have Tb := (Box2.mk bc0 bc1 bf0 bf1).below hb2 (show w.heap.size < w1.heap.size by omega); have Td := (Box4.mk dc0 dc1 dc2 dc3 df0 df1 df2 df3).below hb2 (show w.heap.size + 1 < w1.heap.size by omega); have Tq := (Box4.mk qc0 qc1 qc2 qc3 qf0 qf1 qf2 qf3).below hb2 (show w.heap.size + 2 < w1.heap.size by omega); clear bc0 bf0 bc1 bf1 dc0 df0 dc1 df1 dc2 df2 dc3 df3 qc0 qf0 qc1 qf1 qc2 qf2 qc3 qf3; obtain ⟨bc0, bc1, bf0, bf1⟩ := Tb; obtain ⟨dc0, dc1, dc2, dc3, df0, df1, df2, df3⟩ := Td; obtain ⟨qc0, qc1, qc2, qc3, qf0, qf1, qf2, qf3⟩ := Tq) | (go_at_call 46; (with_reducible refine (hG _ (hr.same hB2)).mono ?_); rintro e w3 ⟨rfl, hb3⟩; have hB3 := hB2.trans (hb3.mono (by omega)); have z3 := hb3.size; have Tb := (Box2.mk bc0 bc1 bf0 bf1).below hb3 (show w.heap.size < w2.heap.size by omega); have Td := (Box4.mk dc0 dc1 dc2 dc3 df0 df1 df2 df3).below hb3 (show w.heap.size + 1 < w2.heap.size by omega); have Tq := (Box4.mk qc0 qc1 qc2 qc3 qf0 qf1 qf2 qf3).below hb3 (show w.heap.size + 2 < w2.heap.size by omega); clear bc0 bf0 bc1 bf1 dc0 df0 dc1 df1 dc2 df2 dc3 df3 qc0 qf0 qc1 qf1 qc2 qf2 qc3 qf3; obtain ⟨bc0, bc1, bf0, bf1⟩ := Tb; obtain ⟨dc0, dc1, dc2, dc3, df0, df1, df2, df3⟩ := Td; obtain ⟨qc0, qc1, qc2, qc3, qf0, qf1, qf2, qf3⟩ := Tq) | (go_at_call 42; (with_reducible refine (hLt _).mono ?_); rintro e w4 ⟨rfl, hb4⟩; have hB4 := hB3.trans (hb4.mono (by omega)); have z4 := hb4.size; have Tq := (Box4.mk qc0 qc1 qc2 qc3 qf0 qf1 qf2 qf3).below hb4 (show w.heap.size + 2 < w3.heap.size by omega); clear bc0 bf0 bc1 bf1 dc0 df0 dc1 df1 dc2 df2 dc3 df3 qc0 qf0 qc1 qf1 qc2 qf2 qc3 qf3; obtain ⟨qc0, qc1, qc2, qc3, qf0, qf1, qf2, qf3⟩ := Tq))
    refine bodyPost_ret_by (v := .tuple #[.int .u32 N, .int .i64 X, .agg #[.int .i64 la, .int .i64 lb, .int .u64 ls, .int .u64 lt], .int .i64 0]) (by rw [results_ttct8 rfl]; go_simp) rfl ?_
    exact ⟨rfl, Below.set4 hB4 (by omega) _ _ _ _⟩
  · obtain ⟨y1, y2, y3⟩ := hZ hE
    simp only [y1, y2, y3] at hG ⊢
    obtain ⟨E, hEE⟩ : ∃ P, drE xs n p d = P := ⟨_, rfl⟩
    simp only [hEE] at hG hE ⊢
    have f5 : (E = 0) = False := eq_false hE
    have f6 : (E != 0) = true := bne_iff_ne.2 hE
    clear hEE y1 y2 y3 hZ hok hd h
    obtain ⟨da, db, ds, dt⟩ := d
    unfold bv at hC hG ⊢
    unfold dv at hD hG ⊢
    unfold zD
    simp only at hD hG ⊢
    go_enter Try.func27, Try.ntmps27
    go_wp2_with (first | (go_at_call 28; (with_reducible refine (hC _ (below3 _ _ _ _)).mono ?_); rintro e w1 ⟨rfl, hb1⟩; have hB1 := (below3 w _ _ _).trans (hb1.mono (by rw [size3]; omega)); have z1 : w.heap.size + 3 ≤ w1.heap.size := (by have := hb1.size; rw [size3] at this; exact this); obtain ⟨bc0, bc1, bf0, bf1⟩ := (Box2.of (blk3a w _ _ _)).below hb1 (by rw [size3]; omega); obtain ⟨dc0, dc1, dc2, dc3, df0, df1, df2, df3⟩ := (Box4.of (blk3b w _ _ _)).below hb1 (by rw [size3]; omega); obtain ⟨qc0, qc1, qc2, qc3, qf0, qf1, qf2, qf3⟩ := (Box4.of (blk3 w _ _ _)).below hb1 (by rw [size3]; omega)) | (go_at_call 25; (with_reducible refine (hD _).mono ?_); rintro e w2 ⟨rfl, hb2⟩; have hB2 := hB1.trans (hb2.mono (by omega)); have z2 := hb2.size; have Tb := (Box2.mk bc0 bc1 bf0 bf1).below hb2 (show w.heap.size < w1.heap.size by omega); have Td := (Box4.mk dc0 dc1 dc2 dc3 df0 df1 df2 df3).below hb2 (show w.heap.size + 1 < w1.heap.size by omega); have Tq := (Box4.mk qc0 qc1 qc2 qc3 qf0 qf1 qf2 qf3).below hb2 (show w.heap.size + 2 < w1.heap.size by omega); clear bc0 bf0 bc1 bf1 dc0 df0 dc1 df1 dc2 df2 dc3 df3 qc0 qf0 qc1 qf1 qc2 qf2 qc3 qf3; obtain ⟨bc0, bc1, bf0, bf1⟩ := Tb; obtain ⟨dc0, dc1, dc2, dc3, df0, df1, df2, df3⟩ := Td; obtain ⟨qc0, qc1, qc2, qc3, qf0, qf1, qf2, qf3⟩ := Tq) | (go_at_call 46; (with_reducible refine (hG _ (hr.same hB2)).mono ?_); rintro e w3 ⟨rfl, hb3⟩; have hB3 := hB2.trans (hb3.mono (by omega)); have z3 := hb3.size; have Tb := (Box2.mk bc0 bc1 bf0 bf1).below hb3 (show w.heap.size < w2.heap.size by omega); have Td := (Box4.mk dc0 dc1 dc2 dc3 df0 df1 df2 df3).below hb3 (show w.heap.size + 1 < w2.heap.size by omega); have Tq := (Box4.mk qc0 qc1 qc2 qc3 qf0 qf1 qf2 qf3).below hb3 (show w.heap.size + 2 < w2.heap.size by omega); clear bc0 bf0 bc1 bf1 dc0 df0 dc1 df1 dc2 df2 dc3 df3 qc0 qf0 qc1 qf1 qc2 qf2 qc3 qf3; obtain ⟨bc0, bc1, bf0, bf1⟩ := Tb; obtain ⟨dc0, dc1, dc2, dc3, df0, df1, df2, df3⟩ := Td; obtain ⟨qc0, qc1, qc2, qc3, qf0, qf1, qf2, qf3⟩ := Tq))
    refine bodyPost_ret_by (v := .tuple #[.int .u32 0, .int .i64 0, .agg #[.int .i64 0, .int .i64 0, .int .u64 0, .int .u64 0], .int .i64 E]) (by rw [results_ttct8 rfl]; go_simp) rfl ?_
    exact ⟨rfl, Below.set4 hB3 (by omega) _ _ _ _⟩

end Go.Proofs.Ytbhoodhcipegbaa.R08

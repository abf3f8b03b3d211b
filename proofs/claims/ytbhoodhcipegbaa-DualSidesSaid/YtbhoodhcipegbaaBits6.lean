/- What package bits puts and joins. -/
import Derived.Test.YtbhoodhcipegbaaBits5
namespace Go.Proofs.Ytbhoodhcipegbaa.Bt
open Go.RowKit Go.Proofs.Ytbhoodhcipegbaa.Kit Go.Proofs.Ytbhoodhcipegbaa.M01 Go.Proofs.Ytbhoodhcipegbaa.M02
set_option linter.unusedVariables false

theorem size1 (w : World) (A : Obj) : (w.alloc A).heap.size = w.heap.size + 1 := by simp
theorem size2 (w : World) (A B : Obj) : ((w.alloc A).alloc B).heap.size = w.heap.size + 2 := by simp
theorem size3 (w : World) (A B C : Obj) : (((w.alloc A).alloc B).alloc C).heap.size = w.heap.size + 3 := by simp

set_option maxHeartbeats 4000000 in
theorem put_any (a : Option Addr) (len cap : Nat) (xs : List Int) (n v m : Int) (w : World) (hr : RowIn .u8 w a len cap xs) (hn : isInt n) (hv0 : 0 ≤ v) (hv : v < 18446744073709551616) (hm : isInt m) :
    Calls Try.prog 10 #[bv a len cap n, .int .u64 v, .int .i64 m] w fun e w' => ∃ a' cap', e = .returned (.tuple #[bv a' (putL xs n v m).length cap' (putN xs n v m), .int .i64 (putE xs n v m)]) ∧ RowIn .u8 w' a' (putL xs n v m).length cap' (putL xs n v m) ∧ Below w.heap.size w w' ∧ Fresh w a' := by
  have hl := hr.hl
  have hC := fun w' hb => check_any a len cap xs n w' (hr.same hb) hn.1 hn.2
  by_cases hok : okB xs n = true
  · have e1 : chkE xs n = 0 := by simp [chkE, hok]
    obtain ⟨hn0, hn1, hxl, hval⟩ := okB_iff.1 hok
    rw [e1] at hC
    clear e1
    by_cases t1 : m < 0
    · have eE : putE xs n v m = 2 := by simp [putE, hok, t1]
      have eL : putL xs n v m = [] := by simp [putL, eE]
      have eN : putN xs n v m = 0 := by simp [putN, eE]
      rw [eE, eL, eN]
      clear eE eL eN hok
      unfold bv at hC ⊢
      have f1 : (m < 0) = True := eq_true t1
      go_enter Try.func10, Try.ntmps10
      go_wp2_with (go_at_call 31; refine (hC _ (below3 _ _ _ _)).mono ?_; rintro e w' ⟨rfl, hb1⟩; rw [size3] at hb1; obtain ⟨r0, r1, r2, r3⟩ := (Box2.of (blk3 w _ _ _)).below hb1 (by omega))
      refine bodyPost_ret_by (v := .tuple #[.agg #[.slice none 0 0, .int .i64 0], .int .i64 2]) (by rw [results_cell_tmp rfl]; go_simp) rfl ?_
      exact ⟨none, 0, rfl, RowIn.nil, (((below3 w _ _ _).trans (hb1.mono (by omega))).setCell (by dsimp only; omega) _).setCell (by dsimp only; omega) _, Fresh.none⟩
    by_cases t2 : 64 < m
    · have eE : putE xs n v m = 2 := by simp [putE, hok, t2]
      have eL : putL xs n v m = [] := by simp [putL, eE]
      have eN : putN xs n v m = 0 := by simp [putN, eE]
      rw [eE, eL, eN]
      clear eE eL eN hok
      unfold bv at hC ⊢
      have f1 : (m < 0) = False := eq_false t1
      have f2 : (64 < m) = True := eq_true t2
      go_enter Try.func10, Try.ntmps10
      go_wp2_with (go_at_call 31; refine (hC _ (below3 _ _ _ _)).mono ?_; rintro e w' ⟨rfl, hb1⟩; rw [size3] at hb1; obtain ⟨r0, r1, r2, r3⟩ := (Box2.of (blk3 w _ _ _)).below hb1 (by omega))
      refine bodyPost_ret_by (v := .tuple #[.agg #[.slice none 0 0, .int .i64 0], .int .i64 2]) (by rw [results_cell_tmp rfl]; go_simp) rfl ?_
      exact ⟨none, 0, rfl, RowIn.nil, (((below3 w _ _ _).trans (hb1.mono (by omega))).setCell (by dsimp only; omega) _).setCell (by dsimp only; omega) _, Fresh.none⟩
    have f1 : (m < 0) = False := eq_false t1
    have f2 : (64 < m) = False := eq_false t2
    have hmin : min m 64 = m := by omega
    have hLow := fun w' => lowest_any v m w' hv0 hv (by omega) (by omega)
    rw [hmin] at hLow
    have hpm := p2_pos m
    by_cases t3 : p2 m ≤ v
    · have eE : putE xs n v m = 16 := by simp [putE, hok, t1, t2, t3]
      have eL : putL xs n v m = [] := by simp [putL, eE]
      have eN : putN xs n v m = 0 := by simp [putN, eE]
      rw [eE, eL, eN]
      clear eE eL eN hok
      unfold bv at hC ⊢
      obtain ⟨y, hy⟩ : ∃ y, v % p2 m = y := ⟨_, rfl⟩
      have hne : (v != y) = true := bne_iff_ne.2 (by have := Int.emod_lt_of_pos v (show 0 < p2 m by omega); omega)
      rw [hy] at hLow
      clear hy hmin t3 hpm
      go_enter Try.func10, Try.ntmps10
      go_wp2_with (go_at_call 31; refine (hC _ (below3 _ _ _ _)).mono ?_; rintro e w' ⟨rfl, hb1⟩; rw [size3] at hb1; obtain ⟨r0, r1, r2, r3⟩ := (Box2.of (blk3 w _ _ _)).below hb1 (by omega); have cv := cell1 ((hb1.block (w.heap.size + 1) (by omega)).trans (blk3b w _ _ _)))
      go_quiet ((go_at_call 32; exact Calls.quiet_of_same ((hLow _).mono (fun _ _ q => ⟨q.1, q.2.symm⟩))))
      go_wp2
      refine bodyPost_ret_by (v := .tuple #[.agg #[.slice none 0 0, .int .i64 0], .int .i64 16]) (by rw [results_cell_tmp rfl]; go_simp) rfl ?_
      exact ⟨none, 0, rfl, RowIn.nil, ((below_drewN ((below3 w _ _ _).trans (hb1.mono (by omega))) _).setCell (by dsimp only; omega) _).setCell (by dsimp only; omega) _, Fresh.none⟩
    have hvm : v % p2 m = v := Int.emod_eq_of_lt hv0 (by omega)
    rw [hvm] at hLow
    by_cases t4 : 330000 < n + m
    · have eE : putE xs n v m = 18 := by simp [putE, hok, t1, t2, t3, t4]
      have eL : putL xs n v m = [] := by simp [putL, eE]
      have eN : putN xs n v m = 0 := by simp [putN, eE]
      rw [eE, eL, eN]
      clear eE eL eN hok hvm hmin t3 hpm
      unfold bv at hC ⊢
      have f4 : (330000 < n + m) = True := eq_true t4
      go_enter Try.func10, Try.ntmps10
      go_wp2_with (go_at_call 31; refine (hC _ (below3 _ _ _ _)).mono ?_; rintro e w' ⟨rfl, hb1⟩; rw [size3] at hb1; obtain ⟨c0, c1, c2, c3⟩ := (Box2.of (blk3a w _ _ _)).below hb1 (by omega); obtain ⟨r0, r1, r2, r3⟩ := (Box2.of (blk3 w _ _ _)).below hb1 (by omega); have cv := cell1 ((hb1.block (w.heap.size + 1) (by omega)).trans (blk3b w _ _ _)))
      go_quiet ((go_at_call 32; exact Calls.quiet_of_same ((hLow _).mono (fun _ _ q => ⟨q.1, q.2.symm⟩))))
      go_wp2
      refine bodyPost_ret_by (v := .tuple #[.agg #[.slice none 0 0, .int .i64 0], .int .i64 18]) (by rw [results_cell_tmp rfl]; go_simp) rfl ?_
      exact ⟨none, 0, rfl, RowIn.nil, ((below_drewN ((below3 w _ _ _).trans (hb1.mono (by omega))) _).setCell (by dsimp only; omega) _).setCell (by dsimp only; omega) _, Fresh.none⟩
    · have eE : putE xs n v m = 0 := by simp [putE, hok, t1, t2, t3, t4]
      have eL : putL xs n v m = bl (n + m) (val xs + v * p2 n) := by simp [putL, eE]
      have eN : putN xs n v m = n + m := by simp [putN, eE]
      rw [eE, eL, eN, bl_length]
      have f4 : (330000 < n + m) = False := eq_false t4
      have hBeh := fun w' b hb (hcell : w'.cell? ⟨b, 0, none⟩ = some (.int .u64 v)) => behind_any a len cap xs n m 34 #[.pointer (some ⟨b, 0, none⟩)] v w' (hr.same hb) hok (by omega) hv0 (by omega) (by omega) (put1_gives hcell hv0 hv (sz m) (by unfold sz; omega))
      obtain ⟨R, hR⟩ : ∃ R, bl (n + m) (val xs + v * p2 n) = R := ⟨_, rfl⟩
      obtain ⟨K, hK⟩ : ∃ K, sz (n + m) = K := ⟨_, rfl⟩
      rw [hR, hK]
      simp only [hR, hK] at hBeh
      clear eE eL eN hok hvm hmin t3 hpm hR hK
      unfold bv at hC hBeh ⊢
      go_enter Try.func10, Try.ntmps10
      go_wp2_with (first  | (go_at_call 31; refine (hC _ (below3 _ _ _ _)).mono ?_; rintro e w' ⟨rfl, hb1⟩; rw [size3] at hb1; have hB1 := (below3 w _ _ _).trans (hb1.mono (by omega)); obtain ⟨c0, c1, c2, c3⟩ := (Box2.of (blk3a w _ _ _)).below hb1 (by omega); have B2 := (Box2.of (blk3 w _ _ _)).below hb1 (by omega); have hsz := hb1.size; rw [size3] at hsz; have cv := cell1 ((hb1.block (w.heap.size + 1) (by omega)).trans (blk3b w _ _ _)))  | (go_at_call 33; refine (hBeh _ _ (below_drewN hB1 _) cv).mono ?_; rintro e w'' ⟨a', cap', rfl, hro, hbe, hfr⟩; obtain ⟨r0, r1, r2, r3⟩ := (B2.below (below_drewN (Below.refl _ _) _) (Nat.lt_of_lt_of_le (by omega) hsz)).below hbe (Nat.lt_of_lt_of_le (by omega) hsz)))
      go_quiet ((go_at_call 32; exact Calls.quiet_of_same ((hLow _).mono (fun _ _ q => ⟨q.1, q.2.symm⟩))))
      go_wp2_with (go_at_call 33; refine (hBeh _ _ (below_drewN hB1 _) cv).mono ?_; rintro e w'' ⟨a', cap', rfl, hro, hbe, hfr⟩; obtain ⟨r0, r1, r2, r3⟩ := (B2.below (below_drewN (Below.refl _ _) _) (Nat.lt_of_lt_of_le (by omega) hsz)).below hbe (Nat.lt_of_lt_of_le (by omega) hsz))
      refine bodyPost_ret_by (v := .tuple #[.agg #[.slice a' K cap', .int .i64 (n + m)], .int .i64 0]) (by rw [results_cell_tmp rfl]; go_simp) rfl ?_
      have hne := hfr.ne (g := w.heap.size + 2) (Nat.lt_of_lt_of_le (by omega) hsz)
      exact ⟨_, _, rfl, (hro.set hne).set hne, (((below_drewN hB1 _).trans (hbe.mono hB1.size)).setCell (by dsimp only; omega) _).setCell (by dsimp only; omega) _, hfr.lift hB1.size⟩
  · have e1 : chkE xs n = 8 := by simp [chkE, hok]
    have eE : putE xs n v m = 8 := by simp [putE, hok]
    have eL : putL xs n v m = [] := by simp [putL, eE]
    have eN : putN xs n v m = 0 := by simp [putN, eE]
    rw [e1] at hC
    rw [eE, eL, eN]
    unfold bv at hC ⊢
    clear e1 eE eL eN hok
    go_enter Try.func10, Try.ntmps10
    go_wp2_with (go_at_call 31; refine (hC _ (below3 _ _ _ _)).mono ?_; rintro e w' ⟨rfl, hb1⟩; rw [size3] at hb1; obtain ⟨r0, r1, r2, r3⟩ := (Box2.of (blk3 w _ _ _)).below hb1 (by omega))
    refine bodyPost_ret_by (v := .tuple #[.agg #[.slice none 0 0, .int .i64 0], .int .i64 8]) (by rw [results_cell_tmp rfl]; go_simp) rfl ?_
    exact ⟨none, 0, rfl, RowIn.nil, (((below3 w _ _ _).trans (hb1.mono (by omega))).setCell (by dsimp only; omega) _).setCell (by dsimp only; omega) _, Fresh.none⟩

set_option maxHeartbeats 4000000 in
theorem join_any (a : Option Addr) (len cap : Nat) (xs : List Int) (n : Int) (b : Option Addr) (blen bcap : Nat) (ys : List Int) (m : Int) (w : World) (hr : RowIn .u8 w a len cap xs) (hn : isInt n) (hrb : RowIn .u8 w b blen bcap ys) (hm : isInt m) :
    Calls Try.prog 30 #[bv a len cap n, bv b blen bcap m] w fun e w' => ∃ a' cap', e = .returned (.tuple #[bv a' (joL xs n ys m).length cap' (joN xs n ys m), .int .i64 (joE xs n ys m)]) ∧ RowIn .u8 w' a' (joL xs n ys m).length cap' (joL xs n ys m) ∧ Below w.heap.size w w' ∧ Fresh w a' := by
  have hC := fun w' hb => check_any a len cap xs n w' (hr.same hb) hn.1 hn.2
  have hC2 := fun w' hb => check_any b blen bcap ys m w' (hrb.same hb) hm.1 hm.2
  by_cases hok : okB xs n = true
  · have e1 : chkE xs n = 0 := by simp [chkE, hok]
    rw [e1] at hC
    clear e1
    by_cases hok2 : okB ys m = true
    · have e1 : chkE ys m = 0 := by simp [chkE, hok2]
      rw [e1] at hC2
      clear e1
      obtain ⟨hn0, hn1, hxl, hval⟩ := okB_iff.1 hok
      obtain ⟨hm0, hm1, hyl, hval2⟩ := okB_iff.1 hok2
      have hv0 := val_nonneg (byte_of hrb.rd)
      by_cases t4 : 330000 < n + m
      · have eE : joE xs n ys m = 18 := by simp [joE, hok, hok2, t4]
        have eL : joL xs n ys m = [] := by simp [joL, eE]
        have eN : joN xs n ys m = 0 := by simp [joN, eE]
        rw [eE, eL, eN]
        clear eE eL eN hok hok2 hxl hyl hval hval2 hv0
        unfold bv at hC hC2 ⊢
        have f4 : (330000 < n + m) = True := eq_true t4
        go_enter Try.func30, Try.ntmps30
        go_wp2_with (first | ((with_reducible refine (hC _ (below3 _ _ _ _)).mono ?_); rintro e w1 ⟨rfl, hb1⟩; rw [size3] at hb1; have hB1 := (below3 w _ _ _).trans (hb1.mono (by omega)); have hsz := hb1.size; rw [size3] at hsz; have B0 := (Box2.of (blk3a w _ _ _)).below hb1 (by omega); have B1 := (Box2.of (blk3b w _ _ _)).below hb1 (by omega); have B2 := (Box2.of (blk3 w _ _ _)).below hb1 (by omega); obtain ⟨d0, d1, d2, d3⟩ := B1; obtain ⟨r0, r1, r2, r3⟩ := B2) | ((with_reducible refine (hC2 _ hB1).mono ?_); rintro e w2 ⟨rfl, hb2⟩; have hB2 := hB1.trans (hb2.mono hB1.size); have hsz2 := Nat.le_trans hsz hb2.size; obtain ⟨c0, c1, c2, c3⟩ := B0.below hb2 (by omega); have D1 := (Box2.mk d0 d1 d2 d3).below hb2 (by omega); have E2 := (Box2.mk r0 r1 r2 r3).below hb2 (by omega); clear d0 d1 d2 d3 r0 r1 r2 r3; obtain ⟨d0, d1, d2, d3⟩ := D1; obtain ⟨r0, r1, r2, r3⟩ := E2))
        refine bodyPost_ret_by (v := .tuple #[.agg #[.slice none 0 0, .int .i64 0], .int .i64 18]) (by rw [results_cell_tmp rfl]; go_simp) rfl ?_
        exact ⟨none, 0, rfl, RowIn.nil, (hB2.setCell (by dsimp only; omega) _).setCell (by dsimp only; omega) _, Fresh.none⟩
      · have eE : joE xs n ys m = 0 := by simp [joE, hok, hok2, t4]
        have eL : joL xs n ys m = bl (n + m) (val xs + val ys * p2 n) := by simp [joL, eE]
        have eN : joN xs n ys m = n + m := by simp [joN, eE]
        rw [eE, eL, eN, bl_length]
        have f4 : (330000 < n + m) = False := eq_false t4
        have hbl := hrb.hl
        have hszm : sz m ≤ blen := by have := sz_nat hm0; omega
        have hBeh := fun w' g hb (h1 : w'.cell? ⟨g, 0, none⟩ = some (.slice b blen bcap)) (h2 : w'.cell? ⟨g, 1, none⟩ = some (.int .i64 m)) => behind_any a len cap xs n m 50 #[.pointer (some ⟨g, 0, none⟩)] (val ys) w' (hr.same hb) hok (by omega) hv0 hval2 (by omega) ⟨(join1_gives h1 h2 (hrb.same hb)).1, fun w2 i h3 h4 => (join1_gives h1 h2 (hrb.same hb)).2 w2 i h3 (by omega)⟩
        obtain ⟨R, hR⟩ : ∃ R, bl (n + m) (val xs + val ys * p2 n) = R := ⟨_, rfl⟩
        obtain ⟨K, hK⟩ : ∃ K, sz (n + m) = K := ⟨_, rfl⟩
        rw [hR, hK]
        simp only [hR, hK] at hBeh
        clear eE eL eN hok hok2 hxl hyl hval hval2 hv0 hR hK hszm hbl
        unfold bv at hC hC2 hBeh ⊢
        go_enter Try.func30, Try.ntmps30
        go_wp2_with (first | ((with_reducible refine (hC _ (below3 _ _ _ _)).mono ?_); rintro e w1 ⟨rfl, hb1⟩; rw [size3] at hb1; have hB1 := (below3 w _ _ _).trans (hb1.mono (by omega)); have hsz := hb1.size; rw [size3] at hsz; have B0 := (Box2.of (blk3a w _ _ _)).below hb1 (by omega); have B1 := (Box2.of (blk3b w _ _ _)).below hb1 (by omega); have B2 := (Box2.of (blk3 w _ _ _)).below hb1 (by omega); obtain ⟨d0, d1, d2, d3⟩ := B1; obtain ⟨r0, r1, r2, r3⟩ := B2) | ((with_reducible refine (hC2 _ hB1).mono ?_); rintro e w2 ⟨rfl, hb2⟩; have hB2 := hB1.trans (hb2.mono hB1.size); have hsz2 := Nat.le_trans hsz hb2.size; obtain ⟨c0, c1, c2, c3⟩ := B0.below hb2 (by omega); have D1 := (Box2.mk d0 d1 d2 d3).below hb2 (by omega); have E2 := (Box2.mk r0 r1 r2 r3).below hb2 (by omega); clear d0 d1 d2 d3 r0 r1 r2 r3; obtain ⟨d0, d1, d2, d3⟩ := D1; obtain ⟨r0, r1, r2, r3⟩ := E2) | (go_at_call 33; refine (hBeh _ _ hB2 d0 d1).mono ?_; rintro e w3 ⟨a', cap', rfl, hro, hbe, hfr⟩; obtain ⟨s0, s1, s2, s3⟩ := (Box2.mk r0 r1 r2 r3).below hbe (by omega)))
        refine bodyPost_ret_by (v := .tuple #[.agg #[.slice a' K cap', .int .i64 (n + m)], .int .i64 0]) (by rw [results_cell_tmp rfl]; go_simp) rfl ?_
        have hne := hfr.ne (g := w.heap.size + 2) (by omega)
        exact ⟨_, _, rfl, (hro.set hne).set hne, ((hB2.trans (hbe.mono hB2.size)).setCell (by dsimp only; omega) _).setCell (by dsimp only; omega) _, hfr.lift hB2.size⟩
    · have e1 : chkE ys m = 8 := by simp [chkE, hok2]
      have eE : joE xs n ys m = 8 := by simp [joE, hok, hok2]
      have eL : joL xs n ys m = [] := by simp [joL, eE]
      have eN : joN xs n ys m = 0 := by simp [joN, eE]
      rw [e1] at hC2
      rw [eE, eL, eN]
      clear e1 eE eL eN hok hok2
      unfold bv at hC hC2 ⊢
      go_enter Try.func30, Try.ntmps30
      go_wp2_with (first | ((with_reducible refine (hC _ (below3 _ _ _ _)).mono ?_); rintro e w1 ⟨rfl, hb1⟩; rw [size3] at hb1; have hB1 := (below3 w _ _ _).trans (hb1.mono (by omega)); have hsz := hb1.size; rw [size3] at hsz; have B0 := (Box2.of (blk3a w _ _ _)).below hb1 (by omega); have B1 := (Box2.of (blk3b w _ _ _)).below hb1 (by omega); have B2 := (Box2.of (blk3 w _ _ _)).below hb1 (by omega); obtain ⟨d0, d1, d2, d3⟩ := B1; obtain ⟨r0, r1, r2, r3⟩ := B2) | ((with_reducible refine (hC2 _ hB1).mono ?_); rintro e w2 ⟨rfl, hb2⟩; have hB2 := hB1.trans (hb2.mono hB1.size); have hsz2 := Nat.le_trans hsz hb2.size; obtain ⟨c0, c1, c2, c3⟩ := B0.below hb2 (by omega); have D1 := (Box2.mk d0 d1 d2 d3).below hb2 (by omega); have E2 := (Box2.mk r0 r1 r2 r3).below hb2 (by omega); clear d0 d1 d2 d3 r0 r1 r2 r3; obtain ⟨d0, d1, d2, d3⟩ := D1; obtain ⟨r0, r1, r2, r3⟩ := E2))
      refine bodyPost_ret_by (v := .tuple #[.agg #[.slice none 0 0, .int .i64 0], .int .i64 8]) (by rw [results_cell_tmp rfl]; go_simp) rfl ?_
      exact ⟨none, 0, rfl, RowIn.nil, (hB2.setCell (by dsimp only; omega) _).setCell (by dsimp only; omega) _, Fresh.none⟩
  · have e1 : chkE xs n = 8 := by simp [chkE, hok]
    have eE : joE xs n ys m = 8 := by simp [joE, hok]
    have eL : joL xs n ys m = [] := by simp [joL, eE]
    have eN : joN xs n ys m = 0 := by simp [joN, eE]
    rw [e1] at hC
    rw [eE, eL, eN]
    clear e1 eE eL eN hok
    unfold bv at hC hC2 ⊢
    go_enter Try.func30, Try.ntmps30
    go_wp2_with (first | ((with_reducible refine (hC _ (below3 _ _ _ _)).mono ?_); rintro e w1 ⟨rfl, hb1⟩; rw [size3] at hb1; have hB1 := (below3 w _ _ _).trans (hb1.mono (by omega)); have hsz := hb1.size; rw [size3] at hsz; have B0 := (Box2.of (blk3a w _ _ _)).below hb1 (by omega); have B1 := (Box2.of (blk3b w _ _ _)).below hb1 (by omega); have B2 := (Box2.of (blk3 w _ _ _)).below hb1 (by omega); obtain ⟨d0, d1, d2, d3⟩ := B1; obtain ⟨r0, r1, r2, r3⟩ := B2))
    refine bodyPost_ret_by (v := .tuple #[.agg #[.slice none 0 0, .int .i64 0], .int .i64 8]) (by rw [results_cell_tmp rfl]; go_simp) rfl ?_
    exact ⟨none, 0, rfl, RowIn.nil, (hB1.setCell (by dsimp only; omega) _).setCell (by dsimp only; omega) _, Fresh.none⟩
end Go.Proofs.Ytbhoodhcipegbaa.Bt

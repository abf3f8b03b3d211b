/- The reference of layer 2: bits joined. -/
import Derived.Test.YtgeldckfpjalfaaRef02f
namespace Go.Proofs.Ytgeldckfpjalfaa.R02
open Go.RowKit Go.Proofs.Ytgeldckfpjalfaa.Kit Go.Proofs.Ytgeldckfpjalfaa.M01 Go.Proofs.Ytgeldckfpjalfaa.M02 Go.Proofs.Ytgeldckfpjalfaa.Bt
set_option linter.unusedVariables false

theorem join_step {V Y z n i : Int} (hn : 0 ≤ n) (hi : 0 ≤ i) (hz : Y / p2 i % 2 = z) : V + Y % p2 i * p2 n + z * p2 (n + i) = V + Y % p2 (i + 1) * p2 n := by
  rw [mod_p2_succ Y hi, hz, p2_add hn hi, Int.add_mul, Int.mul_assoc z, Int.mul_comm (p2 i) (p2 n)]; omega

set_option maxHeartbeats 8000000 in
theorem rjoin_any (a : Option Addr) (len cap : Nat) (xs : List Int) (n : Int) (b : Option Addr) (blen bcap : Nat) (ys : List Int) (m : Int) (w : World) (hr : RowIn .u8 w a len cap xs) (hn : isInt n) (hrb : RowIn .u8 w b blen bcap ys) (hm : isInt m) :
    Calls Try.prog 10 #[bv a len cap n, bv b blen bcap m] w fun e w' => ∃ a' cap', e = .returned (.tuple #[bv a' (joL xs n ys m).length cap' (joN xs n ys m), .int .i64 (joE xs n ys m)]) ∧ RowIn .u8 w' a' (joL xs n ys m).length cap' (joL xs n ys m) ∧ Below w.heap.size w w' := by
  have hC := fun w' hb => rcheck_any a len cap xs n w' (hr.same hb) hn
  have hC2 := fun w' hb => rcheck_any b blen bcap ys m w' (hrb.same hb) hm
  by_cases hok : okB xs n = true
  · have e1 : chkE xs n = 0 := by simp [chkE, hok]
    rw [e1] at hC
    clear e1
    by_cases hok2 : okB ys m = true
    · have e1 : chkE ys m = 0 := by simp [chkE, hok2]
      rw [e1] at hC2
      clear e1
      obtain ⟨hn0, hn1, hxl, hval⟩ := okB_iff.1 hok
      obtain ⟨hm0, hm1, hyl, hval2⟩ := okB_iff.1 hok2
      have hv0 := val_nonneg (byte_of hrb.rd)
      have hx0 := val_nonneg (byte_of hr.rd)
      by_cases t4 : 330000 < n + m
      · have eE : joE xs n ys m = 18 := by simp [joE, hok, hok2, t4]
        have eL : joL xs n ys m = [] := by simp [joL, eE]
        have eN : joN xs n ys m = 0 := by simp [joN, eE]
        rw [eE, eL, eN]
        clear eE eL eN hok hok2 hxl hyl hval hval2 hv0 hx0
        unfold bv at hC hC2 ⊢
        have f4 : (330000 < n + m) = True := eq_true t4
        go_enter Try.func10, Try.ntmps10
        go_wp2_with (first | ((with_reducible refine (hC _ (below3 _ _ _ _)).mono ?_); rintro e w1 ⟨rfl, hb1⟩; rw [size3] at hb1; have hB1 := (below3 w _ _ _).trans (hb1.mono (by omega)); have hsz := hb1.size; rw [size3] at hsz; have B0 := (Box2.of (blk3a w _ _ _)).below hb1 (by omega); have B1 := (Box2.of (blk3b w _ _ _)).below hb1 (by omega); have B2 := (Box2.of (blk3 w _ _ _)).below hb1 (by omega); obtain ⟨d0, d1, d2, d3⟩ := B1; obtain ⟨r0, r1, r2, r3⟩ := B2) | ((with_reducible refine (hC2 _ hB1).mono ?_); rintro e w2 ⟨rfl, hb2⟩; have hB2 := hB1.trans (hb2.mono hB1.size); have hsz2 := Nat.le_trans hsz hb2.size; obtain ⟨c0, c1, c2, c3⟩ := B0.below hb2 (by omega); have D1 := Box2.below (w := w1) ⟨d0, d1, d2, d3⟩ hb2 (by omega); have E2 := Box2.below (w := w1) ⟨r0, r1, r2, r3⟩ hb2 (by omega); clear d0 d1 d2 d3 r0 r1 r2 r3; obtain ⟨d0, d1, d2, d3⟩ := D1; obtain ⟨r0, r1, r2, r3⟩ := E2))
        refine bodyPost_ret_by (v := .tuple #[.agg #[.slice none 0 0, .int .i64 0], .int .i64 18]) (by rw [results_cell_tmp rfl]; go_simp) rfl ?_
        exact ⟨none, 0, rfl, RowIn.nil, (hB2.setCell (by dsimp only; omega) _).setCell (by dsimp only; omega) _⟩
      · have eE : joE xs n ys m = 0 := by simp [joE, hok, hok2, t4]
        have eL : joL xs n ys m = bl (n + m) (val xs + val ys * p2 n) := by simp [joL, eE]
        have eN : joN xs n ys m = n + m := by simp [joN, eE]
        rw [eE, eL, eN, bl_length]
        have f4 : (330000 < n + m) = False := eq_false t4
        have hll := hr.hl
        have hbl := hrb.hl
        have hT := fun w' hb => twin_any a len cap xs n w' (hr.same hb) (by omega)
        have hAt := fun i w' (hb : Below w.heap.size w w') h1 h2 => at_any b blen bcap ys m i w' (hrb.same hb) h1 h2 (by omega)
        obtain ⟨V, hV⟩ : ∃ V, val xs = V := ⟨_, rfl⟩
        obtain ⟨Y, hY⟩ : ∃ Y, val ys = Y := ⟨_, rfl⟩
        have hxe : xs = bl n V := by rw [← hV]; exact ok_eq (byte_of hr.rd) hok
        rw [hV] at hval hx0 ⊢
        rw [hY] at hval2 hv0 ⊢
        simp only [hY] at hAt
        have hwf := hr.rd.2.2
        have hwfR := wf_byte (bl_byte (n + m) (V + Y * p2 n))
        have hXE := hid hxe
        have hLen : (bl (n + m) (V + Y * p2 n)).length = sz (n + m) := bl_length _ _
        have hmb : m ≤ 8 * (blen : Int) := by omega
        clear eE eL eN hok hok2 hxl hyl hV hY hxe
        unfold bv at hC hC2 hT hAt ⊢
        go_enter Try.func10, Try.ntmps10
        go_wp2_with (first | ((with_reducible refine (hC _ (below3 _ _ _ _)).mono ?_); rintro e w1 ⟨rfl, hb1⟩; rw [size3] at hb1; have hB1 := (below3 w _ _ _).trans (hb1.mono (by omega)); have hsz := hb1.size; rw [size3] at hsz; have B0 := (Box2.of (blk3a w _ _ _)).below hb1 (by omega); have B1 := (Box2.of (blk3b w _ _ _)).below hb1 (by omega); have B2 := (Box2.of (blk3 w _ _ _)).below hb1 (by omega); obtain ⟨d0, d1, d2, d3⟩ := B1; obtain ⟨r0, r1, r2, r3⟩ := B2) | ((with_reducible refine (hC2 _ hB1).mono ?_); rintro e w2 ⟨rfl, hb2⟩; have hB2 := hB1.trans (hb2.mono hB1.size); have hsz2 := Nat.le_trans hsz hb2.size; obtain ⟨c0, c1, c2, c3⟩ := B0.below hb2 (by omega); have D1 := Box2.below (w := w1) ⟨d0, d1, d2, d3⟩ hb2 (by omega); have E2 := Box2.below (w := w1) ⟨r0, r1, r2, r3⟩ hb2 (by omega); clear d0 d1 d2 d3 r0 r1 r2 r3; obtain ⟨d0, d1, d2, d3⟩ := D1; obtain ⟨r0, r1, r2, r3⟩ := E2) |  (go_at_call 26; refine (hT _ hB2).mono ?_; rintro e w3 ⟨v, rfl, hown, hb3⟩; obtain ⟨a', cap', rfl, hrow⟩ := hown.row hwf; have hB3 := hB2.trans (hb3.mono hB2.size); have D1 := Box2.below (w := w2) ⟨d0, d1, d2, d3⟩ hb3 (by omega); have E2 := Box2.below (w := w2) ⟨r0, r1, r2, r3⟩ hb3 (by omega)))
        simp only [Nat.add_assoc, Nat.reduceAdd]
        rw [hll] at hown
        rw [hXE.out] at hown
        have hs3 : w2.heap.size ≤ w3.heap.size := hb3.size
        have hG := blk1 w3 (.cells #[.slice a' len cap', .int .i64 n] 24)
        have o4 := hown.below (below1 w3 (.cells #[.slice a' len cap', .int .i64 n] 24))
        have hB4 := hB3.trans ((below1 w3 (.cells #[.slice a' len cap', .int .i64 n] 24)).mono hB3.size)
        have D4 := D1.below (below1 w3 (.cells #[.slice a' len cap', .int .i64 n] 24)) (by omega)
        have E4 := E2.below (below1 w3 (.cells #[.slice a' len cap', .int .i64 n] 24)) (by omega)
        have hs4 := size1 w3 (.cells #[.slice a' len cap', .int .i64 n] 24)
        obtain ⟨B, eB⟩ : ∃ B, w.heap.size = B := ⟨_, rfl⟩
        obtain ⟨base, eb⟩ : ∃ base, w2.heap.size = base := ⟨_, rfl⟩
        obtain ⟨G, eG⟩ : ∃ G, w3.heap.size = G := ⟨_, rfl⟩
        rw [eB] at hsz2 D4 E4 hB4 hAt ⊢
        rw [eb] at hsz2 hs3 o4
        rw [eG] at hs3 hG hs4 ⊢
        generalize w3.alloc (.cells #[.slice a' len cap', .int .i64 n] 24) = w4 at *
        clear hb1 hB1 hsz B0 hb2 hB2 c0 c1 c2 c3 d0 d1 d2 d3 r0 r1 r2 r3 hb3 hrow hown hB3 D1 E2 hC hC2 hT hXE hwf
        go_loopw [7] (fun s wr => ∃ i : Int, 0 ≤ i ∧ i ≤ m ∧ s = .int .i64 i ∧ ∃ a' len' cap', wr.heap[G]? = some (.cells #[.slice a' len' cap', .int .i64 (n + i)] 24) ∧ Box2 wr (B + 1) (.slice b blen bcap) (.int .i64 m) ∧ Box2 wr (B + 2) (.slice none 0 0) (.int .i64 0) ∧
          OwnI .u8 wr base 5 (.slice a' len' cap') (bl (n + i) (V + Y % p2 i * p2 n)) ∧ Below B w wr ∧ G < wr.heap.size) (fun s _ => (m - intOf s).toNat)
        case atStart => exact ⟨0, Int.le_refl _, hm0, rfl, a', len, cap', by rw [Int.add_zero]; exact hG, D4, E4, by rw [Int.add_zero, p2_zero, Int.emod_one, Int.zero_mul, Int.add_zero]; exact o4, hB4, by omega⟩
        case round =>
          clear hG D4 E4 o4 hB4 hs4
          obtain ⟨i, hi0, him, rfl, a', len', cap', hG, ⟨d0, d1, d2, d3⟩, E4, howN, hbr, hsr⟩ := hrel
          by_cases hlt : i < m
          · obtain ⟨z, hz⟩ : ∃ z, Y / p2 i % 2 = z := ⟨_, rfl⟩
            have hcall := fun w' hb => hAt i w' hb (by omega) (by omega)
            simp only [hz] at hcall
            have hnew := join_step (V := V) hn0 hi0 hz
            have hmod0 := Int.emod_nonneg Y (show p2 i ≠ 0 by have := p2_pos i; omega)
            have hmod1 := Int.emod_lt_of_pos Y (show 0 < p2 i by have := p2_pos i; omega)
            have hlt2 := join_lt hn0 hi0 hval hmod1
            have hge2 : 0 ≤ V + Y % p2 i * p2 n := by have := Int.mul_nonneg hmod0 (show 0 ≤ p2 n by have := p2_pos n; omega); omega
            obtain ⟨W, hW⟩ : ∃ W, V + Y % p2 i * p2 n = W := ⟨_, rfl⟩
            rw [hW] at howN hnew hlt2 hge2
            have hAdd := fun w' (ho : OwnI .u8 w' base 5 (.slice a' len' cap') (bl (n + i) W)) hbs => add_any a' len' cap' base (n + i) W z w' ho hbs (by omega) (by omega) hge2 hlt2 (by omega)
            unfold bv at hAdd
            rw [hnew, show n + i + 1 = n + (i + 1) by omega] at hAdd
            obtain ⟨g0, g1, g2, g3⟩ := Box2.of hG
            clear hnew hW hz hlt2 hge2 hmod0 hmod1 hAt hwfR
            go_wp2
            go_region_with
              (first | (go_at_call 28; refine (hcall _ hbr.drew).mono ?_; rintro e w5 ⟨rfl, hb5⟩; have hs5 : base ≤ w5.heap.size := Nat.le_trans (show base ≤ wr.heap.size by omega) (show wr.heap.size ≤ w5.heap.size from hb5.size); have HO := (howN.below (Below.refl _ _).drew).below hb5; have hG5 := KeepT.of_below (T := 5) (w := wr.drew) hb5 G _ _ hG (by decide); obtain ⟨x0, x1, x2, x3⟩ := Box2.of hG5)  | (go_at_call 27; refine (hAdd _ HO hs5).mono ?_; rintro e w6 ⟨a2, len2, cap2, rfl, HO2, hb6, hk6⟩; have hG6 := hk6 G _ _ hG5 (by decide); obtain ⟨y0, y1, y2, y3⟩ := Box2.of hG6))
            all_goals
              go_wp2
              go_roundw
              case rel =>
                have hs6 := Nat.le_trans hs5 hb6.size
                have hs7 : G < w6.heap.size := (Array.getElem?_eq_some_iff.1 hG6).1
                have X1 := (Box2.below (w := wr.drew) ⟨d0, d1, d2, d3⟩ hb5 (show B + 1 < wr.heap.size by omega)).below hb6 (by omega)
                have X2 := (Box2.below (w := wr.drew) ⟨E4.c0, E4.c1, E4.f0, E4.f1⟩ hb5 (show B + 2 < wr.heap.size by omega)).below hb6 (by omega)
                have q1 := heap_setCell_same w6 G 0 _ _ (.slice a2 len2 cap2) hG6
                have q2 := heap_setCell_same _ G 1 _ _ (.int .i64 (n + (i + 1))) q1
                have hne : (Value.slice a2 len2 cap2).ownBlock ≠ some G := by
                  rcases HO2.2 with ⟨h, _⟩ | ⟨g, c, cur, h, _⟩
                  · cases h; simp [Value.ownBlock]
                  · rw [h] at HO2
                    have := HO2.apart hG6 (by decide)
                    rw [h]; simp [Value.ownBlock]; omega
                exact ⟨i + 1, by omega, by omega, by go_num, a2, len2, cap2, q2, (X1.set (by omega)).set (by omega), (X2.set (by omega)).set (by omega),
                  (HO2.other hne).other hne, (((hbr.drew.trans (hb5.mono (show B ≤ wr.heap.size by omega))).trans (hb6.mono (by omega))).setCell (by dsimp only; omega) _).setCell (by dsimp only; omega) _, by simp only [World.size_setCell]; omega⟩
              case measure => simp [intOf]; omega
          · obtain rfl : i = m := by omega
            obtain ⟨g0, g1, g2, g3⟩ := Box2.of hG
            obtain ⟨r0, r1, r2, r3⟩ := E4
            have hYm : Y % p2 i = Y := Int.emod_eq_of_lt hv0 hval2
            rw [hYm] at howN
            clear hAt
            go_wp2
            refine bodyPost_ret_by (v := .tuple #[.agg #[.slice a' len' cap', .int .i64 (n + i)], .int .i64 0]) (by rw [results_cell_tmp rfl]; go_simp) rfl ?_
            have o2 := (howN.other (g := B + 2) (i := 0) (u := .slice a' len' cap') (howN.far (by omega))).other (g := B + 2) (i := 1) (u := .int .i64 (n + i)) (howN.far (by omega))
            have hro := o2.rowLit hwfR
            have hle := hro.hl
            rw [hLen] at hle
            rw [hle]
            exact ⟨_, _, rfl, hro, (hbr.setCell (by dsimp only; omega) _).setCell (by dsimp only; omega) _⟩
    · have e1 : chkE ys m = 8 := by simp [chkE, hok2]
      have eE : joE xs n ys m = 8 := by simp [joE, hok, hok2]
      have eL : joL xs n ys m = [] := by simp [joL, eE]
      have eN : joN xs n ys m = 0 := by simp [joN, eE]
      rw [e1] at hC2
      rw [eE, eL, eN]
      clear e1 eE eL eN hok hok2
      unfold bv at hC hC2 ⊢
      go_enter Try.func10, Try.ntmps10
      go_wp2_with (first | ((with_reducible refine (hC _ (below3 _ _ _ _)).mono ?_); rintro e w1 ⟨rfl, hb1⟩; rw [size3] at hb1; have hB1 := (below3 w _ _ _).trans (hb1.mono (by omega)); have hsz := hb1.size; rw [size3] at hsz; have B0 := (Box2.of (blk3a w _ _ _)).below hb1 (by omega); have B1 := (Box2.of (blk3b w _ _ _)).below hb1 (by omega); have B2 := (Box2.of (blk3 w _ _ _)).below hb1 (by omega); obtain ⟨d0, d1, d2, d3⟩ := B1; obtain ⟨r0, r1, r2, r3⟩ := B2) | ((with_reducible refine (hC2 _ hB1).mono ?_); rintro e w2 ⟨rfl, hb2⟩; have hB2 := hB1.trans (hb2.mono hB1.size); have hsz2 := Nat.le_trans hsz hb2.size; obtain ⟨c0, c1, c2, c3⟩ := B0.below hb2 (by omega); have D1 := Box2.below (w := w1) ⟨d0, d1, d2, d3⟩ hb2 (by omega); have E2 := Box2.below (w := w1) ⟨r0, r1, r2, r3⟩ hb2 (by omega); clear d0 d1 d2 d3 r0 r1 r2 r3; obtain ⟨d0, d1, d2, d3⟩ := D1; obtain ⟨r0, r1, r2, r3⟩ := E2))
      refine bodyPost_ret_by (v := .tuple #[.agg #[.slice none 0 0, .int .i64 0], .int .i64 8]) (by rw [results_cell_tmp rfl]; go_simp) rfl ?_
      exact ⟨none, 0, rfl, RowIn.nil, (hB2.setCell (by dsimp only; omega) _).setCell (by dsimp only; omega) _⟩
  · have e1 : chkE xs n = 8 := by simp [chkE, hok]
    have eE : joE xs n ys m = 8 := by simp [joE, hok]
    have eL : joL xs n ys m = [] := by simp [joL, eE]
    have eN : joN xs n ys m = 0 := by simp [joN, eE]
    rw [e1] at hC
    rw [eE, eL, eN]
    clear e1 eE eL eN hok
    unfold bv at hC hC2 ⊢
    go_enter Try.func10, Try.ntmps10
    go_wp2_with (first | ((with_reducible refine (hC _ (below3 _ _ _ _)).mono ?_); rintro e w1 ⟨rfl, hb1⟩; rw [size3] at hb1; have hB1 := (below3 w _ _ _).trans (hb1.mono (by omega)); have hsz := hb1.size; rw [size3] at hsz; have B0 := (Box2.of (blk3a w _ _ _)).below hb1 (by omega); have B1 := (Box2.of (blk3b w _ _ _)).below hb1 (by omega); have B2 := (Box2.of (blk3 w _ _ _)).below hb1 (by omega); obtain ⟨d0, d1, d2, d3⟩ := B1; obtain ⟨r0, r1, r2, r3⟩ := B2))
    refine bodyPost_ret_by (v := .tuple #[.agg #[.slice none 0 0, .int .i64 0], .int .i64 8]) (by rw [results_cell_tmp rfl]; go_simp) rfl ?_
    exact ⟨none, 0, rfl, RowIn.nil, (hB1.setCell (by dsimp only; omega) _).setCell (by dsimp only; omega) _⟩
end Go.Proofs.Ytgeldckfpjalfaa.R02

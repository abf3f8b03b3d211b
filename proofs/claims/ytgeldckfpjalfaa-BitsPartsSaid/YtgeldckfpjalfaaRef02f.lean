/- The reference of layer 2: bytes as bits, filled up bits. -/
import Derived.Test.YtgeldckfpjalfaaRef02e
namespace Go.Proofs.Ytgeldckfpjalfaa.R02
open Go.RowKit Go.Proofs.Ytgeldckfpjalfaa.Kit Go.Proofs.Ytgeldckfpjalfaa.M01 Go.Proofs.Ytgeldckfpjalfaa.M02 Go.Proofs.Ytgeldckfpjalfaa.Bt
set_option linter.unusedVariables false

set_option maxHeartbeats 4000000 in
theorem rof_any (a : Option Addr) (len cap : Nat) (xs : List Int) (w : World) (hr : RowIn .u8 w a len cap xs) :
    Calls Try.prog 14 #[.slice a len cap] w fun e w' => ∃ a' cap', e = .returned (.tuple #[bv a' (ofL xs).length cap' (ofN xs), .int .i64 (ofE xs)]) ∧ RowIn .u8 w' a' (ofL xs).length cap' (ofL xs) ∧ Below w.heap.size w w' := by
  have hl := hr.hl
  have hrr := hr.rd.len
  unfold ofL ofN ofE bv
  by_cases h : xs.length ≤ 41250
  · rw [if_pos h, if_pos h, if_pos h, hl]
    rw [hl] at h
    have hlt : (41250 < (len : Int)) = False := eq_false (by omega)
    obtain ⟨i0, hi, hz0, hz1, hz2⟩ := info_parts info_u8
    have hb0 := blk1 w (.cells #[.slice none 0 0, .int .i64 0] 24)
    have hbe := below1 w (.cells #[.slice none 0 0, .int .i64 0] 24)
    have hsz := size1 w (.cells #[.slice none 0 0, .int .i64 0] 24)
    have hlit : OwnI .u8 ((w.alloc (.cells #[.slice none 0 0, .int .i64 0] 24)).alloc (.cells #[] 5)) (w.heap.size + 1) 5 (.slice (some ⟨w.heap.size + 1, 0, none⟩) 0 0) [] := by
      have h := OwnI.lit (k := .u8) (w.alloc (.cells #[.slice none 0 0, .int .i64 0] 24)) (w.heap.size + 1) 5 [] (by simp) (by simp)
      rw [hsz] at h
      exact h
    have hR := (hr.rd.alloc (.cells #[.slice none 0 0, .int .i64 0] 24)).alloc (.cells #[] 5)
    have hwf := hr.rd.2.2
    go_enter Try.func14, Try.ntmps14
    go_wp2_with (at_builtin; refine appN rfl _ _ 22 rfl (w.heap.size + 1) 5 i0 (.int .u8 0) 1 Try.underlying22 hi hz0 hz1 hz2 rfl .u8 _ _ hlit a len cap xs hR hl rfl rfl (by simp) (by simp; omega) (by simp; omega) ?_; intro v' w2 hown hgr hbw; rw [List.nil_append] at hown; obtain ⟨a', cap', rfl, hrow⟩ := hown.row hwf; rw [hl] at hown hrow;  obtain ⟨r0, r1, r2, r3⟩ := ((Box2.of hb0).below ((below1 _ (.cells #[] 5))) (by simp)).below hbw (by omega))
    refine bodyPost_ret_by (v := .tuple #[.agg #[.slice a' len cap', .int .i64 (8 * len)], .int .i64 0]) (by rw [results_cell_tmp rfl]; go_simp) rfl ?_
    have o2 := (hown.other (g := w.heap.size) (i := 0) (u := .slice a' len cap') (hown.far (by omega))).other (g := w.heap.size) (i := 1) (u := .int .i64 (8 * len)) (hown.far (by omega))
    have hro := o2.rowLit hwf
    have hB2 : Below w.heap.size w w2 := hbe.trans (((below1 _ (.cells #[] 5)).mono (by simp)).trans (hbw.mono (by omega)))
    exact ⟨_, _, rfl, hro, (hB2.setCell (by dsimp only; omega) _).setCell (by dsimp only; omega) _⟩
  · rw [if_neg h, if_neg h, if_neg h]
    rw [hl] at h hrr
    have hlt : (41250 < (len : Int)) = True := eq_true (by omega)
    go_enter Try.func14, Try.ntmps14
    go_wp2
    refine bodyPost_ret_by (v := .tuple #[.agg #[.slice none 0 0, .int .i64 0], .int .i64 4]) (by rw [results_cell_tmp rfl]; go_simp) rfl ?_
    exact ⟨none, 0, rfl, RowIn.nil, below1 _ _⟩

set_option maxHeartbeats 4000000 in
theorem filled_any (a : Option Addr) (len cap : Nat) (xs : List Int) (n : Int) (w : World) (hr : RowIn .u8 w a len cap xs) (hl : len ≤ 100000) :
    Calls Try.prog 34 #[bv a len cap n] w fun e w' => ∃ a' cap', e = .returned (bv a' len cap' (8 * len)) ∧ OwnI .u8 w' w.heap.size 5 (.slice a' len cap') xs ∧ Below w.heap.size w w' := by
  have hwf := hr.rd.2.2
  have hll := hr.hl
  have hT := fun w' hb => twin_any a len cap xs n w' (hr.same hb) hl
  have hb0 := blk2a w (.cells #[.slice a len cap, .int .i64 n] 24) (.cells #[.slice none 0 0, .int .i64 0] 24)
  have hb1 := blk2 w (.cells #[.slice a len cap, .int .i64 n] 24) (.cells #[.slice none 0 0, .int .i64 0] 24)
  have hbe0 := below2 w (.cells #[.slice a len cap, .int .i64 n] 24) (.cells #[.slice none 0 0, .int .i64 0] 24)
  have hsz := size2 w (.cells #[.slice a len cap, .int .i64 n] 24) (.cells #[.slice none 0 0, .int .i64 0] 24)
  unfold bv at hT ⊢
  go_enter Try.func34, Try.ntmps34
  go_wp2_with (go_at_call 26; refine (hT _ hbe0).mono ?_; rintro e w1 ⟨v, rfl, hown, hb2⟩; obtain ⟨a', cap', rfl, hrow⟩ := hown.row hwf; rw [hll] at hown hrow; rw [hsz] at hb2 hown; obtain ⟨c0, c1, c2, c3⟩ := (Box2.of hb0).below hb2 (by omega); obtain ⟨r0, r1, r2, r3⟩ := (Box2.of hb1).below hb2 (by omega); have hs1 := hb2.size; rw [hsz] at hs1; have hs0 : w.heap.size < w1.heap.size := (by omega); have hs3 : w.heap.size + 1 < w1.heap.size := (by omega))
  refine bodyPost_ret_by (v := .agg #[.slice a' len cap', .int .i64 (8 * len)]) (by rw [results_cell1 rfl]; go_simp) rfl ?_
  have o2 := (hown.other (g := w.heap.size + 1) (i := 0) (u := .slice a' len cap') (hown.far (by omega))).other (g := w.heap.size + 1) (i := 1) (u := .int .i64 (8 * len)) (hown.far (by omega))
  have o3 := o2.below (below1 _ (.cells #[.slice a' len cap', .int .i64 (8 * len)] 24))
  have hB2 : Below w.heap.size w w1 := hbe0.trans (hb2.mono (by omega))
  exact ⟨_, _, rfl, o3.mono (by omega), ((hB2.setCell (by dsimp only; omega) _).setCell (by dsimp only; omega) _).alloc (by simp only [World.size_setCell]; omega) _⟩

set_option maxHeartbeats 4000000 in
theorem ralign_any (a : Option Addr) (len cap : Nat) (xs : List Int) (n : Int) (w : World) (hr : RowIn .u8 w a len cap xs) (hn : isInt n) :
    Calls Try.prog 16 #[bv a len cap n] w fun e w' => ∃ a' cap', e = .returned (.tuple #[bv a' (alL xs n).length cap' (alN xs n), .int .i64 (chkE xs n)]) ∧ RowIn .u8 w' a' (alL xs n).length cap' (alL xs n) ∧ Below w.heap.size w w' := by
  have hC := fun w' hb => rcheck_any a len cap xs n w' (hr.same hb) hn
  have hl := hr.hl
  by_cases hok : okB xs n = true
  · have e1 : chkE xs n = 0 := by simp [chkE, hok]
    have e2 : alL xs n = xs := by simp [alL, e1]
    have e3 : alN xs n = 8 * xs.length := by simp [alN, e1]
    have hlen := ok_len hok
    rw [e1] at hC
    rw [e1, e2, e3, hl]
    rw [hl] at hlen
    have hF := fun w' hb => filled_any a len cap xs n w' (hr.same hb) (by omega)
    have hwf := hr.rd.2.2
    unfold bv at hC hF ⊢
    clear e1 e2 e3 hok hn
    go_enter Try.func16, Try.ntmps16
    go_wp2_with (first | (go_at_call 18; refine (hC _ (below2 _ _ _)).mono ?_; rintro e w1 ⟨rfl, hb1⟩; rw [size2] at hb1; have hB1 := (below2 w _ _).trans (hb1.mono (by omega)); have hsz := hb1.size; rw [size2] at hsz; have hs0 : w.heap.size < w1.heap.size := (by omega); obtain ⟨c0, c1, c2, c3⟩ := (Box2.of (blk2a w _ _)).below hb1 (by omega); obtain ⟨r0, r1, r2, r3⟩ := (Box2.of (blk2 w _ _)).below hb1 (by omega)) |  (go_at_call 34; refine (hF _ hB1).mono ?_; rintro e w2 ⟨a', cap', rfl, hown, hb2⟩; obtain ⟨s0, s1, s2, s3⟩ := Box2.below (w := w1) ⟨r0, r1, r2, r3⟩ hb2 (by omega)))
    refine bodyPost_ret_by (v := .tuple #[.agg #[.slice a' len cap', .int .i64 (8 * len)], .int .i64 0]) (by rw [results_cell_tmp rfl]; go_simp) rfl ?_
    have o2 := (hown.other (g := w.heap.size + 1) (i := 0) (u := .slice a' len cap') (hown.far (by omega))).other (g := w.heap.size + 1) (i := 1) (u := .int .i64 (8 * len)) (hown.far (by omega))
    exact ⟨_, _, rfl, o2.rowLit hwf, ((hB1.trans (hb2.mono hB1.size)).setCell (by dsimp only; omega) _).setCell (by dsimp only; omega) _⟩
  · have e1 : chkE xs n = 8 := by simp [chkE, hok]
    have e2 : alL xs n = [] := by simp [alL, e1]
    have e3 : alN xs n = 0 := by simp [alN, e1]
    rw [e1] at hC
    rw [e1, e2, e3]
    unfold bv at hC ⊢
    clear e1 e2 e3 hok hn
    go_enter Try.func16, Try.ntmps16
    go_wp2_with (go_at_call 18; refine (hC _ (below2 _ _ _)).mono ?_; rintro e w1 ⟨rfl, hb1⟩; rw [size2] at hb1; have hB1 := (below2 w _ _).trans (hb1.mono (by omega)); have hsz := hb1.size; rw [size2] at hsz; have hs0 : w.heap.size < w1.heap.size := (by omega); obtain ⟨c0, c1, c2, c3⟩ := (Box2.of (blk2a w _ _)).below hb1 (by omega); obtain ⟨r0, r1, r2, r3⟩ := (Box2.of (blk2 w _ _)).below hb1 (by omega))
    refine bodyPost_ret_by (v := .tuple #[.agg #[.slice none 0 0, .int .i64 0], .int .i64 8]) (by rw [results_cell_tmp rfl]; go_simp) rfl ?_
    exact ⟨none, 0, rfl, RowIn.nil, (hB1.setCell (by dsimp only; omega) _).setCell (by dsimp only; omega) _⟩
end Go.Proofs.Ytgeldckfpjalfaa.R02

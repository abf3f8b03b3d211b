/- The reference of layer 2: comparing, cutting, filling up. -/
import Derived.Test.YtgeldckfpjalfaaRef02d
namespace Go.Proofs.Ytgeldckfpjalfaa.R02
open Go.RowKit Go.Proofs.Ytgeldckfpjalfaa.Kit Go.Proofs.Ytgeldckfpjalfaa.M01 Go.Proofs.Ytgeldckfpjalfaa.M02 Go.Proofs.Ytgeldckfpjalfaa.Bt
set_option linter.unusedVariables false

def sameB (xs : List Int) (n : Int) (ys : List Int) (m : Int) : Bool := decide (n = m ∧ xs = ys)

set_option maxHeartbeats 4000000 in
theorem same_any (a : Option Addr) (len cap : Nat) (xs : List Int) (n : Int) (b : Option Addr) (blen bcap : Nat) (ys : List Int) (m : Int) (w : World) (hr : RowIn .u8 w a len cap xs) (hrb : RowIn .u8 w b blen bcap ys) :
    Calls Try.prog 17 #[bv a len cap n, bv b blen bcap m] w fun e w' => e = .returned (.bool (sameB xs n ys m)) ∧ Below w.heap.size w w' := by
  have hs1 := (((hr.rd.alloc (.cells #[.slice a len cap, .int .i64 n] 24)).alloc (.cells #[.slice b blen bcap, .int .i64 m] 24)).strD len cap hr.hl Try.underlying22 Try.underlying5 Try.underlying9).1
  have hs2 := (((hrb.rd.alloc (.cells #[.slice a len cap, .int .i64 n] 24)).alloc (.cells #[.slice b blen bcap, .int .i64 m] 24)).strD blen bcap hrb.hl Try.underlying22 Try.underlying5 Try.underlying9).1
  have hbeq := beq_bstr hr.rd.2.2 hrb.rd.2.2
  by_cases h : n = m
  · subst h
    have e : sameB xs n ys n = decide (xs = ys) := by simp [sameB]
    rw [e]
    unfold bv
    go_enter Try.func17, Try.ntmps17
    go_wp2
    go_ret
    exact ⟨rfl, below2 _ _ _⟩
  · have e : sameB xs n ys m = false := by simp [sameB, h]
    rw [e]
    have f1 : (n = m) = False := eq_false h
    unfold bv
    go_enter Try.func17, Try.ntmps17
    go_wp2
    go_ret
    exact ⟨rfl, below2 _ _ _⟩

set_option maxHeartbeats 4000000 in
theorem rcut_any (a : Option Addr) (len cap : Nat) (xs : List Int) (n f t : Int) (w : World) (hr : RowIn .u8 w a len cap xs) (hn : isInt n) (hf : isInt f) (ht : isInt t) :
    Calls Try.prog 12 #[bv a len cap n, .int .i64 f, .int .i64 t] w fun e w' => ∃ a' cap', e = .returned (.tuple #[bv a' (cuL xs n f t).length cap' (cuN xs n f t), .int .i64 (cuE xs n f t)]) ∧ RowIn .u8 w' a' (cuL xs n f t).length cap' (cuL xs n f t) ∧ Below w.heap.size w w' := by
  have hC := fun w' hb => rcheck_any a len cap xs n w' (hr.same hb) hn
  obtain ⟨hf1, hf2⟩ := hf
  obtain ⟨ht1, ht2⟩ := ht
  by_cases hok : okB xs n = true
  · have e1 : chkE xs n = 0 := by simp [chkE, hok]
    obtain ⟨hn0, hn1, hxl, hval⟩ := okB_iff.1 hok
    rw [e1] at hC
    clear e1
    by_cases t1 : f < 0
    · have f1 : (f < 0) = True := eq_true t1
      have eE : cuE xs n f t = 2 := by simp [cuE, hok, t1]
      have eL : cuL xs n f t = [] := by simp [cuL, eE]
      have eN : cuN xs n f t = 0 := by simp [cuN, eE]
      rw [eE, eL, eN]
      clear eE eL eN
      unfold bv at hC ⊢
      go_enter Try.func12, Try.ntmps12
      go_wp2_with (go_at_call 18; refine (hC _ (below2 _ _ _)).mono ?_; rintro e w1 ⟨rfl, hb1⟩; rw [size2] at hb1; have hB1 := (below2 w _ _).trans (hb1.mono (by omega)); have hsz := hb1.size; rw [size2] at hsz; have hs0 : w.heap.size < w1.heap.size := (by omega); obtain ⟨c0, c1, c2, c3⟩ := (Box2.of (blk2a w _ _)).below hb1 (by omega); obtain ⟨r0, r1, r2, r3⟩ := (Box2.of (blk2 w _ _)).below hb1 (by omega))
      refine bodyPost_ret_by (v := .tuple #[.agg #[.slice none 0 0, .int .i64 0], .int .i64 2]) (by rw [results_cell_tmp rfl]; go_simp) rfl ?_
      exact ⟨none, 0, rfl, RowIn.nil, (hB1.setCell (by dsimp only; omega) _).setCell (by dsimp only; omega) _⟩
    by_cases t2 : n < t
    · have f1 : (f < 0) = False := eq_false t1
      have f2 : (n < t) = True := eq_true t2
      have eE : cuE xs n f t = 2 := by simp [cuE, hok, t2]
      have eL : cuL xs n f t = [] := by simp [cuL, eE]
      have eN : cuN xs n f t = 0 := by simp [cuN, eE]
      rw [eE, eL, eN]
      clear eE eL eN
      unfold bv at hC ⊢
      go_enter Try.func12, Try.ntmps12
      go_wp2_with (go_at_call 18; refine (hC _ (below2 _ _ _)).mono ?_; rintro e w1 ⟨rfl, hb1⟩; rw [size2] at hb1; have hB1 := (below2 w _ _).trans (hb1.mono (by omega)); have hsz := hb1.size; rw [size2] at hsz; have hs0 : w.heap.size < w1.heap.size := (by omega); obtain ⟨c0, c1, c2, c3⟩ := (Box2.of (blk2a w _ _)).below hb1 (by omega); obtain ⟨r0, r1, r2, r3⟩ := (Box2.of (blk2 w _ _)).below hb1 (by omega))
      refine bodyPost_ret_by (v := .tuple #[.agg #[.slice none 0 0, .int .i64 0], .int .i64 2]) (by rw [results_cell_tmp rfl]; go_simp) rfl ?_
      exact ⟨none, 0, rfl, RowIn.nil, (hB1.setCell (by dsimp only; omega) _).setCell (by dsimp only; omega) _⟩
    by_cases t3 : t < f
    · have f1 : (f < 0) = False := eq_false t1
      have f2 : (n < t) = False := eq_false t2
      have f3 : (t < f) = True := eq_true t3
      have eE : cuE xs n f t = 2 := by simp [cuE, hok, t3]
      have eL : cuL xs n f t = [] := by simp [cuL, eE]
      have eN : cuN xs n f t = 0 := by simp [cuN, eE]
      rw [eE, eL, eN]
      clear eE eL eN
      unfold bv at hC ⊢
      go_enter Try.func12, Try.ntmps12
      go_wp2_with (go_at_call 18; refine (hC _ (below2 _ _ _)).mono ?_; rintro e w1 ⟨rfl, hb1⟩; rw [size2] at hb1; have hB1 := (below2 w _ _).trans (hb1.mono (by omega)); have hsz := hb1.size; rw [size2] at hsz; have hs0 : w.heap.size < w1.heap.size := (by omega); obtain ⟨c0, c1, c2, c3⟩ := (Box2.of (blk2a w _ _)).below hb1 (by omega); obtain ⟨r0, r1, r2, r3⟩ := (Box2.of (blk2 w _ _)).below hb1 (by omega))
      refine bodyPost_ret_by (v := .tuple #[.agg #[.slice none 0 0, .int .i64 0], .int .i64 2]) (by rw [results_cell_tmp rfl]; go_simp) rfl ?_
      exact ⟨none, 0, rfl, RowIn.nil, (hB1.setCell (by dsimp only; omega) _).setCell (by dsimp only; omega) _⟩
    have f1 : (f < 0) = False := eq_false t1
    have f2 : (n < t) = False := eq_false t2
    have f3 : (t < f) = False := eq_false t3
    have eE : cuE xs n f t = 0 := by simp [cuE, hok, t1, t2, t3]
    have eL : cuL xs n f t = bl (t - f) (val xs / p2 f % p2 (t - f)) := by simp [cuL, eE]
    have eN : cuN xs n f t = t - f := by simp [cuN, eE]
    rw [eE, eL, eN]
    have hBt := fun w' hb => between_any a len cap xs n f t w' (hr.same hb) hok (by omega) (by omega) (by omega)
    have hwf := wf_byte (bl_byte (t - f) (val xs / p2 f % p2 (t - f)))
    obtain ⟨R, hR⟩ : ∃ R, bl (t - f) (val xs / p2 f % p2 (t - f)) = R := ⟨_, rfl⟩
    rw [hR] at hwf ⊢
    simp only [hR] at hBt
    clear eE eL eN hok hxl hval hR
    unfold bv at hC hBt ⊢
    go_enter Try.func12, Try.ntmps12
    go_wp2_with (first | (go_at_call 18; refine (hC _ (below2 _ _ _)).mono ?_; rintro e w1 ⟨rfl, hb1⟩; rw [size2] at hb1; have hB1 := (below2 w _ _).trans (hb1.mono (by omega)); have hsz := hb1.size; rw [size2] at hsz; have hs0 : w.heap.size < w1.heap.size := (by omega); obtain ⟨c0, c1, c2, c3⟩ := (Box2.of (blk2a w _ _)).below hb1 (by omega); obtain ⟨r0, r1, r2, r3⟩ := (Box2.of (blk2 w _ _)).below hb1 (by omega)) |  (go_at_call 32; refine (hBt _ hB1).mono ?_; rintro e w2 ⟨a', len', cap', rfl, hown, hb2⟩; obtain ⟨s0, s1, s2, s3⟩ := Box2.below (w := w1) ⟨r0, r1, r2, r3⟩ hb2 (by omega)))
    refine bodyPost_ret_by (v := .tuple #[.agg #[.slice a' len' cap', .int .i64 (t - f)], .int .i64 0]) (by rw [results_cell_tmp rfl]; go_simp) rfl ?_
    have o2 := (hown.other (g := w.heap.size + 1) (i := 0) (u := .slice a' len' cap') (hown.far (by omega))).other (g := w.heap.size + 1) (i := 1) (u := .int .i64 (t - f)) (hown.far (by omega))
    have hro := o2.rowLit hwf
    have hle := hro.hl
    rw [hle]
    exact ⟨_, _, rfl, hro, ((hB1.trans (hb2.mono hB1.size)).setCell (by dsimp only; omega) _).setCell (by dsimp only; omega) _⟩
  · have e1 : chkE xs n = 8 := by simp [chkE, hok]
    rw [e1] at hC
    clear e1
    have eE : cuE xs n f t = 8 := by simp [cuE, hok]
    have eL : cuL xs n f t = [] := by simp [cuL, eE]
    have eN : cuN xs n f t = 0 := by simp [cuN, eE]
    rw [eE, eL, eN]
    clear eE eL eN
    unfold bv at hC ⊢
    go_enter Try.func12, Try.ntmps12
    go_wp2_with (go_at_call 18; refine (hC _ (below2 _ _ _)).mono ?_; rintro e w1 ⟨rfl, hb1⟩; rw [size2] at hb1; have hB1 := (below2 w _ _).trans (hb1.mono (by omega)); have hsz := hb1.size; rw [size2] at hsz; have hs0 : w.heap.size < w1.heap.size := (by omega); obtain ⟨c0, c1, c2, c3⟩ := (Box2.of (blk2a w _ _)).below hb1 (by omega); obtain ⟨r0, r1, r2, r3⟩ := (Box2.of (blk2 w _ _)).below hb1 (by omega))
    refine bodyPost_ret_by (v := .tuple #[.agg #[.slice none 0 0, .int .i64 0], .int .i64 8]) (by rw [results_cell_tmp rfl]; go_simp) rfl ?_
    exact ⟨none, 0, rfl, RowIn.nil, (hB1.setCell (by dsimp only; omega) _).setCell (by dsimp only; omega) _⟩
end Go.Proofs.Ytgeldckfpjalfaa.R02

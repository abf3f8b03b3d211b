/- What package bits fills up, puts, and joins. -/
import Derived.Test.YtgeldckfpjalfaaBits4
namespace Go.Proofs.Ytgeldckfpjalfaa.Bt
open Go.RowKit Go.Proofs.Ytgeldckfpjalfaa.Kit Go.Proofs.Ytgeldckfpjalfaa.M01 Go.Proofs.Ytgeldckfpjalfaa.M02
set_option linter.unusedVariables false

/-- An int. -/
def isInt (n : Int) : Prop := -9223372036854775808 ≤ n ∧ n ≤ 9223372036854775807

theorem ok_len {xs : List Int} {n : Int} (h : okB xs n = true) : xs.length ≤ 41250 := by
  have := okB_iff.1 h; omega

set_option maxHeartbeats 4000000 in
theorem align_any (a : Option Addr) (len cap : Nat) (xs : List Int) (n : Int) (w : World) (hr : RowIn .u8 w a len cap xs) (hn : isInt n) :
    Calls Try.prog 15 #[bv a len cap n] w fun e w' => ∃ a' cap', e = .returned (.tuple #[bv a' (alL xs n).length cap' (alN xs n), .int .i64 (chkE xs n)]) ∧ RowIn .u8 w' a' (alL xs n).length cap' (alL xs n) ∧ Below w.heap.size w w' ∧ Fresh w a' := by
  have hl := hr.hl
  have hC := fun w' hb => check_any a len cap xs n w' (hr.same hb) hn.1 hn.2
  by_cases hok : okB xs n = true
  · have e1 : chkE xs n = 0 := by simp [chkE, hok]
    have e2 : alL xs n = xs := by simp [alL, e1]
    have e3 : alN xs n = 8 * xs.length := by simp [alN, e1]
    have hlen := ok_len hok
    rw [e1] at hC
    rw [e1, e2, e3, hl]
    rw [hl] at hlen
    have hW := fun w' hb => whole_any a len cap xs w' (hr.same hb) hlen
    unfold bv at hC hW ⊢
    clear e1 e2 e3 hok hn
    go_enter Try.func15, Try.ntmps15
    go_wp2_with (first  | (go_at_call 23; refine (hC _ (below2 _ _ _)).mono ?_; rintro e w' ⟨rfl, hb1⟩; have hB1 := (below2 w _ _).trans (hb1.mono (by (try simp only [World.size_alloc]) <;> omega)); have B0 := (Box2.of (blk2a w _ _)).below hb1 (by (try simp only [World.size_alloc]) <;> omega); have B1 := (Box2.of (blk2 w _ _)).below hb1 (by (try simp only [World.size_alloc]) <;> omega); obtain ⟨c0, c1, c2, c3⟩ := B0)  | (go_at_call 33; refine (hW _ hB1).mono ?_; rintro e w'' ⟨a', cap', rfl, hro, hbe, hfr⟩; obtain ⟨r0, r1, r2, r3⟩ := B1.below hbe (by have := hb1.size; (try simp only [World.size_alloc] at this) <;> omega)))
    refine bodyPost_ret_by (v := .tuple #[.agg #[.slice a' len cap', .int .i64 (8 * len)], .int .i64 0]) (by rw [results_cell_tmp rfl]; go_simp) rfl ?_
    have hsz := hb1.size
    simp only [World.size_alloc] at hsz
    have hne := hfr.ne (g := w.heap.size + 1) (by omega)
    exact ⟨_, _, rfl, (hro.set hne).set hne, ((hB1.trans (hbe.mono (by omega))).setCell (by simp) _).setCell (by simp) _, hfr.lift (by omega)⟩
  · have e1 : chkE xs n = 8 := by simp [chkE, hok]
    have e2 : alL xs n = [] := by simp [alL, e1]
    have e3 : alN xs n = 0 := by simp [alN, e1]
    rw [e1] at hC
    rw [e1, e2, e3]
    unfold bv at hC ⊢
    clear e1 e2 e3 hok hn
    go_enter Try.func15, Try.ntmps15
    go_wp2_with (go_at_call 23; refine (hC _ (below2 _ _ _)).mono ?_; rintro e w' ⟨rfl, hb1⟩; obtain ⟨r0, r1, r2, r3⟩ := (Box2.of (blk2 w _ _)).below hb1 (by (try simp only [World.size_alloc]) <;> omega))
    refine bodyPost_ret_by (v := .tuple #[.agg #[.slice none 0 0, .int .i64 0], .int .i64 8]) (by rw [results_cell_tmp rfl]; go_simp) rfl ?_
    exact ⟨none, 0, rfl, RowIn.nil, (((below2 w _ _).trans (hb1.mono (by (try simp only [World.size_alloc]) <;> omega))).setCell (by simp) _).setCell (by simp) _, Fresh.none⟩
end Go.Proofs.Ytgeldckfpjalfaa.Bt

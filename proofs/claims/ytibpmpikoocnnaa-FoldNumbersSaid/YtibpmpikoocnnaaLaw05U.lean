/- The laws FoldNumbers and FoldOrder. -/
import Derived.Test.YtibpmpikoocnnaaLaw05
namespace Go.Proofs.Ytibpmpikoocnnaa.Wk
open Go.Proofs Go.RowKit Go.Proofs.Ytibpmpikoocnnaa.Kit Go.Proofs.Ytibpmpikoocnnaa.M05 Go.Proofs.Ytibpmpikoocnnaa.Fo Go.Proofs.Ytibpmpikoocnnaa.R05
set_option linter.unusedVariables false

set_option maxHeartbeats 1000000 in
theorem foldNumbers_walk (a0 : Int) (a1 : Int) (w : World) (b0 : -2147483648 ≤ a0 ∧ a0 ≤ 2147483647) (b1 : 0 ≤ a1 ∧ a1 ≤ 4294967295) :
    Calls Try.prog 4 #[.int .i32 a0, .int .u32 a1] w fun e w' => e = .returned (.bool true) ∧ Below w.heap.size w w' := by
  have F1 := fold_any a0 w b0.1 b0.2
  have F2 := rfold_any a0 w b0.1 b0.2
  have F3 := back_any a1 w b1.1 b1.2
  have F4 := rback_any a1 w b1.1 b1.2
  generalize foldI a0 = A at *
  generalize backI a1 = B at *
  go_enter Try.func4, Try.ntmps4
  go_wp2_with (first  | ((with_reducible refine F1.mono ?_); rintro e w' ⟨rfl, rfl⟩)  | ((with_reducible refine F2.mono ?_); rintro e w' ⟨rfl, rfl⟩)  | ((with_reducible refine F3.mono ?_); rintro e w' ⟨rfl, rfl⟩)  | ((with_reducible refine F4.mono ?_); rintro e w' ⟨rfl, rfl⟩))
  go_ret
  exact ⟨rfl, Below.refl _ _⟩

set_option maxHeartbeats 4000000 in
theorem foldOrder_walk (a0 : Int) (a1 : Int) (w : World) (b0 : -2147483648 ≤ a0 ∧ a0 ≤ 2147483647) (b1 : -2147483648 ≤ a1 ∧ a1 ≤ 2147483647) :
    Calls Try.prog 7 #[.int .i32 a0, .int .i32 a1] w fun e w' => e = .returned (.bool true) ∧ Below w.heap.size w w' := by
  have F1 := fold_any a0 w b0.1 b0.2
  have F2 := fold_any a1 w b1.1 b1.2
  have Z1 := size_any a0 w b0.1 b0.2
  have Z2 := size_any a1 w b1.1 b1.2
  have A1 := alive_any w
  have d1 := foldI_bd b0.1 b0.2
  have d2 := foldI_bd b1.1 b1.2
  have hlt := order_lt (x := a0) (y := a1)
  have heq := order_eq (x := a0) (y := a1)
  have hfe := foldI_eq (x := a0) (y := a1)
  by_cases hxy : a0 = a1
  · subst hxy
    clear hlt heq hfe F2 Z2
    generalize foldI a0 = A at *
    generalize sizeI a0 = S at *
    go_enter Try.func7, Try.ntmps7
    go_wp2_with (first  | ((with_reducible refine F1.mono ?_); rintro e w' ⟨rfl, rfl⟩)  | ((with_reducible refine Z1.mono ?_); rintro e w' ⟨rfl, rfl⟩)  | ((with_reducible refine A1.mono ?_); rintro e w' ⟨rfl, hbA⟩))
    go_ret
    exact ⟨rfl, hbA⟩
  · have t1 : (a0 = a1) = False := eq_false hxy
    rw [t1] at hfe
    have u2 : (a0 == a1) = false := by simpa using hxy
    have u1 : (foldI a0 == foldI a1) = false := by simp [hfe]
    generalize foldI a0 = A at *
    generalize foldI a1 = B at *
    generalize sizeI a0 = S at *
    generalize sizeI a1 = T at *
    rcases (show S < T ∨ (S = T ∧ a0 < a1) ∨ (S = T ∧ ¬ a0 < a1) ∨ T < S by omega) with g | ⟨g, g2⟩ | ⟨g, g2⟩ | g
    · have t2 : (S < T) = True := eq_true g
      have t3 : (A < B) = True := eq_true (hlt g)
      clear hlt heq
      go_enter Try.func7, Try.ntmps7
      go_wp2_with (first  | ((with_reducible refine F1.mono ?_); rintro e w' ⟨rfl, rfl⟩)  | ((with_reducible refine F2.mono ?_); rintro e w' ⟨rfl, rfl⟩)  | ((with_reducible refine Z1.mono ?_); rintro e w' ⟨rfl, rfl⟩)  | ((with_reducible refine Z2.mono ?_); rintro e w' ⟨rfl, rfl⟩)  | ((with_reducible refine A1.mono ?_); rintro e w' ⟨rfl, hbA⟩))
      go_ret
      exact ⟨rfl, hbA⟩
    · subst g
      obtain ⟨g3, g4⟩ := heq rfl g2
      have t4 : (a0 < a1) = True := eq_true g2
      subst g3
      clear hlt heq
      go_enter Try.func7, Try.ntmps7
      go_wp2_with (first  | ((with_reducible refine F1.mono ?_); rintro e w' ⟨rfl, rfl⟩)  | ((with_reducible refine F2.mono ?_); rintro e w' ⟨rfl, rfl⟩)  | ((with_reducible refine Z1.mono ?_); rintro e w' ⟨rfl, rfl⟩)  | ((with_reducible refine Z2.mono ?_); rintro e w' ⟨rfl, rfl⟩)  | ((with_reducible refine A1.mono ?_); rintro e w' ⟨rfl, hbA⟩))
      go_ret
      exact ⟨rfl, hbA⟩
    · subst g
      have t4 : (a0 < a1) = False := eq_false g2
      clear hlt heq
      go_enter Try.func7, Try.ntmps7
      go_wp2_with (first  | ((with_reducible refine F1.mono ?_); rintro e w' ⟨rfl, rfl⟩)  | ((with_reducible refine F2.mono ?_); rintro e w' ⟨rfl, rfl⟩)  | ((with_reducible refine Z1.mono ?_); rintro e w' ⟨rfl, rfl⟩)  | ((with_reducible refine Z2.mono ?_); rintro e w' ⟨rfl, rfl⟩)  | ((with_reducible refine A1.mono ?_); rintro e w' ⟨rfl, hbA⟩))
      go_ret
      exact ⟨rfl, hbA⟩
    · have t2 : (S < T) = False := eq_false (by omega)
      have t5 : (S = T) = False := eq_false (by omega)
      clear hlt heq
      go_enter Try.func7, Try.ntmps7
      go_wp2_with (first  | ((with_reducible refine F1.mono ?_); rintro e w' ⟨rfl, rfl⟩)  | ((with_reducible refine F2.mono ?_); rintro e w' ⟨rfl, rfl⟩)  | ((with_reducible refine Z1.mono ?_); rintro e w' ⟨rfl, rfl⟩)  | ((with_reducible refine Z2.mono ?_); rintro e w' ⟨rfl, rfl⟩)  | ((with_reducible refine A1.mono ?_); rintro e w' ⟨rfl, hbA⟩))
      go_ret
      exact ⟨rfl, hbA⟩
end Go.Proofs.Ytibpmpikoocnnaa.Wk

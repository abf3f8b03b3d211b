/- The law FoldRange. -/
import Derived.Test.YtibpmpikoocnnaaLaw05
namespace Go.Proofs.Ytibpmpikoocnnaa.Wk
open Go.Proofs Go.RowKit Go.Proofs.Ytibpmpikoocnnaa.Kit Go.Proofs.Ytibpmpikoocnnaa.M05 Go.Proofs.Ytibpmpikoocnnaa.Fo Go.Proofs.Ytibpmpikoocnnaa.R05
set_option linter.unusedVariables false

set_option maxHeartbeats 4000000 in
theorem foldRange_walk (a0 : Int) (a1 : Int) (w : World) (b0 : -2147483648 ≤ a0 ∧ a0 ≤ 2147483647) (b1 : -9223372036854775808 ≤ a1 ∧ a1 ≤ 9223372036854775807) :
    Calls Try.prog 8 #[.int .i32 a0, .int .i64 a1] w fun e w' => e = .returned (.bool true) ∧ Below w.heap.size w w' := by
  have A1 := alive_any w
  by_cases hk : 1 ≤ a1 ∧ a1 ≤ 32
  · have F1 := fold_any a0 w b0.1 b0.2
    have t1 : (a1 < 1) = False := eq_false (by omega)
    have t2 : (32 < a1) = False := eq_false (by omega)
    obtain ⟨P, e1, e2, p1, p2⟩ : ∃ P : Int, (2 : Int) ^ (a1.toNat - 1) = P ∧ (2 : Int) ^ a1.toNat = 2 * P ∧ 1 ≤ P ∧ P ≤ 2147483648 := by
      obtain ⟨m, hm, hm2⟩ : ∃ m : Nat, a1.toNat = m + 1 ∧ m ≤ 31 := ⟨a1.toNat - 1, by omega, by omega⟩
      rw [hm]
      have q1 := Nat.pow_le_pow_right (show 0 < 2 by omega) hm2
      have q2 := Nat.two_pow_pos m
      refine ⟨((2 ^ m : Nat) : Int), by simp, by rw [Int.pow_succ]; simp; omega, by omega, by omega⟩
    have d := foldI_bd b0.1 b0.2
    obtain ⟨N, hN⟩ : ∃ N, foldI a0 = N := ⟨_, rfl⟩
    have hq : 0 ≤ a0 ∧ N = 2 * a0 ∨ a0 < 0 ∧ N = -2 * a0 - 1 := by
      rcases (show 0 ≤ a0 ∨ a0 < 0 by omega) with g | g
      · exact .inl ⟨g, by rw [← hN, foldI_pos g]⟩
      · exact .inr ⟨g, by rw [← hN, foldI_neg g]⟩
    rw [hN] at F1 d
    clear hN
    rcases hq with ⟨g, hv⟩ | ⟨g, hv⟩
    · have u1 : (a0 < 0) = False := eq_false (by omega)
      have u2 : (N % 2 == 1) = false := by simp; omega
      have u3 : (-P ≤ a0) = True := eq_true (by omega)
      rcases (show a0 < P ∨ P ≤ a0 by omega) with g2 | g2
      · have u4 : (a0 < P) = True := eq_true g2
        have u5 : (N < 2 * P) = True := eq_true (by omega)
        clear hv g2
        go_enter Try.func8, Try.ntmps8
        go_wp2_with (first  | ((with_reducible refine F1.mono ?_); rintro e w' ⟨rfl, rfl⟩)  | ((with_reducible refine A1.mono ?_); rintro e w' ⟨rfl, hbA⟩))
        go_ret
        exact ⟨rfl, hbA⟩
      · have u4 : (a0 < P) = False := eq_false (by omega)
        have u5 : (N < 2 * P) = False := eq_false (by omega)
        clear hv g2
        go_enter Try.func8, Try.ntmps8
        go_wp2_with (first  | ((with_reducible refine F1.mono ?_); rintro e w' ⟨rfl, rfl⟩)  | ((with_reducible refine A1.mono ?_); rintro e w' ⟨rfl, hbA⟩))
        go_ret
        exact ⟨rfl, hbA⟩
    · have u1 : (a0 < 0) = True := eq_true g
      have u2 : (N % 2 == 1) = true := by simp; omega
      rcases (show -P ≤ a0 ∨ a0 < -P by omega) with g2 | g2
      · have u3 : (-P ≤ a0) = True := eq_true g2
        have u4 : (a0 < P) = True := eq_true (by omega)
        have u5 : (N < 2 * P) = True := eq_true (by omega)
        clear hv g2
        go_enter Try.func8, Try.ntmps8
        go_wp2_with (first  | ((with_reducible refine F1.mono ?_); rintro e w' ⟨rfl, rfl⟩)  | ((with_reducible refine A1.mono ?_); rintro e w' ⟨rfl, hbA⟩))
        go_ret
        exact ⟨rfl, hbA⟩
      · have u3 : (-P ≤ a0) = False := eq_false (by omega)
        have u5 : (N < 2 * P) = False := eq_false (by omega)
        clear hv g2
        go_enter Try.func8, Try.ntmps8
        go_wp2_with (first  | ((with_reducible refine F1.mono ?_); rintro e w' ⟨rfl, rfl⟩)  | ((with_reducible refine A1.mono ?_); rintro e w' ⟨rfl, hbA⟩))
        go_ret
        exact ⟨rfl, hbA⟩
  · rcases (show a1 < 1 ∨ (1 ≤ a1 ∧ 32 < a1) by omega) with g | ⟨g, g'⟩
    · have t1 : (a1 < 1) = True := eq_true g
      go_enter Try.func8, Try.ntmps8
      go_wp2_with ((with_reducible refine A1.mono ?_); rintro e w' ⟨rfl, hbA⟩)
      go_ret
      exact ⟨rfl, hbA⟩
    · have t1 : (a1 < 1) = False := eq_false (by omega)
      have t2 : (32 < a1) = True := eq_true g'
      go_enter Try.func8, Try.ntmps8
      go_wp2_with ((with_reducible refine A1.mono ?_); rintro e w' ⟨rfl, hbA⟩)
      go_ret
      exact ⟨rfl, hbA⟩
end Go.Proofs.Ytibpmpikoocnnaa.Wk

/- A law of layer 1: the walk of its Go text, out of the contracts of what it calls. -/
import Derived.Test.YtobbfacpolmcaaaLaw01
namespace Go.Proofs.Ytobbfacpolmcaaa.Wk
open Go.RowKit Go.Proofs.Ytobbfacpolmcaaa.Kit Go.Proofs.Ytobbfacpolmcaaa.M01
set_option linter.unusedVariables false

set_option maxHeartbeats 1000000 in
theorem leSums_walk (a0 : Int) (a1 : Int) (a2 : Int) (w : World) (b0 : -9223372036854775808 ≤ a0 ∧ a0 ≤ 9223372036854775807) (b1 : -9223372036854775808 ≤ a1 ∧ a1 ≤ 9223372036854775807) (b2 : -9223372036854775808 ≤ a2 ∧ a2 ≤ 9223372036854775807) :
    Calls Try.prog 9 #[.int .i64 a0, .int .i64 a1, .int .i64 a2] w fun e w' => e = .returned (.bool true) ∧ Below w.heap.size w w' := by
  by_cases h : isW a2 = true
  · obtain ⟨h1, h2⟩ := isW_of h
    by_cases h8 : a2 = 8
    · subst h8
      go_enter Try.func9, Try.ntmps9
      go_wp2_with (first | (go_at_call 21; refine (R01.width_any _ _).mono ?_; rintro e w' ⟨rfl, rfl⟩) | (go_at_call 15; refine (alive_any _).mono ?_; rintro e w' ⟨rfl, hbA⟩))
      go_ret
      exact ⟨rfl, hbA⟩
    · have hn8 : (a2 == 8) = false := by simpa using h8
      have hp := pw_bd7 (show a2.toNat ≤ 7 by omega)
      have hp1 := pw_pos a2.toNat
      obtain ⟨p, ep⟩ : ∃ p, pw a2.toNat = p := ⟨_, rfl⟩
      have T := top_at h ep
      have hU : ∀ n, (unsE n a2 = 0 ∧ unsN n a2 = n % p ∧ -p ≤ n ∧ n ≤ p) ∨ unsE n a2 = 16 := by
        intro n
        subst ep
        by_cases c : unsIn n a2 = true
        · left
          have c' : n ≤ (pw a2.toNat - 1) / 2 ∧ -n - 1 ≤ (pw a2.toNat - 1) / 2 := by simpa [unsIn] using c
          refine ⟨by simp [unsE, h, c], ?_, by omega, by omega⟩
          simp only [unsN, h, c, if_true, Bool.true_eq_false, if_false]
          by_cases c2 : n < 0
          · rw [if_pos c2, ← Int.add_emod_right, Int.emod_eq_of_lt (by omega) (by omega)]
          · rw [if_neg c2, Int.emod_eq_of_lt (by omega) (by omega)]
        · right; simp [unsE, h, c]
      rw [ep] at hp hp1
      clear ep
      have main : ∀ u1 e1 u2 e2 u3 e3 : Int, unsN a0 a2 = u1 → unsE a0 a2 = e1 → unsN a1 a2 = u2 → unsE a1 a2 = e2 → unsN (wrap64 (a0 + a1)) a2 = u3 → unsE (wrap64 (a0 + a1)) a2 = e3 →
          e1 = 16 ∨ (e1 = 0 ∧ e2 = 16) ∨ (e1 = 0 ∧ e2 = 0 ∧ e3 = 16) ∨ (e1 = 0 ∧ e2 = 0 ∧ e3 = 0 ∧ 0 ≤ u1 ∧ u1 < p ∧ 0 ≤ u2 ∧ u2 < p ∧ (u1 + u2) % p = u3) →
          Calls Try.prog 9 #[.int .i64 a0, .int .i64 a1, .int .i64 a2] w fun e w' => e = .returned (.bool true) ∧ Below w.heap.size w w' := by
        intro u1 e1 u2 e2 u3 e3 q1 q2 q3 q4 q5 q6 hc
        have U1 := unsigned_at b0.1 b0.2 q1 q2
        have U2 := unsigned_at b1.1 b1.2 q3 q4
        have U3 := unsigned_at (show -9223372036854775808 ≤ wrap64 (a0 + a1) by unfold wrap64; omega) (show wrap64 (a0 + a1) ≤ 9223372036854775807 by unfold wrap64; omega) q5 q6
        clear q1 q2 q3 q4 q5 q6 hU
        rcases hc with rfl | ⟨rfl, rfl⟩ | ⟨rfl, rfl, rfl⟩ | ⟨rfl, rfl, rfl, g1, g2, g3, g4, g5⟩
        all_goals
          go_enter Try.func9, Try.ntmps9
          go_wp2_with (first | (go_at_call 21; refine (R01.width_any _ _).mono ?_; rintro e w' ⟨rfl, rfl⟩) | (go_at_call 22; refine (T.out _).mono ?_; rintro e w' ⟨rfl, rfl⟩)  | (go_at_call 13; ((with_reducible refine (U1.out _).mono ?_); rintro e w' ⟨rfl, q, rfl⟩))  | (go_at_call 13; ((with_reducible refine (U2.out _).mono ?_); rintro e w' ⟨rfl, q, rfl⟩))  | (go_at_call 13; ((with_reducible refine (U3.out _).mono ?_); rintro e w' ⟨rfl, q, rfl⟩))  | (go_at_call 15; refine (alive_any _).mono ?_; rintro e w' ⟨rfl, hbA⟩))
          go_ret
          exact ⟨rfl, (below_drewN (Below.refl _ _) _).trans hbA⟩
      refine main _ _ _ _ _ _ rfl rfl rfl rfl rfl rfl ?_
      rcases hU a0 with ⟨x1, x2, x3, x4⟩ | x1
      · rcases hU a1 with ⟨y1, y2, y3, y4⟩ | y1
        · have ew : wrap64 (a0 + a1) = a0 + a1 := by unfold wrap64; omega
          rw [ew]
          rcases hU (a0 + a1) with ⟨z1, z2, _⟩ | z1
          · right; right; right
            rw [x2, y2, z2]
            have m0 := Int.emod_nonneg a0 (show p ≠ 0 by omega)
            have m1 := Int.emod_lt_of_pos a0 (show 0 < p by omega)
            have m2 := Int.emod_nonneg a1 (show p ≠ 0 by omega)
            have m3 := Int.emod_lt_of_pos a1 (show 0 < p by omega)
            exact ⟨x1, y1, z1, m0, m1, m2, m3, by rw [← Int.add_emod]⟩
          · right; right; left; exact ⟨x1, y1, z1⟩
        · right; left; exact ⟨x1, y1⟩
      · left; exact x1
  · have h' : isW a2 = false := by simpa using h
    go_enter Try.func9, Try.ntmps9
    go_wp2_with (first | (go_at_call 21; refine (R01.width_any _ _).mono ?_; rintro e w' ⟨rfl, rfl⟩) | (go_at_call 15; refine (alive_any _).mono ?_; rintro e w' ⟨rfl, hb⟩))
    go_ret
    exact ⟨rfl, hb⟩
end Go.Proofs.Ytobbfacpolmcaaa.Wk

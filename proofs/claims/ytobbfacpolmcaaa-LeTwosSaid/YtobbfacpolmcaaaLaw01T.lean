/- A law of layer 1: the walk of its Go text, out of the contracts of what it calls. -/
import Derived.Test.YtobbfacpolmcaaaLaw01
namespace Go.Proofs.Ytobbfacpolmcaaa.Wk
open Go.RowKit Go.Proofs.Ytobbfacpolmcaaa.Kit Go.Proofs.Ytobbfacpolmcaaa.M01
set_option linter.unusedVariables false

set_option maxHeartbeats 1000000 in
theorem leTwos_walk (a0 : Int) (a1 : Int) (a2 : Int) (w : World) (b0 : 0 ≤ a0 ∧ a0 ≤ 18446744073709551615) (b1 : -9223372036854775808 ≤ a1 ∧ a1 ≤ 9223372036854775807) (b2 : -9223372036854775808 ≤ a2 ∧ a2 ≤ 9223372036854775807) :
    Calls Try.prog 8 #[.int .u64 a0, .int .i64 a1, .int .i64 a2] w fun e w' => e = .returned (.bool true) ∧ Below w.heap.size w w' := by
  by_cases h : isW a2 = true
  · obtain ⟨h1, h2⟩ := isW_of h
    have hp := pw_bd (show a2.toNat ≤ 8 by omega)
    have hp2 : 2 ≤ pw a2.toNat := by have := pw_le (show 1 ≤ a2.toNat by omega); rw [show pw 1 = 256 by decide +kernel] at this; omega
    have hpe : 2 * (pw a2.toNat / 2) = pw a2.toNat := by
      obtain ⟨j, hj⟩ : ∃ j, a2.toNat = j + 1 := ⟨a2.toNat - 1, by omega⟩
      rw [hj, pw_succ]; omega
    obtain ⟨p, ep⟩ : ∃ p, pw a2.toNat = p := ⟨_, rfl⟩
    have T := top_at h ep
    have hS : ∀ n, sgnN n a2 = (if n < p then (if (p - 1) / 2 < n then n - p else n) else 0) ∧ sgnE n a2 = (if n < p then 0 else 16) := by
      intro n; subst ep; simp [sgnN, sgnE, h]
    have hU : ∀ n, unsN n a2 = (if n ≤ (p - 1) / 2 ∧ -n - 1 ≤ (p - 1) / 2 then (if n < 0 then n + p else n) else 0) ∧ unsE n a2 = (if n ≤ (p - 1) / 2 ∧ -n - 1 ≤ (p - 1) / 2 then 0 else 16) := by
      intro n; subst ep; simp [unsN, unsE, unsIn, h]
    rw [ep] at hp hp2 hpe
    clear ep
    have main : ∀ s se u ue ub ube sb sbe : Int, sgnN a0 a2 = s → sgnE a0 a2 = se → unsN a1 a2 = u → unsE a1 a2 = ue → unsN s a2 = ub → unsE s a2 = ube → sgnN u a2 = sb → sgnE u a2 = sbe →
        -9223372036854775808 ≤ s → s ≤ 9223372036854775807 → 0 ≤ u → u < 18446744073709551616 →
        ((a0 < p ∧ se = 0 ∧ ube = 0 ∧ ub = a0 ∧ (!decide (s < 0) == decide ((p - 1) / 2 < a0)) = false) ∨ (p ≤ a0 ∧ se = 16)) →
        ((a1 ≤ (p - 1) / 2 ∧ -((p - 1) / 2) - 1 ≤ a1 ∧ ue = 0 ∧ sbe = 0 ∧ sb = a1 ∧ (a1 < 0 ∨ (0 ≤ a1 ∧ u = a1))) ∨ ((p - 1) / 2 < a1 ∧ ue = 16) ∨ (a1 ≤ (p - 1) / 2 ∧ a1 < -((p - 1) / 2) - 1 ∧ ue = 16)) →
        Calls Try.prog 8 #[.int .u64 a0, .int .i64 a1, .int .i64 a2] w fun e w' => e = .returned (.bool true) ∧ Below w.heap.size w w' := by
      intro s se u ue ub ube sb sbe e1 e2 e3 e4 e5 e6 e7 e8 l1 l2 l3 l4 c1 c2
      have S1 := signed_at b0.1 (by omega) e1 e2
      have U1 := unsigned_at b1.1 b1.2 e3 e4
      have U2 := unsigned_at l1 l2 e5 e6
      have S2 := signed_at l3 l4 e7 e8
      clear e1 e2 e3 e4 e5 e6 e7 e8 hS hU
      rcases c1 with ⟨g1, rfl, rfl, rfl, g2⟩ | ⟨g1, rfl⟩ <;> rcases c2 with ⟨k1, k2, rfl, rfl, rfl, k3 | ⟨k3, rfl⟩⟩ | ⟨k1, rfl⟩ | ⟨k1, k2, rfl⟩
      all_goals
        go_enter Try.func8, Try.ntmps8
        go_wp2_with (first | (go_at_call 21; refine (R01.width_any _ _).mono ?_; rintro e w' ⟨rfl, rfl⟩) | (go_at_call 22; refine (T.out _).mono ?_; rintro e w' ⟨rfl, rfl⟩)  | (go_at_call 12; ((with_reducible refine (S1.out _).mono ?_); rintro e w' ⟨rfl, q, rfl⟩))  | (go_at_call 12; ((with_reducible refine (S2.out _).mono ?_); rintro e w' ⟨rfl, q, rfl⟩))  | (go_at_call 13; ((with_reducible refine (U1.out _).mono ?_); rintro e w' ⟨rfl, q, rfl⟩))  | (go_at_call 13; ((with_reducible refine (U2.out _).mono ?_); rintro e w' ⟨rfl, q, rfl⟩))  | (go_at_call 15; refine (alive_any _).mono ?_; rintro e w' ⟨rfl, hbA⟩))
        go_ret
        exact ⟨rfl, (below_drewN (Below.refl _ _) _).trans hbA⟩
    refine main _ _ _ _ _ _ _ _ rfl rfl rfl rfl rfl rfl rfl rfl ?_ ?_ ?_ ?_ ?_ ?_
    · rw [(hS a0).1]; (repeat split) <;> omega
    · rw [(hS a0).1]; (repeat split) <;> omega
    · rw [(hU a1).1]; (repeat split) <;> omega
    · rw [(hU a1).1]; (repeat split) <;> omega
    · rw [(hU (sgnN a0 a2)).1, (hU (sgnN a0 a2)).2, (hS a0).1, (hS a0).2]
      by_cases c1 : a0 < p
      · left
        rw [if_pos c1, if_pos c1]
        by_cases c2 : (p - 1) / 2 < a0
        · rw [if_pos c2, if_pos (by omega), if_pos (by omega), if_pos (by omega)]; exact ⟨c1, rfl, rfl, by omega, by rw [decide_eq_true (by omega), decide_eq_true c2]; rfl⟩
        · rw [if_neg c2, if_pos (by omega), if_pos (by omega), if_neg (by omega)]; exact ⟨c1, rfl, rfl, by omega, by rw [decide_eq_false (by omega), decide_eq_false c2]; rfl⟩
      · right
        rw [if_neg c1]; omega
    · rw [(hS (unsN a1 a2)).1, (hS (unsN a1 a2)).2, (hU a1).1, (hU a1).2]
      by_cases c1 : a1 ≤ (p - 1) / 2 ∧ -a1 - 1 ≤ (p - 1) / 2
      · left
        rw [if_pos c1, if_pos c1]
        by_cases c2 : a1 < 0
        · rw [if_pos c2, if_pos (by omega), if_pos (by omega), if_pos (by omega)]; omega
        · rw [if_neg c2, if_pos (by omega), if_pos (by omega), if_neg (by omega)]; omega
      · right
        rw [if_neg c1]; omega
  · have h' : isW a2 = false := by simpa using h
    go_enter Try.func8, Try.ntmps8
    go_wp2_with (first | (go_at_call 21; refine (R01.width_any _ _).mono ?_; rintro e w' ⟨rfl, rfl⟩) | (go_at_call 15; refine (alive_any _).mono ?_; rintro e w' ⟨rfl, hb⟩))
    go_ret
    exact ⟨rfl, hb⟩
end Go.Proofs.Ytobbfacpolmcaaa.Wk

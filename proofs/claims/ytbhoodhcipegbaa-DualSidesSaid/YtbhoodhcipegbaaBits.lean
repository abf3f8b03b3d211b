/- What the functions of package bits return: walks of their Go text. -/
import Derived.Test.YtbhoodhcipegbaaProg
import Derived.Test.YtbhoodhcipegbaaKit
import Derived.Test.YtbhoodhcipegbaaMath02
import Derived.Deep.QuietTactic
import Derived.BigQuiet
namespace Go.Proofs.Ytbhoodhcipegbaa.Bt
open Go.RowKit Go.Proofs.Ytbhoodhcipegbaa.Kit Go.Proofs.Ytbhoodhcipegbaa.M01 Go.Proofs.Ytbhoodhcipegbaa.M02
set_option linter.unusedVariables false

theorem and_low (v n : Int) (hv : 0 ≤ v) (hv2 : v < 18446744073709551616) (h0 : 0 ≤ n) :
    bits .and .u64 v (IntKind.u64.wrap (IntKind.u64.wrap (2 ^ min n.toNat 64) - 1)) = v % p2 (min n 64) := by
  have key : ∀ k : Nat, k ≤ 64 → bits .and .u64 v (2 ^ k - 1) = v % 2 ^ k := fun k hk =>
    bits_mask .u64 64 (by decide) (fun n h h' => by
      have : (2 : Int) ^ 64 = 18446744073709551616 := by decide +kernel
      simp [IntKind.wrap, IntKind.bits, IntKind.signed]; omega) k hk v hv (by
      have : (2 : Int) ^ 64 = 18446744073709551616 := by decide +kernel
      omega)
  have hw : ∀ x, IntKind.u64.wrap x = x % 18446744073709551616 := fun x => by simp [IntKind.wrap, IntKind.bits, IntKind.signed]
  have e : (min n 64).toNat = min n.toNat 64 := by omega
  have h64 : (2 : Int) ^ 64 = 18446744073709551616 := by decide +kernel
  unfold p2
  rw [e]
  generalize hk : min n.toNat 64 = k
  have hk2 : k ≤ 64 := by omega
  rw [← key k hk2]
  congr 1
  rw [hw, hw]
  have h1 := two_pos k
  by_cases h : k = 64
  · subst h; rw [h64]; decide
  · have h2 : (2 : Int) ^ k * 2 ≤ 2 ^ 64 := by
      rw [← Int.pow_succ]
      obtain ⟨d, hd⟩ : ∃ d, 64 = k + 1 + d := ⟨64 - (k + 1), by omega⟩
      conv => rhs; rw [hd, Int.pow_add]
      have h3 := Int.mul_le_mul_of_nonneg_left (two_pos d) (show 0 ≤ (2 : Int) ^ (k + 1) by have := two_pos (k + 1); omega)
      rw [Int.mul_one] at h3; exact h3
    omega

set_option maxHeartbeats 4000000 in
theorem bytesFor_any (n : Int) (w : World) (h0 : 0 ≤ n) (h1 : n ≤ 330100) :
    Calls Try.prog 51 #[.int .i64 n] w fun e w' => e = .returned (.int .i64 (sz n)) ∧ w = w' := by
  have h2 := sz_nat h0
  go_enter Try.func51, Try.ntmps51
  go_wp2
  go_ret
  exact ⟨by go_num, rfl⟩

set_option maxHeartbeats 4000000 in
theorem lowest_any (v n : Int) (w : World) (hv : 0 ≤ v) (hv2 : v < 18446744073709551616) (h0 : 0 ≤ n) (h1 : n ≤ 330100) :
    Calls Try.prog 32 #[.int .u64 v, .int .i64 n] w fun e w' => e = .returned (.int .u64 (v % p2 (min n 64))) ∧ w = w' := by
  go_enter Try.func32, Try.ntmps32
  go_wp2
  go_ret
  exact ⟨by rw [← and_low v n hv hv2 h0]; rfl, rfl⟩

/-- Bits as a value. -/
def bv (a : Option Addr) (len cap : Nat) (n : Int) : Value := .agg #[.slice a len cap, .int .i64 n]

theorem byte_of {k : World} {a : Option Addr} {xs : List Int} (h : Reads .u8 k a xs) : isByte xs := fun x hx => by
  have := bd_u8 (h.2.2 x hx); omega

set_option maxHeartbeats 4000000 in
theorem check_any (a : Option Addr) (len cap : Nat) (xs : List Int) (n : Int) (w : World) (hr : RowIn .u8 w a len cap xs) (h0 : -9223372036854775808 ≤ n) (h1 : n ≤ 9223372036854775807) :
    Calls Try.prog 31 #[bv a len cap n] w fun e w' => e = .returned (.int .i64 (chkE xs n)) ∧ Below w.heap.size w w' := by
  obtain rfl := hr.hl
  have hb := byte_of hr.rd
  have hlen := hr.rd.len
  unfold chkE
  by_cases e1 : n < 0
  · have hok : okB xs n = false := by unfold okB; exact decide_eq_false (by omega)
    rw [hok]
    unfold bv
    go_enter Try.func31, Try.ntmps31
    go_wp2
    go_quiet (fail)
    go_wp2
    go_ret
    exact ⟨rfl, below_drewN ((Below.refl _ _).alloc (Nat.le_refl _) _) _⟩
  have f1 : (n < 0) = False := eq_false e1
  by_cases e2 : 330000 < n
  · have f2 : (330000 < n) = True := eq_true e2
    have hok : okB xs n = false := by unfold okB; exact decide_eq_false (by omega)
    rw [hok]
    unfold bv
    go_enter Try.func31, Try.ntmps31
    go_wp2
    go_quiet (fail)
    go_wp2
    go_ret
    exact ⟨rfl, below_drewN ((Below.refl _ _).alloc (Nat.le_refl _) _) _⟩
  have f2 : (330000 < n) = False := eq_false e2
  have c1 : 0 ≤ n := by omega
  have c2 : n ≤ 330000 := by omega
  clear e1 e2
  by_cases c3 : sz n = xs.length
  · have hs := sz_nat c1
    have hlast := ok_last hb c1 (by omega)
    by_cases c4 : n % 8 = 0
    · have hok : okB xs n = true := okB_iff.2 ⟨c1, c2, by omega, by exact hlast.2 (.inl c4)⟩
      rw [hok]
      clear hlast hs
      unfold bv
      go_enter Try.func31, Try.ntmps31
      go_wp2
      go_quiet ((go_at_call 51; exact Calls.quiet_of_same ((bytesFor_any _ _ c1 (by omega)).mono (fun _ _ q => ⟨q.1, q.2.symm⟩))))
      go_wp2
      go_ret
      exact ⟨rfl, below_drewN ((Below.refl _ _).alloc (Nat.le_refl _) _) _⟩
    · have hj : (n / 8).toNat < xs.length := by omega
      have hj2 : n / 8 < (xs.length : Int) := by omega
      have hn8 : 0 < n % 8 := by omega
      obtain ⟨b, off, ea, hcc⟩ := (hr.rd.alloc (.cells #[.slice a xs.length cap, .int .i64 n] 24)).cells (by intro h; subst h; simp at hj)
      subst ea
      have hcell := hcc _ hj
      have hbb := isByte_at hb hj
      obtain ⟨y, ey⟩ : ∃ y, xs.getD (n / 8).toNat 0 = y := ⟨_, rfl⟩
      rw [ey] at hcell hlast hbb
      unfold p2 at hlast
      by_cases c5 : y / 2 ^ (n % 8).toNat = 0
      · have hok : okB xs n = true := okB_iff.2 ⟨c1, c2, by omega, by unfold p2; exact hlast.2 (.inr c5)⟩
        rw [hok]
        clear hlast hs hcc ey
        unfold bv
        go_enter Try.func31, Try.ntmps31
        go_wp2
        go_quiet ((go_at_call 51; exact Calls.quiet_of_same ((bytesFor_any _ _ c1 (by omega)).mono (fun _ _ q => ⟨q.1, q.2.symm⟩))))
        go_wp2
        go_ret
        exact ⟨rfl, below_drewN ((Below.refl _ _).alloc (Nat.le_refl _) _) _⟩
      · have hok : okB xs n = false := by unfold okB; exact decide_eq_false (fun h => by have := hlast.1 h.2.2.2; rcases hlast.1 h.2.2.2 with h | h <;> contradiction)
        rw [hok]
        clear hlast hs hcc ey
        unfold bv
        go_enter Try.func31, Try.ntmps31
        go_wp2
        go_quiet ((go_at_call 51; exact Calls.quiet_of_same ((bytesFor_any _ _ c1 (by omega)).mono (fun _ _ q => ⟨q.1, q.2.symm⟩))))
        go_wp2
        go_ret
        exact ⟨rfl, below_drewN ((Below.refl _ _).alloc (Nat.le_refl _) _) _⟩
  · have hok : okB xs n = false := by unfold okB; have := sz_nat c1; exact decide_eq_false (by omega)
    rw [hok]
    unfold bv
    go_enter Try.func31, Try.ntmps31
    go_wp2
    go_quiet ((go_at_call 51; exact Calls.quiet_of_same ((bytesFor_any _ _ c1 (by omega)).mono (fun _ _ q => ⟨q.1, q.2.symm⟩))))
    go_wp2
    go_ret
    exact ⟨rfl, below_drewN ((Below.refl _ _).alloc (Nat.le_refl _) _) _⟩
end Go.Proofs.Ytbhoodhcipegbaa.Bt

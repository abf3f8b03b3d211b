/- The law RiceNames. -/
import Derived.Test.YtbhoodhcipegbaaLaw07C
namespace Go.Proofs.Ytbhoodhcipegbaa.Wk
open Go.Proofs Go.RowKit Go.Proofs.Ytbhoodhcipegbaa.Kit Go.Proofs.Ytbhoodhcipegbaa.M01 Go.Proofs.Ytbhoodhcipegbaa.M02 Go.Proofs.Ytbhoodhcipegbaa.M06 Go.Proofs.Ytbhoodhcipegbaa.M07 Go.Proofs.Ytbhoodhcipegbaa.Bt Go.Proofs.Ytbhoodhcipegbaa.R02 Go.Proofs.Ytbhoodhcipegbaa.Un Go.Proofs.Ytbhoodhcipegbaa.R06 Go.Proofs.Ytbhoodhcipegbaa.Ri Go.Proofs.Ytbhoodhcipegbaa.R07
set_option linter.unusedVariables false

theorem val_zeros7 (n : Nat) : val (List.replicate n 0) = 0 := by
  induction n with
  | zero => rfl
  | succ n ih => rw [List.replicate_succ, val, ih]; rfl
theorem zeros_ok7 (n : Nat) (h : n = 41249) : okB (List.replicate n 0) 329992 = true :=
  okB_iff.2 ⟨by omega, by omega, by rw [List.length_replicate, h]; rfl, by rw [val_zeros7]; have := p2_pos 329992; omega⟩
theorem zeros_write7 (n : Nat) (h : n = 41249) {v k : Int} (hk0 : 0 ≤ k) (hk1 : k ≤ 24) (hc : cdS v k = 9) : rwE (List.replicate n 0) 329992 v k = 18 ∧ rwL (List.replicate n 0) 329992 v k = [] ∧ rwN (List.replicate n 0) 329992 v k = 0 := by
  have e : rwE (List.replicate n 0) 329992 v k = 18 := by rw [rwE, if_pos (zeros_ok7 n h), if_neg (by omega), hc, if_pos (by omega)]
  exact ⟨e, by rw [rwL, if_neg (by rw [e]; decide)], by rw [rwN, if_neg (by rw [e]; decide)]⟩
theorem one_far : rrE [0] 1 9223372036854775807 0 = 24 ∧ rrN [0] 1 9223372036854775807 0 = 0 ∧ rrX [0] 1 9223372036854775807 0 = 0 := by
  have hok : okB [0] 1 = true := by decide +kernel
  have eR : rdE [0] 1 9223372036854775807 = 24 := by rw [rdE, if_pos hok, if_neg (by omega), if_pos (by omega)]
  have e : rrE [0] 1 9223372036854775807 0 = 24 := by rw [rrE, if_pos hok, if_neg (by omega), if_pos (by rw [eR]; decide), eR]
  exact ⟨e, by rw [rrN, if_neg (by rw [e]; decide)], by rw [rrX, if_neg (by rw [e]; decide)]⟩

/-- An escape of a number that needs none. -/
theorem rr_esc {v k : Int} (hv : isU32 v) (h0 : 0 ≤ k) (h1 : k ≤ 24) (hq : qP v k ≠ 48) :
    let L := bl 80 (281474976710655 + v * p2 48)
    rrE L 80 0 k = 12 ∧ rrN L 80 0 k = 0 ∧ rrX L 80 0 k = 0 := by
  intro L
  have h48 : p2 48 = 281474976710656 := by decide +kernel
  obtain ⟨v0, v1⟩ := hv
  have hm := Int.mul_nonneg v0 (show 0 ≤ p2 48 by omega)
  have hlt : 281474976710655 + v * p2 48 < p2 80 := by
    have := join_lt (V := 281474976710655) (X := v) (n := 48) (m := 32) (by omega) (by omega) (by omega) (by rw [p2_32]; omega)
    exact this
  have hL : okB L 80 = true := ok_bl (by omega) (by omega) (by omega) hlt
  have hvL : val L = 281474976710655 + v * p2 48 := val_bl (by omega) (by omega) hlt
  have hX : val L / p2 0 = (p2 48 - 1) + v * p2 (runS 48) := by rw [hvL, p2_zero, Int.ediv_one, runS_48]; omega
  have hcq : cq (val L / p2 0) = 48 := by unfold cq; rw [hX]; exact cnt_runS (by omega) (by omega) v
  have hon : ons L 0 = 48 := hcq
  have hdg : dcG (val L / p2 0) k = v := by
    unfold dcG dcM; rw [hcq, bhS_48, hX, runS_48, Int.add_mul_ediv_right _ _ (by omega), Int.ediv_eq_zero_of_lt (by omega) (by omega), Int.zero_add, p2_32, Int.emod_eq_of_lt v0 (by omega)]
  have hdn : dcN (val L / p2 0) k = v := by unfold dcN; rw [if_pos hcq, hdg]
  have eR : rdE L 80 0 = 0 := by rw [rdE, if_pos hL, if_neg (by omega), if_neg (by omega), if_neg (by rw [hon]; omega)]
  have eX : rdX L 80 0 = 48 := by rw [rdX, if_pos eR, hon]; rfl
  have e : rrE L 80 0 k = 12 := by
    rw [rrE, if_pos hL, if_neg (by omega), if_neg (by rw [eR]; simp), if_neg (by rw [eX]; unfold dcM; rw [hcq, bhS_48]; omega), if_pos (by rw [hdn, hcq]; exact hq)]
  exact ⟨e, by rw [rrN, if_neg (by rw [e]; decide)], by rw [rrX, if_neg (by rw [e]; decide)]⟩

theorem cap_at {k : Int} (h0 : 0 ≤ k) (h1 : k ≤ 24) : qP (48 * p2 k - 1) k = 47 ∧ qP (48 * p2 k) k = 48 ∧ cdS (48 * p2 k - 1) k = 48 + k ∧ cdS (48 * p2 k) k = 80 := by
  have hp := p2_pos k
  have e1 : (48 * p2 k - 1) / p2 k = 47 := by
    rw [show 48 * p2 k - 1 = (p2 k - 1) + 47 * p2 k by omega, Int.add_mul_ediv_right _ _ (by omega), Int.ediv_eq_zero_of_lt (by omega) (by omega)]; rfl
  have e2 : 48 * p2 k / p2 k = 48 := Int.mul_ediv_cancel _ (by omega)
  have q1 : qP (48 * p2 k - 1) k = 47 := by unfold qP; rw [e1]; rfl
  have q2 : qP (48 * p2 k) k = 48 := by unfold qP; rw [e2]; rfl
  exact ⟨q1, q2, by unfold cdS; rw [q1, runS_lt (by omega), bhS_lt k (by omega)]; omega, by unfold cdS; rw [q2, runS_48, bhS_48]; rfl⟩

def ones48 : List Int := [255, 255, 255, 255, 255, 255]
theorem ones48_put : putE [] 0 281474976710655 48 = 0 ∧ putL [] 0 281474976710655 48 = ones48 ∧ putN [] 0 281474976710655 48 = 48 := by decide +kernel
theorem ones48_more {v : Int} (hv : isU32 v) : putE ones48 48 v 32 = 0 ∧ putL ones48 48 v 32 = bl 80 (281474976710655 + v * p2 48) ∧ putN ones48 48 v 32 = 80 := by
  have hok : okB ones48 48 = true := by decide +kernel
  have hval : val ones48 = 281474976710655 := by decide +kernel
  have e : putE ones48 48 v 32 = 0 := by rw [putE, if_pos hok, if_neg (by omega), if_neg (by rw [p2_32]; have := hv.2; omega), if_neg (by omega)]
  exact ⟨e, by rw [putL, if_pos e, hval]; rfl, by rw [putN, if_pos e]; rfl⟩

end Go.Proofs.Ytbhoodhcipegbaa.Wk

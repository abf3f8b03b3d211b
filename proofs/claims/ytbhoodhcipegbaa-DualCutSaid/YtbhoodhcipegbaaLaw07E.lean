/- The law RiceOnce. -/
import Derived.Test.YtbhoodhcipegbaaLaw07
namespace Go.Proofs.Ytbhoodhcipegbaa.Wk
open Go.Proofs Go.RowKit Go.Proofs.Ytbhoodhcipegbaa.Kit Go.Proofs.Ytbhoodhcipegbaa.M01 Go.Proofs.Ytbhoodhcipegbaa.M02 Go.Proofs.Ytbhoodhcipegbaa.M06 Go.Proofs.Ytbhoodhcipegbaa.M07 Go.Proofs.Ytbhoodhcipegbaa.Bt Go.Proofs.Ytbhoodhcipegbaa.R02 Go.Proofs.Ytbhoodhcipegbaa.Un Go.Proofs.Ytbhoodhcipegbaa.R06 Go.Proofs.Ytbhoodhcipegbaa.Ri Go.Proofs.Ytbhoodhcipegbaa.R07
set_option linter.unusedVariables false

theorem rr_err {xs : List Int} {n p k : Int} (hb : isByte xs) (hok : okB xs n = true) (hp : 0 ≤ p) (h0 : 0 ≤ k) (h1 : k ≤ 24) (h : rrE xs n p k ≠ 0) : rrE xs n p k = 24 ∨ (rrE xs n p k = 12 ∧ 80 ≤ n - p) := by
  by_cases hE : rdE xs n p = 0
  · obtain ⟨-, pX, pN, pL⟩ := rd_next hb hok hE
    rw [rrE, if_pos hok, if_neg (by omega), if_neg (by rw [hE]; simp)] at h ⊢
    by_cases hS : n - rdX xs n p < dcM (val xs / p2 p) k
    · rw [if_pos hS]; exact .inl rfl
    · rw [if_neg hS] at h ⊢
      by_cases g : qP (dcN (val xs / p2 p) k) k = cq (val xs / p2 p)
      · rw [if_neg (by simp [g])] at h; exact absurd rfl h
      · rw [if_pos g]
        refine .inr ⟨rfl, ?_⟩
        have h48 : cq (val xs / p2 p) = 48 := by
          by_cases q : cq (val xs / p2 p) = 48
          · exact q
          · exact absurd (dc_q q).1 g
        rw [pX] at hS
        unfold dcM at hS
        rw [h48, bhS_48, runS_48] at hS
        omega
  · have e : rdE xs n p = 24 := by
      unfold rdE at hE ⊢
      rw [if_pos hok, if_neg (by omega)] at hE ⊢
      by_cases q : n ≤ p
      · rw [if_pos q]
      · rw [if_neg q] at hE ⊢
        by_cases q2 : ons xs p < 48 ∧ n ≤ p + ons xs p
        · rw [if_pos q2]
        · rw [if_neg q2] at hE; exact absurd rfl hE
    rw [rrE, if_pos hok, if_neg (by omega), if_pos hE, e]; exact .inl rfl

theorem rr_ok {xs : List Int} {n p k : Int} (hb : isByte xs) (hok : okB xs n = true) (h0 : 0 ≤ k) (h1 : k ≤ 24) (h : rrE xs n p k = 0) :
    isU32 (rrN xs n p k) ∧ p ≤ rrX xs n p k ∧ rrX xs n p k ≤ n ∧ rrX xs n p k - p = cdS (rrN xs n p k) k ∧ val xs / p2 p % p2 (cdS (rrN xs n p k) k) = cdV (rrN xs n p k) k := by
  have eN : rrN xs n p k = dcN (val xs / p2 p) k := by rw [rrN, if_pos h]
  have eX : rrX xs n p k = p + dcS (val xs / p2 p) k := by rw [rrX, if_pos h]
  have hE : rdE xs n p = 0 := by
    by_cases q : rdE xs n p = 0
    · exact q
    · rw [rrE, if_pos hok, if_neg (by omega), if_pos q] at h; exact absurd h q
  obtain ⟨hp, pX, pN, pL⟩ := rd_next hb hok hE
  rw [rrE, if_pos hok, if_neg (by omega), if_neg (by rw [hE]; simp)] at h
  by_cases hS : n - rdX xs n p < dcM (val xs / p2 p) k
  · rw [if_pos hS] at h; omega
  · rw [if_neg hS] at h
    by_cases g : qP (dcN (val xs / p2 p) k) k = cq (val xs / p2 p)
    · obtain ⟨c1, c2⟩ := dc_code h0 h1 g
      have hnb := dcN_bd (X := val xs / p2 p) h0 h1
      have hd : dcS (val xs / p2 p) k = runS (cq (val xs / p2 p)) + dcM (val xs / p2 p) k := rfl
      have hs := runS_bd (cq_bd (val xs / p2 p)).1 (cq_bd (val xs / p2 p)).2
      have hB := bhS_bd (cq (val xs / p2 p)) h0 h1
      have hM : dcM (val xs / p2 p) k = bhS (cq (val xs / p2 p)) k := rfl
      rw [eN, eX, c1, c2]
      exact ⟨⟨hnb.1, hnb.2.1⟩, by omega, by omega, by omega, rfl⟩
    · rw [if_pos g] at h; omega

end Go.Proofs.Ytbhoodhcipegbaa.Wk

/- The law RiceCut. -/
import Derived.Test.YtbhoodhcipegbaaLaw07
namespace Go.Proofs.Ytbhoodhcipegbaa.Wk
open Go.Proofs Go.RowKit Go.Proofs.Ytbhoodhcipegbaa.Kit Go.Proofs.Ytbhoodhcipegbaa.M01 Go.Proofs.Ytbhoodhcipegbaa.M02 Go.Proofs.Ytbhoodhcipegbaa.M06 Go.Proofs.Ytbhoodhcipegbaa.M07 Go.Proofs.Ytbhoodhcipegbaa.Bt Go.Proofs.Ytbhoodhcipegbaa.R02 Go.Proofs.Ytbhoodhcipegbaa.Un Go.Proofs.Ytbhoodhcipegbaa.R06 Go.Proofs.Ytbhoodhcipegbaa.Ri Go.Proofs.Ytbhoodhcipegbaa.R07
set_option linter.unusedVariables false

/-- A code that is cut off is too short. -/
theorem rr_part {v k s : Int} (hv : isU32 v) (h0 : 0 ≤ k) (h1 : k ≤ 24) (s0 : 0 ≤ s) (s1 : s < cdS v k) :
    let L := bl s (cdV v k % p2 s)
    okB L s = true ∧ rrE L s 0 k = 24 ∧ rrN L s 0 k = 0 ∧ rrX L s 0 k = 0 := by
  intro L
  obtain ⟨q0, q1⟩ := qP_bd k hv.1
  have hs := runS_bd q0 q1
  have hB := bhS_bd (qP v k) h0 h1
  have hc := cdS_bd hv.1 h0 h1
  have hS : cdS v k = runS (qP v k) + bhS (qP v k) k := rfl
  have hm := emod_bd (cdV v k) s
  have hL : okB L s = true := ok_bl s0 (by omega) hm.1 hm.2
  have hvL : val L = cdV v k % p2 s := val_bl s0 hm.1 hm.2
  have e : rrE L s 0 k = 24 := by
    by_cases hz : s ≤ 0
    · have eR : rdE L s 0 = 24 := by rw [rdE, if_pos hL, if_neg (by omega), if_pos (by omega)]
      rw [rrE, if_pos hL, if_neg (by omega), if_pos (by rw [eR]; decide), eR]
    · by_cases hr : s < runS (qP v k)
      · -- within the run: all ones
        have hle : s ≤ qP v k := by
          by_cases g : qP v k = 48
          · rw [g, runS_48] at hr; omega
          · rw [runS_lt (by omega)] at hr; omega
        have hX : cdV v k % p2 s = p2 s - 1 := by
          unfold cdV
          obtain ⟨d, hd⟩ : ∃ d, runS (qP v k) = s + d := ⟨runS (qP v k) - s, by omega⟩
          rw [hd, p2_add s0 (by omega), Int.mul_comm (p2 s), ← Int.mul_assoc, Int.add_mul_emod_self_right, ones_mod s0 hle]
        have hon : ons L 0 = s := by
          unfold ons; rw [hvL, hX, p2_zero, Int.ediv_one]
          obtain ⟨j, hj⟩ : ∃ j : Nat, s = j := ⟨s.toNat, by omega⟩
          have := cnt_run j 48 0 (by omega)
          rw [Int.zero_mul, Int.add_zero] at this
          rw [hj, this]
        have h48 : s < 48 := by omega
        have eR : rdE L s 0 = 24 := by rw [rdE, if_pos hL, if_neg (by omega), if_neg (by omega), if_pos (by rw [hon]; omega)]
        rw [rrE, if_pos hL, if_neg (by omega), if_pos (by rw [eR]; decide), eR]
      · -- the run is there
        obtain ⟨d, hd⟩ : ∃ d, s = runS (qP v k) + d := ⟨s - runS (qP v k), by omega⟩
        have hX : ∃ H, cdV v k % p2 s = (p2 (qP v k) - 1) + H * p2 (runS (qP v k)) := by
          refine ⟨lwP v k % p2 d, ?_⟩
          have hrl := run_lt q0 q1
          have hp := p2_pos (runS (qP v k))
          have e1 : cdV v k % p2 (runS (qP v k)) = p2 (qP v k) - 1 := by
            unfold cdV; rw [Int.add_mul_emod_self_right, Int.emod_eq_of_lt hrl.1 hrl.2]
          have e2 : cdV v k / p2 (runS (qP v k)) = lwP v k := by
            unfold cdV; rw [Int.add_mul_ediv_right _ _ (by omega), Int.ediv_eq_zero_of_lt hrl.1 hrl.2, Int.zero_add]
          rw [hd, mod_split (cdV v k) (by omega) (by omega), e1, e2]
        obtain ⟨H, hX⟩ := hX
        have hcq : cq (val L / p2 0) = qP v k := by
          unfold cq; rw [hvL, p2_zero, Int.ediv_one, hX]; exact cnt_runS q0 q1 _
        have hon : ons L 0 = qP v k := hcq
        have eR : rdE L s 0 = 0 := by
          rw [rdE, if_pos hL, if_neg (by omega), if_neg (by omega), if_neg (by rw [hon]; intro g; have := runS_lt g.1; omega)]
        have eX : rdX L s 0 = runS (qP v k) := by rw [rdX, if_pos eR, hon, Int.zero_add]
        rw [rrE, if_pos hL, if_neg (by omega), if_neg (by rw [eR]; simp), if_pos (by rw [eX]; unfold dcM; rw [hcq]; omega)]
  exact ⟨hL, e, by rw [rrN, if_neg (by rw [e]; decide)], by rw [rrX, if_neg (by rw [e]; decide)]⟩

/-- .. and what is behind it does not matter. -/
theorem rr_first {v k : Int} (hv : isU32 v) (h0 : 0 ≤ k) (h1 : k ≤ 24) {ys : List Int} {m : Int} (hy : isByte ys) (hok : okB ys m = true) (hm : m ≤ 500) :
    let V := cdV v k + val ys * p2 (cdS v k)
    let L := bl (cdS v k + m) V
    okB L (cdS v k + m) = true ∧ rrE L (cdS v k + m) 0 k = 0 ∧ rrN L (cdS v k + m) 0 k = v ∧ rrX L (cdS v k + m) 0 k = cdS v k := by
  intro V L
  obtain ⟨hm0, _, _, hlt⟩ := okB_iff.1 hok
  have hs := cdS_bd hv.1 h0 h1
  have hr := cd_bd hv.1 h0 h1
  have hvn := val_nonneg hy
  have hp := p2_pos (cdS v k)
  have hV0 : 0 ≤ V := by have := Int.mul_nonneg hvn (show 0 ≤ p2 (cdS v k) by omega); omega
  have hV1 : V < p2 (cdS v k + m) := join_lt (by omega) hm0 hr.2 hlt
  have hL : okB L (cdS v k + m) = true := ok_bl (by omega) (by omega) hV0 hV1
  have hvL : val L = V := val_bl (by omega) hV0 hV1
  have h := rr_read (n := cdS v k + m) (p := 0) hL (by omega) hv.1 hv.2 h0 h1 (H := val ys) (by rw [hvL, p2_zero, Int.ediv_one]) (by omega)
  rw [Int.zero_add] at h
  exact ⟨hL, h⟩

end Go.Proofs.Ytbhoodhcipegbaa.Wk

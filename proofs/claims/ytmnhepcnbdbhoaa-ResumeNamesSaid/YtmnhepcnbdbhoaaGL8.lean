/- The laws of layer 7: the chapter's examples. The law RiceOnce. The law RiceCut. The laws of layer 8: the chapter's examples. The law DualOnce. The law DualCut. Lists of numbers: codes that are cut off, and zeros. -/
import Derived.Test.YtmnhepcnbdbhoaaLaw06
import Derived.Test.YtmnhepcnbdbhoaaGR7
import Derived.Test.YtmnhepcnbdbhoaaDual3
import Derived.Test.YtmnhepcnbdbhoaaDual5
import Derived.Test.YtmnhepcnbdbhoaaRef08d
import Derived.Test.YtmnhepcnbdbhoaaGR8
import Derived.Test.YtmnhepcnbdbhoaaGM
namespace Go.Proofs.Ytmnhepcnbdbhoaa.Wk
open Go.Proofs Go.RowKit Go.Proofs.Ytmnhepcnbdbhoaa.Kit Go.Proofs.Ytmnhepcnbdbhoaa.M01 Go.Proofs.Ytmnhepcnbdbhoaa.M02 Go.Proofs.Ytmnhepcnbdbhoaa.M06 Go.Proofs.Ytmnhepcnbdbhoaa.M07 Go.Proofs.Ytmnhepcnbdbhoaa.Bt Go.Proofs.Ytmnhepcnbdbhoaa.R02 Go.Proofs.Ytmnhepcnbdbhoaa.Un Go.Proofs.Ytmnhepcnbdbhoaa.R06 Go.Proofs.Ytmnhepcnbdbhoaa.Ri Go.Proofs.Ytmnhepcnbdbhoaa.R07
set_option linter.unusedVariables false

theorem isU32_of {v : Int} (h : 0 ≤ v ∧ v ≤ 4294967295) : isU32 v := h

/-- What Write answers, nothing being there. -/
theorem rw_nil {v k : Int} (hv : isU32 v) (h0 : 0 ≤ k) (h1 : k ≤ 24) : rwE [] 0 v k = 0 ∧ rwL [] 0 v k = bl (cdS v k) (cdV v k) ∧ rwN [] 0 v k = cdS v k ∧ okB (bl (cdS v k) (cdV v k)) (cdS v k) = true ∧ val (bl (cdS v k) (cdV v k)) = cdV v k := by
  have hs := cdS_bd hv.1 h0 h1
  have hl := cd_bd hv.1 h0 h1
  have e : rwE [] 0 v k = 0 := by rw [rwE, if_pos ok_nil, if_neg (by omega), if_neg (by omega)]
  refine ⟨e, ?_, ?_, ok_bl (by omega) (by omega) hl.1 hl.2, val_bl (by omega) hl.1 hl.2⟩
  · rw [rwL, if_pos e, p2_zero, Int.mul_one, Int.zero_add, show val [] = 0 from rfl, Int.zero_add]
  · rw [rwN, if_pos e, Int.zero_add]

end Go.Proofs.Ytmnhepcnbdbhoaa.Wk

namespace Go.Proofs.Ytmnhepcnbdbhoaa.Wk
open Go.Proofs Go.RowKit Go.Proofs.Ytmnhepcnbdbhoaa.Kit Go.Proofs.Ytmnhepcnbdbhoaa.M01 Go.Proofs.Ytmnhepcnbdbhoaa.M02 Go.Proofs.Ytmnhepcnbdbhoaa.M06 Go.Proofs.Ytmnhepcnbdbhoaa.M07 Go.Proofs.Ytmnhepcnbdbhoaa.Bt Go.Proofs.Ytmnhepcnbdbhoaa.R02 Go.Proofs.Ytmnhepcnbdbhoaa.Un Go.Proofs.Ytmnhepcnbdbhoaa.R06 Go.Proofs.Ytmnhepcnbdbhoaa.Ri Go.Proofs.Ytmnhepcnbdbhoaa.R07
set_option linter.unusedVariables false

theorem rr_err {xs : List Int} {n p k : Int} (hb : isByte xs) (hok : okB xs n = true) (hp : 0 ≤ p) (h0 : 0 ≤ k) (h1 : k ≤ 24) (h : rrE xs n p k ≠ 0) : rrE xs n p k = 24 ∨ (rrE xs n p k = 12 ∧ 80 ≤ n - p) := by
  by_cases hE : rdE xs n p = 0
  · obtain ⟨-, pX, pN, pL⟩ := rd_next hb hok hE
    rw [rrE, if_pos hok, if_neg (by omega), if_neg (by rw [hE]; simp)] at h ⊢
    by_cases hS : n - rdX xs n p < dcM (val xs / p2 p) k
    · rw [if_pos hS]; exact .inl rfl
    · rw [if_neg hS] at h ⊢
      by_cases g : qP (dcN (val xs / p2 p) k) k = cq (val xs / p2 p)
      · rw [if_neg (by simp [g])] at h; exact absurd rfl h
      · rw [if_pos g]
        refine .inr ⟨rfl, ?_⟩
        have h48 : cq (val xs / p2 p) = 48 := by
          by_cases q : cq (val xs / p2 p) = 48
          · exact q
          · exact absurd (dc_q q).1 g
        rw [pX] at hS
        unfold dcM at hS
        rw [h48, bhS_48, runS_48] at hS
        omega
  · have e : rdE xs n p = 24 := by
      unfold rdE at hE ⊢
      rw [if_pos hok, if_neg (by omega)] at hE ⊢
      by_cases q : n ≤ p
      · rw [if_pos q]
      · rw [if_neg q] at hE ⊢
        by_cases q2 : ons xs p < 48 ∧ n ≤ p + ons xs p
        · rw [if_pos q2]
        · rw [if_neg q2] at hE; exact absurd rfl hE
    rw [rrE, if_pos hok, if_neg (by omega), if_pos hE, e]; exact .inl rfl

theorem rr_ok {xs : List Int} {n p k : Int} (hb : isByte xs) (hok : okB xs n = true) (h0 : 0 ≤ k) (h1 : k ≤ 24) (h : rrE xs n p k = 0) :
    isU32 (rrN xs n p k) ∧ p ≤ rrX xs n p k ∧ rrX xs n p k ≤ n ∧ rrX xs n p k - p = cdS (rrN xs n p k) k ∧ val xs / p2 p % p2 (cdS (rrN xs n p k) k) = cdV (rrN xs n p k) k := by
  have eN : rrN xs n p k = dcN (val xs / p2 p) k := by rw [rrN, if_pos h]
  have eX : rrX xs n p k = p + dcS (val xs / p2 p) k := by rw [rrX, if_pos h]
  have hE : rdE xs n p = 0 := by
    by_cases q : rdE xs n p = 0
    · exact q
    · rw [rrE, if_pos hok, if_neg (by omega), if_pos q] at h; exact absurd h q
  obtain ⟨hp, pX, pN, pL⟩ := rd_next hb hok hE
  rw [rrE, if_pos hok, if_neg (by omega), if_neg (by rw [hE]; simp)] at h
  by_cases hS : n - rdX xs n p < dcM (val xs / p2 p) k
  · rw [if_pos hS] at h; omega
  · rw [if_neg hS] at h
    by_cases g : qP (dcN (val xs / p2 p) k) k = cq (val xs / p2 p)
    · obtain ⟨c1, c2⟩ := dc_code h0 h1 g
      have hnb := dcN_bd (X := val xs / p2 p) h0 h1
      have hd : dcS (val xs / p2 p) k = runS (cq (val xs / p2 p)) + dcM (val xs / p2 p) k := rfl
      have hs := runS_bd (cq_bd (val xs / p2 p)).1 (cq_bd (val xs / p2 p)).2
      have hB := bhS_bd (cq (val xs / p2 p)) h0 h1
      have hM : dcM (val xs / p2 p) k = bhS (cq (val xs / p2 p)) k := rfl
      rw [eN, eX, c1, c2]
      exact ⟨⟨hnb.1, hnb.2.1⟩, by omega, by omega, by omega, rfl⟩
    · rw [if_pos g] at h; omega

end Go.Proofs.Ytmnhepcnbdbhoaa.Wk

namespace Go.Proofs.Ytmnhepcnbdbhoaa.Wk
open Go.Proofs Go.RowKit Go.Proofs.Ytmnhepcnbdbhoaa.Kit Go.Proofs.Ytmnhepcnbdbhoaa.M01 Go.Proofs.Ytmnhepcnbdbhoaa.M02 Go.Proofs.Ytmnhepcnbdbhoaa.M06 Go.Proofs.Ytmnhepcnbdbhoaa.M07 Go.Proofs.Ytmnhepcnbdbhoaa.Bt Go.Proofs.Ytmnhepcnbdbhoaa.R02 Go.Proofs.Ytmnhepcnbdbhoaa.Un Go.Proofs.Ytmnhepcnbdbhoaa.R06 Go.Proofs.Ytmnhepcnbdbhoaa.Ri Go.Proofs.Ytmnhepcnbdbhoaa.R07
set_option linter.unusedVariables false

/-- A code that is cut off is too short. -/
theorem rr_part {v k s : Int} (hv : isU32 v) (h0 : 0 ≤ k) (h1 : k ≤ 24) (s0 : 0 ≤ s) (s1 : s < cdS v k) :
    let L := bl s (cdV v k % p2 s)
    okB L s = true ∧ rrE L s 0 k = 24 ∧ rrN L s 0 k = 0 ∧ rrX L s 0 k = 0 := by
  intro L
  obtain ⟨q0, q1⟩ := qP_bd k hv.1
  have hs := runS_bd q0 q1
  have hB := bhS_bd (qP v k) h0 h1
  have hc := cdS_bd hv.1 h0 h1
  have hS : cdS v k = runS (qP v k) + bhS (qP v k) k := rfl
  have hm := emod_bd (cdV v k) s
  have hL : okB L s = true := ok_bl s0 (by omega) hm.1 hm.2
  have hvL : val L = cdV v k % p2 s := val_bl s0 hm.1 hm.2
  have e : rrE L s 0 k = 24 := by
    by_cases hz : s ≤ 0
    · have eR : rdE L s 0 = 24 := by rw [rdE, if_pos hL, if_neg (by omega), if_pos (by omega)]
      rw [rrE, if_pos hL, if_neg (by omega), if_pos (by rw [eR]; decide), eR]
    · by_cases hr : s < runS (qP v k)
      · -- within the run: all ones
        have hle : s ≤ qP v k := by
          by_cases g : qP v k = 48
          · rw [g, runS_48] at hr; omega
          · rw [runS_lt (by omega)] at hr; omega
        have hX : cdV v k % p2 s = p2 s - 1 := by
          unfold cdV
          obtain ⟨d, hd⟩ : ∃ d, runS (qP v k) = s + d := ⟨runS (qP v k) - s, by omega⟩
          rw [hd, p2_add s0 (by omega), Int.mul_comm (p2 s), ← Int.mul_assoc, Int.add_mul_emod_self_right, ones_mod s0 hle]
        have hon : ons L 0 = s := by
          unfold ons; rw [hvL, hX, p2_zero, Int.ediv_one]
          obtain ⟨j, hj⟩ : ∃ j : Nat, s = j := ⟨s.toNat, by omega⟩
          have := cnt_run j 48 0 (by omega)
          rw [Int.zero_mul, Int.add_zero] at this
          rw [hj, this]
        have h48 : s < 48 := by omega
        have eR : rdE L s 0 = 24 := by rw [rdE, if_pos hL, if_neg (by omega), if_neg (by omega), if_pos (by rw [hon]; omega)]
        rw [rrE, if_pos hL, if_neg (by omega), if_pos (by rw [eR]; decide), eR]
      · -- the run is there
        obtain ⟨d, hd⟩ : ∃ d, s = runS (qP v k) + d := ⟨s - runS (qP v k), by omega⟩
        have hX : ∃ H, cdV v k % p2 s = (p2 (qP v k) - 1) + H * p2 (runS (qP v k)) := by
          refine ⟨lwP v k % p2 d, ?_⟩
          have hrl := run_lt q0 q1
          have hp := p2_pos (runS (qP v k))
          have e1 : cdV v k % p2 (runS (qP v k)) = p2 (qP v k) - 1 := by
            unfold cdV; rw [Int.add_mul_emod_self_right, Int.emod_eq_of_lt hrl.1 hrl.2]
          have e2 : cdV v k / p2 (runS (qP v k)) = lwP v k := by
            unfold cdV; rw [Int.add_mul_ediv_right _ _ (by omega), Int.ediv_eq_zero_of_lt hrl.1 hrl.2, Int.zero_add]
          rw [hd, mod_split (cdV v k) (by omega) (by omega), e1, e2]
        obtain ⟨H, hX⟩ := hX
        have hcq : cq (val L / p2 0) = qP v k := by
          unfold cq; rw [hvL, p2_zero, Int.ediv_one, hX]; exact cnt_runS q0 q1 _
        have hon : ons L 0 = qP v k := hcq
        have eR : rdE L s 0 = 0 := by
          rw [rdE, if_pos hL, if_neg (by omega), if_neg (by omega), if_neg (by rw [hon]; intro g; have := runS_lt g.1; omega)]
        have eX : rdX L s 0 = runS (qP v k) := by rw [rdX, if_pos eR, hon, Int.zero_add]
        rw [rrE, if_pos hL, if_neg (by omega), if_neg (by rw [eR]; simp), if_pos (by rw [eX]; unfold dcM; rw [hcq]; omega)]
  exact ⟨hL, e, by rw [rrN, if_neg (by rw [e]; decide)], by rw [rrX, if_neg (by rw [e]; decide)]⟩

/-- .. and what is behind it does not matter. -/
theorem rr_first {v k : Int} (hv : isU32 v) (h0 : 0 ≤ k) (h1 : k ≤ 24) {ys : List Int} {m : Int} (hy : isByte ys) (hok : okB ys m = true) (hm : m ≤ 500) :
    let V := cdV v k + val ys * p2 (cdS v k)
    let L := bl (cdS v k + m) V
    okB L (cdS v k + m) = true ∧ rrE L (cdS v k + m) 0 k = 0 ∧ rrN L (cdS v k + m) 0 k = v ∧ rrX L (cdS v k + m) 0 k = cdS v k := by
  intro V L
  obtain ⟨hm0, _, _, hlt⟩ := okB_iff.1 hok
  have hs := cdS_bd hv.1 h0 h1
  have hr := cd_bd hv.1 h0 h1
  have hvn := val_nonneg hy
  have hp := p2_pos (cdS v k)
  have hV0 : 0 ≤ V := by have := Int.mul_nonneg hvn (show 0 ≤ p2 (cdS v k) by omega); omega
  have hV1 : V < p2 (cdS v k + m) := join_lt (by omega) hm0 hr.2 hlt
  have hL : okB L (cdS v k + m) = true := ok_bl (by omega) (by omega) hV0 hV1
  have hvL : val L = V := val_bl (by omega) hV0 hV1
  have h := rr_read (n := cdS v k + m) (p := 0) hL (by omega) hv.1 hv.2 h0 h1 (H := val ys) (by rw [hvL, p2_zero, Int.ediv_one]) (by omega)
  rw [Int.zero_add] at h
  exact ⟨hL, h⟩

end Go.Proofs.Ytmnhepcnbdbhoaa.Wk

namespace Go.Proofs.Ytmnhepcnbdbhoaa.Wk
open Go.Proofs Go.RowKit Go.Proofs.Ytmnhepcnbdbhoaa.Kit Go.Proofs.Ytmnhepcnbdbhoaa.M01 Go.Proofs.Ytmnhepcnbdbhoaa.M02 Go.Proofs.Ytmnhepcnbdbhoaa.M06 Go.Proofs.Ytmnhepcnbdbhoaa.M07 Go.Proofs.Ytmnhepcnbdbhoaa.M08 Go.Proofs.Ytmnhepcnbdbhoaa.Bt Go.Proofs.Ytmnhepcnbdbhoaa.R02 Go.Proofs.Ytmnhepcnbdbhoaa.Un Go.Proofs.Ytmnhepcnbdbhoaa.R06 Go.Proofs.Ytmnhepcnbdbhoaa.Ri Go.Proofs.Ytmnhepcnbdbhoaa.R07 Go.Proofs.Ytmnhepcnbdbhoaa.Du Go.Proofs.Ytmnhepcnbdbhoaa.R08
set_option linter.unusedVariables false

theorem isD_small {d : D4} (h : (0 ≤ d.a ∧ d.a ≤ 100) ∧ (0 ≤ d.b ∧ d.b ≤ 100) ∧ (0 ≤ d.s ∧ d.s ≤ 68719476735) ∧ (0 ≤ d.t ∧ d.t ≤ 68719476735)) : isD d := by unfold isD; omega
theorem isD_st : isD stD := by unfold stD isD; decide
theorem isU_of {v : Int} (h : 0 ≤ v ∧ v ≤ 4294967295) : isU v := h

end Go.Proofs.Ytmnhepcnbdbhoaa.Wk

namespace Go.Proofs.Ytmnhepcnbdbhoaa.Wk
open Go.Proofs Go.RowKit Go.Proofs.Ytmnhepcnbdbhoaa.Kit Go.Proofs.Ytmnhepcnbdbhoaa.M01 Go.Proofs.Ytmnhepcnbdbhoaa.M02 Go.Proofs.Ytmnhepcnbdbhoaa.M06 Go.Proofs.Ytmnhepcnbdbhoaa.M07 Go.Proofs.Ytmnhepcnbdbhoaa.M08 Go.Proofs.Ytmnhepcnbdbhoaa.Bt Go.Proofs.Ytmnhepcnbdbhoaa.R02 Go.Proofs.Ytmnhepcnbdbhoaa.Un Go.Proofs.Ytmnhepcnbdbhoaa.R06 Go.Proofs.Ytmnhepcnbdbhoaa.Ri Go.Proofs.Ytmnhepcnbdbhoaa.R07 Go.Proofs.Ytmnhepcnbdbhoaa.Du Go.Proofs.Ytmnhepcnbdbhoaa.R08
set_option linter.unusedVariables false

theorem dw_nil {d : D4} {v : Int} (h : okD d = true) (hv : isU v) : dwE [] 0 d v = 0 ∧ dwL [] 0 d v = bl (duS d v) (duV d v) ∧ dwN [] 0 d v = duS d v ∧ dwD [] 0 d v = learnD d v ∧ okB (bl (duS d v) (duV d v)) (duS d v) = true ∧ val (bl (duS d v) (duV d v)) = duV d v := by
  have hs := duS_bd h hv
  have hl := duV_bd h hv
  have e : dwE [] 0 d v = 0 := by unfold dwE; rw [if_pos ⟨ok_nil, h⟩, if_neg (by omega)]
  refine ⟨e, ?_, ?_, ?_, ok_bl (by omega) (by omega) hl.1 hl.2, val_bl (by omega) hl.1 hl.2⟩
  · unfold dwL; rw [if_pos e, p2_zero, Int.mul_one, Int.zero_add, show val [] = 0 from rfl, Int.zero_add]
  · unfold dwN; rw [if_pos e, Int.zero_add]
  · unfold dwD; rw [if_pos e]

theorem dr_err {xs : List Int} {n p : Int} {d : D4} (hb : isByte xs) (hok : okB xs n = true) (hd : okD d = true) (hp : 0 ≤ p) (h : drE xs n p d ≠ 0) : drE xs n p d = 24 ∨ (drE xs n p d = 12 ∧ 81 ≤ n - p) := by
  obtain ⟨a0, a1, b0, b1, s1, t1⟩ := okD_iff.1 hd
  have hand : okB xs n = true ∧ okD d = true := ⟨hok, hd⟩
  by_cases h1 : n ≤ p
  · left; unfold drE; rw [if_pos hand, if_neg (show ¬ p < 0 by omega), if_pos h1]
  by_cases h3 : val xs / p2 p % 2 = 0
  · have e : drE xs n p d = if n - p - 1 < d.a then 24 else 0 := by unfold drE; rw [if_pos hand, if_neg (show ¬ p < 0 by omega), if_neg h1, if_pos h3]
    by_cases h4 : n - p - 1 < d.a
    · left; rw [e, if_pos h4]
    · rw [e, if_neg h4] at h; exact absurd rfl h
  · have e : drE xs n p d = if rrE xs n (p + 1) d.b ≠ 0 then rrE xs n (p + 1) d.b else if 4294967295 < rrN xs n (p + 1) d.b + p2 d.a then 12 else 0 := by unfold drE; rw [if_pos hand, if_neg (show ¬ p < 0 by omega), if_neg h1, if_neg h3]
    by_cases hr : rrE xs n (p + 1) d.b = 0
    · rw [if_neg (by rw [hr]; simp)] at e
      by_cases hg : 4294967295 < rrN xs n (p + 1) d.b + p2 d.a
      · right
        rw [e, if_pos hg]
        refine ⟨rfl, ?_⟩
        obtain ⟨q1, q2, q3, q4, q5⟩ := rr_ok hb hok b0 b1 hr
        have hp2 := p2_24le a1
        -- a number as great as that has an escape
        have h48 : qP (rrN xs n (p + 1) d.b) d.b = 48 := by
          have hw := (lw_val (k := d.b) q1.1 q1.2).2
          have hl := lw_bd (rrN xs n (p + 1) d.b) d.b
          have hq := qP_bd d.b q1.1
          have hb24 := p2_24le b1
          have hbp := p2_pos d.b
          by_cases g : qP (rrN xs n (p + 1) d.b) d.b = 48
          · exact g
          · exfalso
            have hB : bhS (qP (rrN xs n (p + 1) d.b) d.b) d.b = d.b := bhS_lt _ (by omega)
            rw [hB] at hl
            have hm : qP (rrN xs n (p + 1) d.b) d.b * p2 d.b ≤ 47 * p2 d.b := Int.mul_le_mul_of_nonneg_right (by omega) (by omega)
            have := (hw g).1
            omega
        have hS : cdS (rrN xs n (p + 1) d.b) d.b = 80 := by unfold cdS; rw [h48, runS_48, bhS_48]; rfl
        omega
      · rw [e, if_neg hg] at h; exact absurd rfl h
    · rw [if_pos hr] at e
      rcases rr_err hb hok (by omega) b0 b1 hr with g | ⟨g, g2⟩
      · left; rw [e, g]
      · right; rw [e, g]; exact ⟨rfl, by omega⟩

end Go.Proofs.Ytmnhepcnbdbhoaa.Wk

namespace Go.Proofs.Ytmnhepcnbdbhoaa.Wk
open Go.Proofs Go.RowKit Go.Proofs.Ytmnhepcnbdbhoaa.Kit Go.Proofs.Ytmnhepcnbdbhoaa.M01 Go.Proofs.Ytmnhepcnbdbhoaa.M02 Go.Proofs.Ytmnhepcnbdbhoaa.M06 Go.Proofs.Ytmnhepcnbdbhoaa.M07 Go.Proofs.Ytmnhepcnbdbhoaa.M08 Go.Proofs.Ytmnhepcnbdbhoaa.Bt Go.Proofs.Ytmnhepcnbdbhoaa.R02 Go.Proofs.Ytmnhepcnbdbhoaa.Un Go.Proofs.Ytmnhepcnbdbhoaa.R06 Go.Proofs.Ytmnhepcnbdbhoaa.Ri Go.Proofs.Ytmnhepcnbdbhoaa.R07 Go.Proofs.Ytmnhepcnbdbhoaa.Du Go.Proofs.Ytmnhepcnbdbhoaa.R08
set_option linter.unusedVariables false

theorem rr_shift {xs ys : List Int} {n m p q k : Int} (hx : okB xs n = true) (hy : okB ys m = true) (hp : 0 ≤ p) (hq : 0 ≤ q) (hn : n - p = m - q) (hv : val xs / p2 p = val ys / p2 q) : rrE xs n p k = rrE ys m q k := by
  have ho : ons xs p = ons ys q := by unfold ons; rw [hv]
  have hE : rdE xs n p = rdE ys m q := by
    unfold rdE
    rw [if_pos hx, if_pos hy, ho, if_neg (show ¬ p < 0 by omega), if_neg (show ¬ q < 0 by omega)]
    by_cases h1 : n ≤ p
    · rw [if_pos h1, if_pos (show m ≤ q by omega)]
    · rw [if_neg h1, if_neg (show ¬ m ≤ q by omega)]
      by_cases h2 : ons ys q < 48 ∧ n ≤ p + ons ys q
      · rw [if_pos h2, if_pos (show ons ys q < 48 ∧ m ≤ q + ons ys q by omega)]
      · rw [if_neg h2, if_neg (show ¬ (ons ys q < 48 ∧ m ≤ q + ons ys q) by omega)]
  unfold rrE
  rw [if_pos hx, if_pos hy]
  by_cases hk : k < 0 ∨ 24 < k
  · rw [if_pos hk, if_pos hk]
  rw [if_neg hk, if_neg hk]
  by_cases hz : rdE ys m q = 0
  · have e1 : rdX xs n p = p + runS (ons ys q) := by rw [rdX, if_pos (by rw [hE]; exact hz), ho]
    have e2 : rdX ys m q = q + runS (ons ys q) := by rw [rdX, if_pos hz]
    have t1 : n - rdX xs n p = m - rdX ys m q := by rw [e1, e2]; omega
    rw [hE, t1, hv]
  · rw [if_pos (by rw [hE]; exact hz), if_pos hz, hE]

/-- A code that is cut off is too short. -/
theorem dr_part {d : D4} {v s : Int} (h : okD d = true) (hv : isU v) (s0 : 0 ≤ s) (s1 : s < duS d v) :
    let L := bl s (duV d v % p2 s)
    okB L s = true ∧ drE L s 0 d = 24 ∧ drN L s 0 d = 0 ∧ drX L s 0 d = 0 ∧ drD L s 0 d = zD := by
  intro L
  obtain ⟨a0, a1, b0, b1, _, _⟩ := okD_iff.1 h
  have hS := duS_bd h hv
  have hm := emod_bd (duV d v) s
  have hL : okB L s = true := ok_bl s0 (by omega) hm.1 hm.2
  have hvL : val L = duV d v % p2 s := val_bl s0 hm.1 hm.2
  have e : drE L s 0 d = 24 := by
    unfold drE
    rw [if_pos ⟨hL, h⟩, if_neg (show ¬ (0 : Int) < 0 by omega)]
    by_cases hz : s ≤ 0
    · rw [if_pos hz]
    rw [if_neg hz, hvL, p2_zero, Int.ediv_one]
    obtain ⟨t, ht⟩ : ∃ t, s = 1 + t := ⟨s - 1, by omega⟩
    have hmod : duV d v % p2 s = duV d v % 2 + duV d v / 2 % p2 t * 2 := by
      rw [ht, mod_split (duV d v) (by omega) (by omega), p2_1]
    have htb := emod_bd (duV d v / 2) t
    by_cases hl : v < p2 d.a
    · have e0 : duV d v % 2 = 0 := by unfold duV; rw [if_pos hl]; omega
      have hSS := hS.2.2.2 hl
      rw [if_pos (by omega), if_pos (by omega)]
    · have e0 : duV d v = 1 + cdV (v - p2 d.a) d.b * 2 := by unfold duV; rw [if_neg hl]
      have e1 : duV d v / 2 = cdV (v - p2 d.a) d.b := by omega
      have hSS : duS d v = 1 + cdS (v - p2 d.a) d.b := by unfold duS; rw [if_neg hl]
      have hu := left_bd hv hl
      obtain ⟨pK, pE, _, _⟩ := rr_part (v := v - p2 d.a) (k := d.b) (s := t) hu b0 b1 (by omega) (by omega)
      have hvt : val (bl t (cdV (v - p2 d.a) d.b % p2 t)) = cdV (v - p2 d.a) d.b % p2 t := by rw [← e1]; exact val_bl (by omega) htb.1 htb.2
      have hr : rrE L s (0 + 1) d.b = 24 := by
        rw [← pE]
        refine rr_shift hL pK (by omega) (by omega) (by omega) ?_
        rw [hvL, hvt, hmod, Int.zero_add, p2_1, p2_zero, Int.ediv_one, e1]; omega
      rw [if_neg (by omega), hr, if_pos (by decide)]
  exact ⟨hL, e, by rw [drN, if_neg (by rw [e]; decide)], by rw [drX, if_neg (by rw [e]; decide)], by rw [drD, if_neg (by rw [e]; decide)]⟩

/-- .. and what is behind it does not matter. -/
theorem dr_first {d : D4} {v : Int} (h : okD d = true) (hv : isU v) {ys : List Int} {m : Int} (hy : isByte ys) (hok : okB ys m = true) (hm : m ≤ 500) :
    let V := duV d v + val ys * p2 (duS d v)
    let L := bl (duS d v + m) V
    okB L (duS d v + m) = true ∧ drE L (duS d v + m) 0 d = 0 ∧ drN L (duS d v + m) 0 d = v ∧ drX L (duS d v + m) 0 d = duS d v ∧ drD L (duS d v + m) 0 d = learnD d v := by
  intro V L
  obtain ⟨hm0, _, _, hlt⟩ := okB_iff.1 hok
  have hs := duS_bd h hv
  have hr := duV_bd h hv
  have hvn := val_nonneg hy
  have hp := p2_pos (duS d v)
  have hV0 : 0 ≤ V := by have := Int.mul_nonneg hvn (show 0 ≤ p2 (duS d v) by omega); omega
  have hV1 : V < p2 (duS d v + m) := join_lt (by omega) hm0 hr.2 hlt
  have hL : okB L (duS d v + m) = true := ok_bl (by omega) (by omega) hV0 hV1
  have hvL : val L = V := val_bl (by omega) hV0 hV1
  have hh := dr_read (n := duS d v + m) (p := 0) hL h (by omega) hv (H := val ys) (by rw [hvL, p2_zero, Int.ediv_one]) (by omega)
  rw [Int.zero_add] at hh
  exact ⟨hL, hh⟩

end Go.Proofs.Ytmnhepcnbdbhoaa.Wk

namespace Go.Proofs.Ytmnhepcnbdbhoaa.M09
open Go.Proofs.Ytmnhepcnbdbhoaa.M01 Go.Proofs.Ytmnhepcnbdbhoaa.M02 Go.Proofs.Ytmnhepcnbdbhoaa.M06 Go.Proofs.Ytmnhepcnbdbhoaa.M07 Go.Proofs.Ytmnhepcnbdbhoaa.M08 Go.Proofs.Ytmnhepcnbdbhoaa.MP Go.Proofs.Ytmnhepcnbdbhoaa.Wk
set_option linter.unusedVariables false

/-- Reading sees what is left alone. -/
theorem dr_shift {xs ys : List Int} {n m p q : Int} {d : D4} (hx : okB xs n = true) (hy : okB ys m = true) (hp : 0 ≤ p) (hq : 0 ≤ q) (hn : n - p = m - q) (hv : val xs / p2 p = val ys / p2 q) : drE xs n p d = drE ys m q d := by
  unfold drE
  by_cases hd : okD d = true
  case neg => rw [if_neg (fun h => hd h.2), if_neg (fun h => hd h.2)]
  rw [if_pos (And.intro hx hd), if_pos (And.intro hy hd), if_neg (show ¬ p < 0 by omega), if_neg (show ¬ q < 0 by omega), hv]
  have hv1 : val xs / p2 (p + 1) = val ys / p2 (q + 1) := by rw [next_val hp, next_val hq, hv]
  have e1 : rrE xs n (p + 1) d.b = rrE ys m (q + 1) d.b := rr_shift hx hy (by omega) (by omega) (by omega) hv1
  by_cases h1 : n ≤ p
  · rw [if_pos h1, if_pos (show m ≤ q by omega)]
  rw [if_neg h1, if_neg (show ¬ m ≤ q by omega)]
  by_cases h2 : val ys / p2 q % 2 = 0
  · rw [if_pos h2, if_pos h2, hn]
  rw [if_neg h2, if_neg h2, e1]
  by_cases h3 : rrE ys m (q + 1) d.b = 0
  · have e2 : rrN xs n (p + 1) d.b = rrN ys m (q + 1) d.b := by unfold rrN; rw [e1, hv1]
    rw [e2]
  · rw [if_pos h3, if_pos h3]

/-- A code that is cut off: the first ones are read, the next one is too short. -/
theorem rd_cut {xs : List Int} {n : Int} (hok : okB xs n = true) (l : List Int) : ∀ (p : Int) (d : D4) (k : Nat), okD d = true → isD d → 0 ≤ p → p ≤ n → okV l → n - p < pS (pcd d l) → val xs / p2 p = pV (pcd d l) % p2 (n - p) → k ≤ l.length →
    (pS (pcd d (l.take k)) ≤ n - p → rdE xs n k p d = 0 ∧ rdL xs n k p d = l.take k ∧ rdP xs n k p d = p + pS (pcd d (l.take k))) ∧ (n - p < pS (pcd d (l.take k)) → rdE xs n k p d = 24) := by
  induction l with
  | nil => intro p d k _ _ _ hpn _ h; rw [pcd, pS] at h; omega
  | cons v l ih =>
    intro p d k hd hi hp hpn hl hlt hX hk
    cases k with
    | zero => exact ⟨fun _ => ⟨rfl, rfl, by simp [rdP, pcd, pS]⟩, fun h => by rw [List.take_zero, pcd, pS] at h; omega⟩
    | succ k =>
      have hv := hl v (by simp)
      have hl' : okV l := fun x hx => hl x (by simp [hx])
      obtain ⟨t1, t2⟩ := learn_ok hi hd hv
      have hpo := pcd_ok t2 t1 hl'
      have hpo2 := pcd_ok t2 t1 (okV_take hl' k)
      have hs := duS_bd hd hv
      have hb := duV_bd hd hv
      have hS := pS_bd (m := 81) (by omega) _ hpo
      have hS2 := pS_bd (m := 81) (by omega) _ hpo2
      have hV := pV_bd (m := 81) (by omega) _ hpo
      rw [pcd, pV] at hX
      rw [pcd, pS] at hlt
      simp only at hX hlt
      rw [List.take_succ_cons, pcd, pS, rdE, rdL, rdP]
      simp only
      by_cases hsh : duS d v ≤ n - p
      · have hm : val xs / p2 p = duV d v + pV (pcd (learnD d v) l) % p2 (n - p - duS d v) * p2 (duS d v) := by
          have e := mod_split (duV d v + pV (pcd (learnD d v) l) * p2 (duS d v)) (show 0 ≤ duS d v by omega) (show 0 ≤ n - p - duS d v by omega)
          rw [show duS d v + (n - p - duS d v) = n - p by omega] at e
          have hq2 := p2_pos (duS d v)
          rw [hX, e, Int.add_mul_emod_self_right, Int.emod_eq_of_lt hb.1 hb.2, Int.add_mul_ediv_right _ _ (by omega), Int.ediv_eq_zero_of_lt hb.1 hb.2, Int.zero_add]
        obtain ⟨r1, r2, r3, r4⟩ := dr_read hok hd hp hv hm (by omega)
        have hnext : val xs / p2 (p + duS d v) = pV (pcd (learnD d v) l) % p2 (n - (p + duS d v)) := by
          have hq := p2_pos p
          have hq2 := p2_pos (duS d v)
          rw [p2_add hp (by omega), ← Int.ediv_ediv_of_nonneg (by omega), hm, Int.add_mul_ediv_right _ _ (by omega), Int.ediv_eq_zero_of_lt hb.1 hb.2, Int.zero_add, show n - (p + duS d v) = n - p - duS d v by omega]
        obtain ⟨i1, i2⟩ := ih (p + duS d v) (learnD d v) k t1 t2 (by omega) (by omega) hl' (by omega) hnext (by simpa using hk)
        rw [if_pos r1, r2, r3, r4]
        refine ⟨fun h => ?_, fun h => i2 (by omega)⟩
        obtain ⟨j1, j2, j3⟩ := i1 (by omega)
        exact ⟨j1, by rw [j2], by rw [j3]; omega⟩
      · obtain ⟨p1, p2', _, _, _⟩ := dr_part (v := v) hd hv (show 0 ≤ n - p by omega) (by omega)
        have hmm : val xs / p2 p = duV d v % p2 (n - p) := by
          rw [hX]
          have e : p2 (duS d v) = p2 (n - p) * p2 (duS d v - (n - p)) := by rw [← p2_add (by omega) (by omega)]; congr 1; omega
          rw [e, ← Int.mul_assoc, Int.mul_comm (pV _), Int.mul_assoc, Int.add_mul_emod_self_left]
        have hbd := emod_bd (duV d v) (n - p)
        have hval : val (bl (n - p) (duV d v % p2 (n - p))) = duV d v % p2 (n - p) := val_bl (by omega) hbd.1 hbd.2
        have e24 : drE xs n p d = 24 := by
          rw [← p2']
          exact dr_shift hok p1 hp (by omega) (by omega) (by rw [hval, p2_zero, Int.ediv_one]; exact hmm)
        rw [if_neg (by rw [e24]; decide), e24]
        exact ⟨fun h => by omega, fun _ => rfl⟩

/-- The first bits of a list's code. -/
theorem de_cut {l : List Int} {left : Int} {k : Nat} (hl : okV l) (hlen : l.length ≤ 4000) (h0 : 0 ≤ left) (h1 : left < jN 0 (pcd stD l)) (hk : k ≤ l.length) :
    let xs := bl left (jV 0 0 (pcd stD l) % p2 left)
    okB xs left = true ∧ (jN 0 (pcd stD (l.take k)) ≤ left → deE xs left k = 0 ∧ deL xs left k = l.take k ∧ deX xs left k = jN 0 (pcd stD (l.take k))) ∧ (left < jN 0 (pcd stD (l.take k)) → deE xs left k = 24 ∧ deL xs left k = [] ∧ deX xs left k = 0) := by
  intro xs
  obtain ⟨hpo, b1, b2, b3, b4, b5, b6, b7, b8⟩ := code_bd hl hlen
  obtain ⟨_, _, _, _, _, _, _, c7, _⟩ := code_bd (okV_take hl k) (by rw [List.length_take]; omega)
  have hm := emod_bd (jV 0 0 (pcd stD l)) left
  have hok : okB xs left = true := ok_bl h0 (by omega) hm.1 hm.2
  have hval : val xs = jV 0 0 (pcd stD l) % p2 left := val_bl h0 hm.1 hm.2
  obtain ⟨r1, r2⟩ := rd_cut hok l 0 stD k okD_st isD_st' (by omega) h0 hl (by omega) (by rw [p2_zero, Int.ediv_one, hval, b8, Int.sub_zero]) hk
  have ek : ((k : Nat) : Int).toNat = k := rfl
  refine ⟨hok, fun h => ?_, fun h => ?_⟩
  · obtain ⟨e1, e2, e3⟩ := r1 (by omega)
    have e : deE xs left k = 0 := by rw [deE, if_pos hok, if_neg (by omega), if_neg (by omega), ek]; exact e1
    exact ⟨e, by rw [deL, if_pos e, ek]; exact e2, by rw [deX, if_pos e, ek, e3, c7]; omega⟩
  · have e : deE xs left k = 24 := by rw [deE, if_pos hok, if_neg (by omega), if_neg (by omega), ek]; exact r2 (by omega)
    exact ⟨e, by rw [deL, if_neg (by rw [e]; decide)], by rw [deX, if_neg (by rw [e]; decide)]⟩

/-- Too few bits, or a wrong code. -/
theorem rd_err {xs : List Int} {n : Int} (hby : isByte xs) (hok : okB xs n = true) (k : Nat) : ∀ (p : Int) (d : D4), okD d = true → isD d → 0 ≤ p → rdE xs n k p d = 0 ∨ rdE xs n k p d = 24 ∨ rdE xs n k p d = 12 := by
  induction k with
  | zero => intro p d _ _ _; exact .inl rfl
  | succ k ih =>
    intro p d hd hi hp
    rw [rdE]
    by_cases h0 : drE xs n p d = 0
    · rw [if_pos h0]
      obtain ⟨o1, o2, o3, o4, o5, o6, o7, o8⟩ := dr_once hby h0
      obtain ⟨t1, t2⟩ := learn_ok hi hd o4
      have hs := duS_bd hd o4
      rw [o5, o8]
      exact ih _ _ t1 t2 (by omega)
    · rw [if_neg h0]
      rcases dr_err hby hok hd hp h0 with h | h
      · exact .inr (.inl h)
      · exact .inr (.inr h.1)
theorem de_err {xs : List Int} {n m : Int} (hby : isByte xs) (hok : okB xs n = true) (h0 : 0 ≤ m) (h1 : m ≤ 4000) (h : deE xs n m ≠ 0) : (deE xs n m = 24 ∨ deE xs n m = 12) ∧ deL xs n m = [] ∧ deX xs n m = 0 := by
  refine ⟨?_, by rw [deL, if_neg h], by rw [deX, if_neg h]⟩
  have e : deE xs n m = rdE xs n m.toNat 0 stD := by rw [deE, if_pos hok, if_neg (by omega), if_neg (by omega)]
  rw [e] at h ⊢
  rcases rd_err hby hok m.toNat 0 stD okD_st isD_st' (by omega) with h2 | h2
  · exact absurd h2 h
  · exact h2
end Go.Proofs.Ytmnhepcnbdbhoaa.M09

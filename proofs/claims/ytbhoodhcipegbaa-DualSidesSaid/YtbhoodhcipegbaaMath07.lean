/- Plain facts on Rice codes: what the code of a number is, and what is read of bits. No Go here. -/
import Derived.Test.YtbhoodhcipegbaaMath06
namespace Go.Proofs.Ytbhoodhcipegbaa.M07
open Go.Proofs.Ytbhoodhcipegbaa.M01 Go.Proofs.Ytbhoodhcipegbaa.M02 Go.Proofs.Ytbhoodhcipegbaa.M06
set_option linter.unusedVariables false

/-- The run of a number's code, how many bits are behind it, these, and the code. -/
def qP (v k : Int) : Int := min 48 (v / p2 k)
def bhS (q k : Int) : Int := if q = 48 then 32 else k
def cdS (v k : Int) : Int := runS (qP v k) + bhS (qP v k) k
def lwP (v k : Int) : Int := v % p2 (bhS (qP v k) k)
def cdV (v k : Int) : Int := (p2 (qP v k) - 1) + lwP v k * p2 (runS (qP v k))

theorem p2_32 : p2 32 = 4294967296 := by decide +kernel
theorem p2_24 : p2 24 = 16777216 := by decide +kernel

theorem qP_bd {v : Int} (k : Int) (h : 0 ≤ v) : 0 ≤ qP v k ∧ qP v k ≤ 48 := by
  have := Int.ediv_nonneg h (show 0 ≤ p2 k by have := p2_pos k; omega)
  unfold qP; omega
theorem bhS_bd {k : Int} (q : Int) (h0 : 0 ≤ k) (h1 : k ≤ 24) : 0 ≤ bhS q k ∧ bhS q k ≤ 32 ∧ k ≤ bhS q k := by unfold bhS; split <;> omega
theorem bhS_48 (k : Int) : bhS 48 k = 32 := rfl
theorem bhS_lt {q : Int} (k : Int) (h : q < 48) : bhS q k = k := by unfold bhS; rw [if_neg (by omega)]
theorem cdS_bd {v k : Int} (h : 0 ≤ v) (h0 : 0 ≤ k) (h1 : k ≤ 24) : k + 1 ≤ cdS v k ∧ cdS v k ≤ 80 ∧ runS (qP v k) ≤ cdS v k := by
  obtain ⟨q0, q1⟩ := qP_bd k h
  have := runS_bd q0 q1
  have := bhS_bd (qP v k) h0 h1
  unfold cdS
  by_cases e : qP v k = 48
  · rw [e, runS_48, bhS_48]; omega
  · rw [bhS_lt k (by omega), runS_lt (by omega)]; omega
theorem lw_bd (v k : Int) : 0 ≤ lwP v k ∧ lwP v k < p2 (bhS (qP v k) k) := emod_bd _ _
theorem cd_bd {v k : Int} (h : 0 ≤ v) (h0 : 0 ≤ k) (h1 : k ≤ 24) : 0 ≤ cdV v k ∧ cdV v k < p2 (cdS v k) := by
  obtain ⟨q0, q1⟩ := qP_bd k h
  have hr := run_lt q0 q1
  have hs := runS_bd q0 q1
  have hb := bhS_bd (qP v k) h0 h1
  have hl := lw_bd v k
  have hp := p2_pos (runS (qP v k))
  have := Int.mul_nonneg hl.1 (show 0 ≤ p2 (runS (qP v k)) by omega)
  unfold cdV cdS
  exact ⟨by omega, join_lt (by omega) hb.1 hr.2 hl.2⟩

/-- The number, out of its run and the bits behind. -/
theorem lw_val {v k : Int} (h : 0 ≤ v) (hv : v ≤ 4294967295) : (qP v k = 48 → lwP v k = v) ∧ (qP v k ≠ 48 → qP v k * p2 k + lwP v k = v ∧ qP v k = v / p2 k) := by
  have hp := p2_pos k
  refine ⟨fun e => ?_, fun e => ?_⟩
  · unfold lwP; rw [e, bhS_48, p2_32, Int.emod_eq_of_lt h (by omega)]
  · have hq : qP v k = v / p2 k := by unfold qP at e ⊢; omega
    have hb : bhS (qP v k) k = k := by unfold bhS; rw [if_neg e]
    refine ⟨?_, hq⟩
    unfold lwP; rw [hb, hq, Int.mul_comm]
    have := Int.emod_add_mul_ediv v (p2 k); omega

/-- Length's answer. -/
def rlE (k : Int) : Int := if k < 0 ∨ 24 < k then 2 else 0
def rlN (v k : Int) : Int := if k < 0 ∨ 24 < k then 0 else cdS v k
/-- Write's answers. -/
def rwE (xs : List Int) (n v k : Int) : Int := if okB xs n then (if k < 0 ∨ 24 < k then 2 else if 330000 < n + cdS v k then 18 else 0) else 8
def rwL (xs : List Int) (n v k : Int) : List Int := if rwE xs n v k = 0 then bl (n + cdS v k) (val xs + cdV v k * p2 n) else []
def rwN (xs : List Int) (n v k : Int) : Int := if rwE xs n v k = 0 then n + cdS v k else 0
/-- What is read of a number whose lowest bits begin with a code. -/
def cq (X : Int) : Int := (cnt X 48 : Nat)
def dcM (X k : Int) : Int := bhS (cq X) k
def dcG (X k : Int) : Int := X / p2 (runS (cq X)) % p2 (dcM X k)
def dcN (X k : Int) : Int := if cq X = 48 then dcG X k else cq X * p2 k + dcG X k
def dcS (X k : Int) : Int := runS (cq X) + dcM X k
/-- Read's answers. -/
def rrE (xs : List Int) (n p k : Int) : Int :=
  if okB xs n then (if k < 0 ∨ 24 < k then 2 else if rdE xs n p ≠ 0 then rdE xs n p else if n - rdX xs n p < dcM (val xs / p2 p) k then 24 else if qP (dcN (val xs / p2 p) k) k ≠ cq (val xs / p2 p) then 12 else 0) else 8
def rrN (xs : List Int) (n p k : Int) : Int := if rrE xs n p k = 0 then dcN (val xs / p2 p) k else 0
def rrX (xs : List Int) (n p k : Int) : Int := if rrE xs n p k = 0 then p + dcS (val xs / p2 p) k else 0

theorem cq_bd (X : Int) : 0 ≤ cq X ∧ cq X ≤ 48 := by
  have := cnt_le 48 X
  unfold cq; omega
theorem ons_cq (xs : List Int) (p : Int) : ons xs p = cq (val xs / p2 p) := rfl

/-- What Write does: the run, and then the bits behind it. -/
theorem rw_put {xs : List Int} {n v k : Int} (hb : isByte xs) (hok : okB xs n = true) (h : 0 ≤ v) (h0 : 0 ≤ k) (h1 : k ≤ 24) :
    (wrE xs n (qP v k) ≠ 0 → wrE xs n (qP v k) = 18 ∧ rwE xs n v k = 18) ∧
    (wrE xs n (qP v k) = 0 → putE (wrL xs n (qP v k)) (wrN xs n (qP v k)) (lwP v k) (bhS (qP v k) k) = rwE xs n v k ∧ putL (wrL xs n (qP v k)) (wrN xs n (qP v k)) (lwP v k) (bhS (qP v k) k) = rwL xs n v k ∧ putN (wrL xs n (qP v k)) (wrN xs n (qP v k)) (lwP v k) (bhS (qP v k) k) = rwN xs n v k) := by
  obtain ⟨q0, q1⟩ := qP_bd k h
  have hs := runS_bd q0 q1
  have hr := run_lt q0 q1
  have hB := bhS_bd (qP v k) h0 h1
  have hl := lw_bd v k
  have hc := cdS_bd h h0 h1
  obtain ⟨n0, n1, _, hlt⟩ := okB_iff.1 hok
  have hv := val_nonneg hb
  have eq1 : rwE xs n v k = if 330000 < n + cdS v k then 18 else 0 := by unfold rwE; rw [if_pos hok, if_neg (by omega)]
  have eq2 : wrE xs n (qP v k) = if 330000 < n + runS (qP v k) then 18 else 0 := by unfold wrE; rw [if_pos hok, if_neg (by omega)]
  refine ⟨fun he => ?_, fun he => ?_⟩
  · rw [eq2] at he ⊢
    have hg : 330000 < n + runS (qP v k) := by by_cases g : 330000 < n + runS (qP v k); exact g; rw [if_neg g] at he; exact absurd rfl he
    rw [if_pos hg, eq1, if_pos (by omega)]; exact ⟨rfl, rfl⟩
  · have hg : ¬ 330000 < n + runS (qP v k) := by intro g; rw [eq2, if_pos g] at he; omega
    have eL : wrL xs n (qP v k) = bl (n + runS (qP v k)) (val xs + (p2 (qP v k) - 1) * p2 n) := by rw [wrL, if_pos he]
    have eN : wrN xs n (qP v k) = n + runS (qP v k) := by rw [wrN, if_pos he]
    have hp := p2_pos n
    have hm := Int.mul_nonneg hr.1 (show 0 ≤ p2 n by omega)
    have hV : 0 ≤ val xs + (p2 (qP v k) - 1) * p2 n := by omega
    have hV1 : val xs + (p2 (qP v k) - 1) * p2 n < p2 (n + runS (qP v k)) := join_lt n0 (by omega) hlt hr.2
    have hok2 : okB (wrL xs n (qP v k)) (wrN xs n (qP v k)) = true := by rw [eL, eN]; exact ok_bl (by omega) (by omega) hV hV1
    have hval : val (wrL xs n (qP v k)) = val xs + (p2 (qP v k) - 1) * p2 n := by rw [eL]; exact val_bl (by omega) hV hV1
    have eS : n + runS (qP v k) + bhS (qP v k) k = n + cdS v k := by unfold cdS; omega
    have e : putE (wrL xs n (qP v k)) (wrN xs n (qP v k)) (lwP v k) (bhS (qP v k) k) = rwE xs n v k := by
      rw [putE, if_pos hok2, if_neg (by omega), if_neg (by omega), eN, eS, eq1]
    refine ⟨e, ?_, ?_⟩
    · rw [putL, rwL, e, eN, eS, hval]
      have eV : val xs + (p2 (qP v k) - 1) * p2 n + lwP v k * p2 (n + runS (qP v k)) = val xs + cdV v k * p2 n := by
        unfold cdV
        rw [p2_add n0 (by omega), Int.add_mul, Int.mul_assoc, Int.mul_comm (p2 n) (p2 (runS _))]; omega
      rw [eV]
    · rw [putN, rwN, e, eN, eS]

theorem mod_split (X : Int) {a b : Int} (ha : 0 ≤ a) (hb : 0 ≤ b) : X % p2 (a + b) = X % p2 a + X / p2 a % p2 b * p2 a := by
  have hp := p2_pos a
  have hq := p2_pos b
  rw [p2_add ha hb]
  have h1 := Int.emod_add_mul_ediv (X % (p2 a * p2 b)) (p2 a)
  rw [emod_ediv_mul X _ _ (by omega) (by omega), Int.emod_emod_of_dvd _ (Int.dvd_mul_right ..), Int.mul_comm (p2 a) (X / p2 a % p2 b)] at h1
  omega

theorem cq_low (X : Int) : X % p2 (runS (cq X)) = p2 (cq X) - 1 := by
  have h := cnt_low 48 X
  have hl := cnt_le 48 X
  unfold cq
  generalize cnt X 48 = c at *
  rw [show runS ((c : Nat) : Int) = ((min (c + 1) 48 : Nat) : Int) by unfold runS; split <;> omega]
  exact h

theorem dcG_bd (X k : Int) : 0 ≤ dcG X k ∧ dcG X k < p2 (dcM X k) := emod_bd _ _

/-- The run that is read is the one of the number, if it is less than the cap. -/
theorem dc_q {X k : Int} (h : cq X ≠ 48) : qP (dcN X k) k = cq X ∧ dcN X k / p2 k = cq X := by
  have hp := p2_pos k
  have hc := cq_bd X
  have hg := dcG_bd X k
  rw [show dcM X k = k by unfold dcM bhS; rw [if_neg h]] at hg
  have e : dcN X k / p2 k = cq X := by
    unfold dcN; rw [if_neg h, Int.add_comm, Int.add_mul_ediv_right _ _ (by omega), Int.ediv_eq_zero_of_lt hg.1 hg.2, Int.zero_add]
  exact ⟨by unfold qP; rw [e]; omega, e⟩

theorem dcN_bd {X k : Int} (h0 : 0 ≤ k) (h1 : k ≤ 24) : 0 ≤ dcN X k ∧ dcN X k ≤ 4294967295 ∧ (cq X ≠ 48 → dcN X k < 805306368) := by
  have hc := cq_bd X
  have hg := dcG_bd X k
  have hp := p2_pos k
  by_cases h : cq X = 48
  · rw [show dcM X k = 32 by unfold dcM bhS; rw [if_pos h], p2_32] at hg
    have : dcN X k = dcG X k := by unfold dcN; rw [if_pos h]
    exact ⟨by omega, by omega, fun g => absurd h g⟩
  · rw [show dcM X k = k by unfold dcM bhS; rw [if_neg h]] at hg
    have e : dcN X k = cq X * p2 k + dcG X k := by unfold dcN; rw [if_neg h]
    have h2 : p2 k ≤ 16777216 := by rw [← p2_24]; exact p2_le h1
    have h3 := Int.mul_nonneg hc.1 (show 0 ≤ p2 k by omega)
    have h4 : cq X * p2 k ≤ 47 * p2 k := Int.mul_le_mul_of_nonneg_right (by omega) (by omega)
    exact ⟨by omega, by omega, fun _ => by omega⟩

/-- What is read has just this code. -/
theorem dc_code {X k : Int} (h0 : 0 ≤ k) (h1 : k ≤ 24) (hq : qP (dcN X k) k = cq X) : cdS (dcN X k) k = dcS X k ∧ X % p2 (dcS X k) = cdV (dcN X k) k := by
  have hc := cq_bd X
  have hs := runS_bd hc.1 hc.2
  have hg := dcG_bd X k
  have hB := bhS_bd (cq X) h0 h1
  refine ⟨by unfold cdS dcS dcM; rw [hq], ?_⟩
  have hl : lwP (dcN X k) k = dcG X k := by
    unfold lwP; rw [hq]
    by_cases h : cq X = 48
    · have e : dcN X k = dcG X k := by unfold dcN; rw [if_pos h]
      rw [e]; exact Int.emod_eq_of_lt hg.1 hg.2
    · have e : dcN X k = cq X * p2 k + dcG X k := by unfold dcN; rw [if_neg h]
      have hb : bhS (cq X) k = k := by unfold bhS; rw [if_neg h]
      rw [show dcM X k = k from hb] at hg
      rw [e, hb, Int.add_comm, Int.add_mul_emod_self_right, Int.emod_eq_of_lt hg.1 hg.2]
  unfold dcS cdV
  rw [hq, hl, mod_split X (by omega) (show 0 ≤ dcM X k from hB.1), cq_low]; rfl

/-- A code, whatever follows, is read as its number. -/
theorem code_dc {v k : Int} (h : 0 ≤ v) (hv : v ≤ 4294967295) (h0 : 0 ≤ k) (h1 : k ≤ 24) (H : Int) :
    let X := cdV v k + H * p2 (cdS v k)
    cq X = qP v k ∧ dcN X k = v ∧ dcS X k = cdS v k ∧ dcM X k = bhS (qP v k) k := by
  intro X
  obtain ⟨q0, q1⟩ := qP_bd k h
  have hs := runS_bd q0 q1
  have hr := run_lt q0 q1
  have hB := bhS_bd (qP v k) h0 h1
  have hl := lw_bd v k
  have hp := p2_pos (runS (qP v k))
  have eX : X = (p2 (qP v k) - 1) + (lwP v k + H * p2 (bhS (qP v k) k)) * p2 (runS (qP v k)) := by
    show cdV v k + H * p2 (cdS v k) = _
    unfold cdV cdS
    rw [p2_add (by omega) hB.1, Int.add_mul, Int.mul_comm (p2 (runS _)), Int.mul_assoc]; omega
  have e1 : cq X = qP v k := by unfold cq; rw [eX]; exact cnt_runS q0 q1 _
  have e2 : dcM X k = bhS (qP v k) k := by unfold dcM; rw [e1]
  have e3 : dcG X k = lwP v k := by
    unfold dcG; rw [e1, e2, eX, Int.add_mul_ediv_right _ _ (by omega), Int.ediv_eq_zero_of_lt hr.1 hr.2, Int.zero_add, Int.add_mul_emod_self_right, Int.emod_eq_of_lt hl.1 hl.2]
  refine ⟨e1, ?_, by unfold dcS cdS; rw [e1, e2], e2⟩
  have hw := lw_val (k := k) h hv
  unfold dcN; rw [e1, e3]
  by_cases g : qP v k = 48
  · rw [if_pos g]; exact hw.1 g
  · rw [if_neg g]; exact (hw.2 g).1

/-- .. where bits stand so. -/
theorem rr_read {xs : List Int} {n p v k : Int} (hok : okB xs n = true) (hp : 0 ≤ p) (h : 0 ≤ v) (hv : v ≤ 4294967295) (h0 : 0 ≤ k) (h1 : k ≤ 24) {H : Int} (hX : val xs / p2 p = cdV v k + H * p2 (cdS v k)) (hn : p + cdS v k ≤ n) :
    rrE xs n p k = 0 ∧ rrN xs n p k = v ∧ rrX xs n p k = p + cdS v k := by
  obtain ⟨e1, e2, e3, e4⟩ := code_dc h hv h0 h1 H
  rw [← hX] at e1 e2 e3 e4
  obtain ⟨q0, q1⟩ := qP_bd k h
  have hs := runS_bd q0 q1
  have hB := bhS_bd (qP v k) h0 h1
  have hc := cdS_bd h h0 h1
  have hon : ons xs p = qP v k := e1
  have hS : cdS v k = runS (qP v k) + bhS (qP v k) k := rfl
  have hR : rdE xs n p = 0 := by
    rw [rdE, if_pos hok, if_neg (by omega), if_neg (by omega), if_neg (by rw [hon]; intro g; have := runS_lt g.1; omega)]
  have hRX : rdX xs n p = p + runS (qP v k) := by rw [rdX, if_pos hR, hon]
  have e : rrE xs n p k = 0 := by
    rw [rrE, if_pos hok, if_neg (by omega), if_neg (by rw [hR]; simp), if_neg (by rw [hRX, e4]; omega), if_neg (by rw [e1, e2]; simp)]
  exact ⟨e, by rw [rrN, if_pos e, e2], by rw [rrX, if_pos e, e3]⟩
end Go.Proofs.Ytbhoodhcipegbaa.M07

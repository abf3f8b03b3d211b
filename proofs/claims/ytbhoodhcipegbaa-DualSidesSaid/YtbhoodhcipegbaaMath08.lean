/- Plain facts on the code with two levels: states, what they learn, codes, and what is read of bits. No Go here. -/
import Derived.Test.YtbhoodhcipegbaaMath07b
namespace Go.Proofs.Ytbhoodhcipegbaa.M08
open Go.Proofs.Ytbhoodhcipegbaa.M01 Go.Proofs.Ytbhoodhcipegbaa.M02 Go.Proofs.Ytbhoodhcipegbaa.M06 Go.Proofs.Ytbhoodhcipegbaa.M07 Go.Proofs.Ytbhoodhcipegbaa.MP
set_option linter.unusedVariables false

/-- A state: both K, both sums. -/
structure D4 where
  a : Int
  b : Int
  s : Int
  t : Int

theorem D4.ext' {d e : D4} (h1 : d.a = e.a) (h2 : d.b = e.b) (h3 : d.s = e.s) (h4 : d.t = e.t) : d = e := by
  cases d; cases e; simp_all

def zD : D4 := ⟨0, 0, 0, 0⟩
def stD : D4 := ⟨10, 10, 16384, 16384⟩
/-- What the types of its fields allow. -/
def isD (d : D4) : Prop := (-9223372036854775808 ≤ d.a ∧ d.a ≤ 9223372036854775807) ∧ (-9223372036854775808 ≤ d.b ∧ d.b ≤ 9223372036854775807) ∧ (0 ≤ d.s ∧ d.s ≤ 18446744073709551615) ∧ (0 ≤ d.t ∧ d.t ≤ 18446744073709551615)
/-- Valid. -/
def okD (d : D4) : Bool := decide (0 ≤ d.a ∧ d.a ≤ 24 ∧ 0 ≤ d.b ∧ d.b ≤ 24 ∧ d.s ≤ 68719476735 ∧ d.t ≤ 68719476735)
theorem okD_iff {d : D4} : okD d = true ↔ (0 ≤ d.a ∧ d.a ≤ 24 ∧ 0 ≤ d.b ∧ d.b ≤ 24 ∧ d.s ≤ 68719476735 ∧ d.t ≤ 68719476735) := by unfold okD; exact decide_eq_true_iff

/-- The valid state that differs least. -/
def nrD (d : D4) : D4 := ⟨min (max d.a 0) 24, min (max d.b 0) 24, min d.s 68719476735, min d.t 68719476735⟩
theorem nrD_ok {d : D4} (h : okD d = true) : nrD d = d := by
  have h := okD_iff.1 h
  exact D4.ext' (by show min (max d.a 0) 24 = d.a; omega) (by show min (max d.b 0) 24 = d.b; omega) (by show min d.s 68719476735 = d.s; omega) (by show min d.t 68719476735 = d.t; omega)

/-- A pair learns. -/
def lS (s v : Int) : Int := s - s / 16 + v
def lK (k s : Int) : Int := if 0 < k ∧ s < p2 (k + 4) then k - 1 else if k < 24 ∧ p2 (k + 5) < s then k + 1 else k
/-- A state learns. -/
def learnD (d : D4) (v : Int) : D4 :=
  ⟨lK d.a (lS d.s v), if v < p2 d.a then d.b else lK d.b (lS d.t (v - p2 d.a)), lS d.s v, if v < p2 d.a then d.t else lS d.t (v - p2 d.a)⟩

def isU (v : Int) : Prop := 0 ≤ v ∧ v ≤ 4294967295

theorem lS_bd {s v : Int} (h0 : 0 ≤ s) (h1 : s ≤ 68719476735) (hv : isU v) : 0 ≤ lS s v ∧ lS s v ≤ 68719476735 := by
  obtain ⟨v0, v1⟩ := hv
  unfold lS; omega
theorem lK_bd {k : Int} (s : Int) (h0 : 0 ≤ k) (h1 : k ≤ 24) : 0 ≤ lK k s ∧ lK k s ≤ 24 ∧ k - 1 ≤ lK k s ∧ lK k s ≤ k + 1 := by
  unfold lK; split
  · omega
  · split <;> omega
theorem p2_24le {k : Int} (h1 : k ≤ 24) : p2 k ≤ 16777216 := by rw [← p2_24]; exact p2_le h1

/-- What is left of a number on the second level. -/
theorem left_bd {v : Int} {d : D4} (hv : isU v) (h : ¬ v < p2 d.a) : isU (v - p2 d.a) := by
  have := p2_pos d.a
  unfold isU at *; omega

theorem learn_ok {d : D4} {v : Int} (hd : isD d) (h : okD d = true) (hv : isU v) : okD (learnD d v) = true ∧ isD (learnD d v) := by
  obtain ⟨a0, a1, b0, b1, s1, t1⟩ := okD_iff.1 h
  obtain ⟨_, _, ⟨s0, _⟩, ⟨t0, _⟩⟩ := hd
  have e1 := lS_bd s0 s1 hv
  have e2 := lK_bd (lS d.s v) a0 a1
  have g : (0 ≤ (learnD d v).b ∧ (learnD d v).b ≤ 24) ∧ 0 ≤ (learnD d v).t ∧ (learnD d v).t ≤ 68719476735 := by
    unfold learnD
    by_cases hl : v < p2 d.a
    · simp only [if_pos hl]; exact ⟨⟨b0, b1⟩, t0, t1⟩
    · simp only [if_neg hl]
      have e3 := lS_bd t0 t1 (left_bd hv hl)
      have e4 := lK_bd (lS d.t (v - p2 d.a)) b0 b1
      exact ⟨⟨e4.1, e4.2.1⟩, e3⟩
  have ga : (learnD d v).a = lK d.a (lS d.s v) := rfl
  have gs : (learnD d v).s = lS d.s v := rfl
  exact ⟨okD_iff.2 (by omega), by unfold isD; omega⟩

/-- Learn's answers, and those of Check and Length. -/
def chD (d : D4) : Int := if okD d then 0 else 8
def lnD (d : D4) (v : Int) : D4 := if okD d then learnD d v else zD
def duS (d : D4) (v : Int) : Int := if v < p2 d.a then 1 + d.a else 1 + cdS (v - p2 d.a) d.b
def dlN (d : D4) (v : Int) : Int := if okD d then duS d v else 0
/-- The code. -/
def duV (d : D4) (v : Int) : Int := if v < p2 d.a then v * 2 else 1 + cdV (v - p2 d.a) d.b * 2
/-- Write's answers. -/
def dwE (xs : List Int) (n : Int) (d : D4) (v : Int) : Int := if okB xs n = true ∧ okD d = true then (if 330000 < n + duS d v then 18 else 0) else 8
def dwL (xs : List Int) (n : Int) (d : D4) (v : Int) : List Int := if dwE xs n d v = 0 then bl (n + duS d v) (val xs + duV d v * p2 n) else []
def dwN (xs : List Int) (n : Int) (d : D4) (v : Int) : Int := if dwE xs n d v = 0 then n + duS d v else 0
def dwD (xs : List Int) (n : Int) (d : D4) (v : Int) : D4 := if dwE xs n d v = 0 then learnD d v else zD
/-- What is read of a number whose lowest bits begin with a code. -/
def dnN (X : Int) (d : D4) : Int := if X % 2 = 0 then X / 2 % p2 d.a else dcN (X / 2) d.b + p2 d.a
def dnS (X : Int) (d : D4) : Int := if X % 2 = 0 then 1 + d.a else 1 + dcS (X / 2) d.b
/-- Read's answers. -/
def drE (xs : List Int) (n p : Int) (d : D4) : Int :=
  if okB xs n = true ∧ okD d = true then
    (if p < 0 then 2 else if n ≤ p then 24 else if val xs / p2 p % 2 = 0 then (if n - p - 1 < d.a then 24 else 0) else if rrE xs n (p + 1) d.b ≠ 0 then rrE xs n (p + 1) d.b else if 4294967295 < rrN xs n (p + 1) d.b + p2 d.a then 12 else 0)
  else 8
def drN (xs : List Int) (n p : Int) (d : D4) : Int := if drE xs n p d = 0 then dnN (val xs / p2 p) d else 0
def drX (xs : List Int) (n p : Int) (d : D4) : Int := if drE xs n p d = 0 then p + dnS (val xs / p2 p) d else 0
def drD (xs : List Int) (n p : Int) (d : D4) : D4 := if drE xs n p d = 0 then learnD d (dnN (val xs / p2 p) d) else zD

theorem p2_1 : p2 1 = 2 := by decide +kernel

theorem duS_bd {d : D4} {v : Int} (h : okD d = true) (hv : isU v) : 1 ≤ duS d v ∧ duS d v ≤ 81 ∧ duS d v ≤ 1 + d.a + 80 ∧ (v < p2 d.a → duS d v = 1 + d.a) := by
  obtain ⟨a0, a1, b0, b1, s1, t1⟩ := okD_iff.1 h
  unfold duS
  by_cases hl : v < p2 d.a
  · simp only [if_pos hl]
    exact ⟨by omega, by omega, by omega, fun _ => trivial⟩
  · simp only [if_neg hl]
    have := cdS_bd (left_bd hv hl).1 b0 b1
    refine ⟨by omega, by omega, by omega, fun g => absurd g hl⟩
theorem duV_bd {d : D4} {v : Int} (h : okD d = true) (hv : isU v) : 0 ≤ duV d v ∧ duV d v < p2 (duS d v) := by
  obtain ⟨a0, a1, b0, b1, s1, t1⟩ := okD_iff.1 h
  unfold duS duV
  by_cases hl : v < p2 d.a
  · simp only [if_pos hl]
    rw [p2_add (by omega) a0, p2_1]
    unfold isU at hv; omega
  · simp only [if_neg hl]
    have hc := cdS_bd (left_bd hv hl).1 b0 b1
    have hb := cd_bd (left_bd hv hl).1 b0 b1
    rw [p2_add (by omega) (by omega), p2_1]
    omega

/-- The value of the bits one further. -/
theorem next_val {A p : Int} (hp : 0 ≤ p) : A / p2 (p + 1) = A / p2 p / 2 := by
  rw [p2_add hp (by omega), p2_1, ← Int.ediv_ediv_of_nonneg (by have := p2_pos p; omega)]

/-- A code, whatever follows, is read as its number. -/
theorem code_dn {d : D4} {v : Int} (h : okD d = true) (hv : isU v) (H : Int) :
    let X := duV d v + H * p2 (duS d v)
    (v < p2 d.a → X % 2 = 0) ∧ (¬ v < p2 d.a → X % 2 = 1 ∧ X / 2 = cdV (v - p2 d.a) d.b + H * p2 (cdS (v - p2 d.a) d.b)) ∧ dnN X d = v ∧ dnS X d = duS d v := by
  intro X
  obtain ⟨a0, a1, b0, b1, s1, t1⟩ := okD_iff.1 h
  by_cases hl : v < p2 d.a
  · have eX : X = (v + H * p2 d.a) * 2 := by
      show duV d v + H * p2 (duS d v) = _
      unfold duS duV
      simp only [if_pos hl]
      rw [p2_add (by omega) a0, p2_1, Int.add_mul, Int.mul_comm 2 (p2 d.a), Int.mul_assoc]
    have e0 : X % 2 = 0 := by rw [eX]; omega
    have e1 : X / 2 = v + H * p2 d.a := by rw [eX]; omega
    have hp := p2_pos d.a
    refine ⟨fun _ => e0, fun g => absurd hl g, ?_, ?_⟩
    · unfold dnN; rw [if_pos e0, e1, Int.add_mul_emod_self_right, Int.emod_eq_of_lt hv.1 hl]
    · unfold dnS duS; rw [if_pos e0, if_pos hl]
  · have hL := left_bd hv hl
    have hc := cdS_bd hL.1 b0 b1
    have eX : X = 1 + (cdV (v - p2 d.a) d.b + H * p2 (cdS (v - p2 d.a) d.b)) * 2 := by
      show duV d v + H * p2 (duS d v) = _
      unfold duS duV
      simp only [if_neg hl]
      rw [p2_add (by omega) (by omega), p2_1, Int.add_mul, Int.mul_comm 2 (p2 _), Int.mul_assoc]; omega
    have e0 : X % 2 = 1 := by rw [eX]; omega
    have e1 : X / 2 = cdV (v - p2 d.a) d.b + H * p2 (cdS (v - p2 d.a) d.b) := by rw [eX]; omega
    obtain ⟨r1, r2, r3, r4⟩ := code_dc hL.1 hL.2 b0 b1 H
    rw [← e1] at r1 r2 r3 r4
    refine ⟨fun g => absurd g hl, fun _ => ⟨e0, e1⟩, ?_, ?_⟩
    · unfold dnN; rw [if_neg (by omega), r2]; omega
    · unfold dnS duS; rw [if_neg (by omega), if_neg hl, r3]

/-- .. where bits stand so. -/
theorem dr_read {xs : List Int} {n p v : Int} {d : D4} (hok : okB xs n = true) (hd : okD d = true) (hp : 0 ≤ p) (hv : isU v) {H : Int} (hX : val xs / p2 p = duV d v + H * p2 (duS d v)) (hn : p + duS d v ≤ n) :
    drE xs n p d = 0 ∧ drN xs n p d = v ∧ drX xs n p d = p + duS d v ∧ drD xs n p d = learnD d v := by
  obtain ⟨a0, a1, b0, b1, s1, t1⟩ := okD_iff.1 hd
  have hS := duS_bd hd hv
  obtain ⟨e1, e2, e3, e4⟩ := code_dn hd hv H
  rw [← hX] at e1 e2 e3 e4
  have e : drE xs n p d = 0 := by
    unfold drE
    rw [if_pos ⟨hok, hd⟩, if_neg (by omega), if_neg (by omega)]
    by_cases hl : v < p2 d.a
    · have := hS.2.2.2 hl
      rw [if_pos (e1 hl), if_neg (by omega)]
    · obtain ⟨g0, g1⟩ := e2 hl
      have hL := left_bd hv hl
      have hSS : duS d v = 1 + cdS (v - p2 d.a) d.b := by unfold duS; rw [if_neg hl]
      obtain ⟨r1, r2, r3⟩ := rr_read (p := p + 1) (v := v - p2 d.a) (k := d.b) (H := H) hok (by omega) hL.1 hL.2 b0 b1 (by rw [next_val hp]; exact g1) (by omega)
      unfold isU at hv
      rw [if_neg (by omega), if_neg (by rw [r1]; simp), if_neg (by rw [r2]; omega)]
  exact ⟨e, by rw [drN, if_pos e, e3], by rw [drX, if_pos e, e4], by rw [drD, if_pos e, e3]⟩

/-- What is read has just this code. -/
theorem dr_once {xs : List Int} {n p : Int} {d : D4} (hb : isByte xs) (h : drE xs n p d = 0) :
    okB xs n = true ∧ okD d = true ∧ 0 ≤ p ∧ isU (drN xs n p d) ∧ drX xs n p d = p + duS d (drN xs n p d) ∧ p + duS d (drN xs n p d) ≤ n ∧ val xs / p2 p % p2 (duS d (drN xs n p d)) = duV d (drN xs n p d) ∧ drD xs n p d = learnD d (drN xs n p d) := by
  have hh := h
  unfold drE at h
  by_cases hq : okB xs n = true ∧ okD d = true
  case neg => rw [if_neg hq] at h; omega
  rw [if_pos hq] at h
  obtain ⟨hok, hd⟩ := hq
  obtain ⟨a0, a1, b0, b1, s1, t1⟩ := okD_iff.1 hd
  by_cases hp : p < 0
  · rw [if_pos hp] at h; omega
  rw [if_neg hp] at h
  by_cases hn : n ≤ p
  · rw [if_pos hn] at h; omega
  rw [if_neg hn] at h
  have eN : drN xs n p d = dnN (val xs / p2 p) d := by rw [drN, if_pos hh]
  have eX : drX xs n p d = p + dnS (val xs / p2 p) d := by rw [drX, if_pos hh]
  have eD : drD xs n p d = learnD d (dnN (val xs / p2 p) d) := by rw [drD, if_pos hh]
  rw [eN, eX, eD]
  by_cases h0 : val xs / p2 p % 2 = 0
  · rw [if_pos h0] at h
    by_cases hk : n - p - 1 < d.a
    · rw [if_pos hk] at h; omega
    have hm := emod_bd (val xs / p2 p / 2) d.a
    have e1 : dnN (val xs / p2 p) d = val xs / p2 p / 2 % p2 d.a := by unfold dnN; rw [if_pos h0]
    have e2 : dnS (val xs / p2 p) d = 1 + d.a := by unfold dnS; rw [if_pos h0]
    have hle := p2_24le a1
    have e3 : duS d (dnN (val xs / p2 p) d) = 1 + d.a := by unfold duS; rw [if_pos (by rw [e1]; exact hm.2)]
    have e4 : duV d (dnN (val xs / p2 p) d) = dnN (val xs / p2 p) d * 2 := by unfold duV; rw [if_pos (by rw [e1]; exact hm.2)]
    refine ⟨hok, hd, by omega, by unfold isU; omega, by rw [e3, e2], by omega, ?_, rfl⟩
    rw [e3, e4, e1, Int.add_comm 1 d.a, Int.add_comm d.a 1, mod_split _ (by omega) a0, p2_1, h0]; omega
  · rw [if_neg h0] at h
    by_cases hr : rrE xs n (p + 1) d.b = 0
    case neg => rw [if_pos hr] at h; exact absurd h hr
    rw [if_neg (by rw [hr]; simp)] at h
    by_cases hg : 4294967295 < rrN xs n (p + 1) d.b + p2 d.a
    · rw [if_pos hg] at h; omega
    have eR : rrN xs n (p + 1) d.b = dcN (val xs / p2 p / 2) d.b := by rw [rrN, if_pos hr, next_val (by omega)]
    rw [eR] at hg
    have hb0 := dcN_bd (X := val xs / p2 p / 2) b0 b1
    have hpa := p2_pos d.a
    have e1 : dnN (val xs / p2 p) d = dcN (val xs / p2 p / 2) d.b + p2 d.a := by unfold dnN; rw [if_neg h0]
    have e2 : dnS (val xs / p2 p) d = 1 + dcS (val xs / p2 p / 2) d.b := by unfold dnS; rw [if_neg h0]
    -- the code of what is left
    have hrr := hr
    unfold rrE at hr
    rw [if_pos hok, if_neg (by omega)] at hr
    rw [next_val (show 0 ≤ p by omega)] at hr
    by_cases hR : rdE xs n (p + 1) = 0
    case neg => rw [if_pos hR] at hr; exact absurd hr hR
    rw [if_neg (by rw [hR]; simp)] at hr
    by_cases hs : n - rdX xs n (p + 1) < dcM (val xs / p2 p / 2) d.b
    · rw [if_pos hs] at hr; omega
    rw [if_neg hs] at hr
    have hqq : qP (dcN (val xs / p2 p / 2) d.b) d.b = cq (val xs / p2 p / 2) := by
      by_cases g : qP (dcN (val xs / p2 p / 2) d.b) d.b = cq (val xs / p2 p / 2)
      · exact g
      · rw [if_pos g] at hr; omega
    have eRX : rdX xs n (p + 1) = p + 1 + runS (cq (val xs / p2 p / 2)) := by
      rw [rdX, if_pos hR, ons_cq, next_val (show 0 ≤ p by omega)]
    obtain ⟨c1, c2⟩ := dc_code b0 b1 hqq
    have eS : dcS (val xs / p2 p / 2) d.b = runS (cq (val xs / p2 p / 2)) + dcM (val xs / p2 p / 2) d.b := rfl
    have hcs := cdS_bd hb0.1 b0 b1
    have e3 : duS d (dnN (val xs / p2 p) d) = 1 + dcS (val xs / p2 p / 2) d.b := by
      unfold duS; rw [e1, if_neg (by omega), ← c1, show dcN (val xs / p2 p / 2) d.b + p2 d.a - p2 d.a = dcN (val xs / p2 p / 2) d.b by omega]
    have e4 : duV d (dnN (val xs / p2 p) d) = 1 + cdV (dcN (val xs / p2 p / 2) d.b) d.b * 2 := by
      unfold duV; rw [e1, if_neg (by omega), show dcN (val xs / p2 p / 2) d.b + p2 d.a - p2 d.a = dcN (val xs / p2 p / 2) d.b by omega]
    refine ⟨hok, hd, by omega, by unfold isU; omega, by rw [e3, e2], by rw [e3]; omega, ?_, rfl⟩
    rw [e3, e4, mod_split _ (by omega) (by omega), p2_1, c2]; omega

end Go.Proofs.Ytbhoodhcipegbaa.M08

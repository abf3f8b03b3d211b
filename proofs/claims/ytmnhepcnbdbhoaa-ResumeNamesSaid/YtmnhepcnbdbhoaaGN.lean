/- Reading as many numbers as there are, up to some: bits that go on, and bits that stand elsewhere. States of a decoder that is fed with bytes: what feeding answers, and that pieces do not matter. A decoder that is fed from the first state on: codes of numbers, and bits that wait. -/
import Derived.Test.YtmnhepcnbdbhoaaGM
import Derived.Test.YtmnhepcnbdbhoaaGL8
namespace Go.Proofs.Ytmnhepcnbdbhoaa.M10
open Go.Proofs.Ytmnhepcnbdbhoaa.M01 Go.Proofs.Ytmnhepcnbdbhoaa.M02 Go.Proofs.Ytmnhepcnbdbhoaa.M06 Go.Proofs.Ytmnhepcnbdbhoaa.M07 Go.Proofs.Ytmnhepcnbdbhoaa.M08 Go.Proofs.Ytmnhepcnbdbhoaa.MP
set_option linter.unusedVariables false

/-- Reading at most k numbers from p on in a state: the error (none if bits are too few), the numbers, where, the state behind, and how many are left. -/
def fdE (xs : List Int) (n : Int) : Nat → Int → D4 → Int
  | 0, _, _ => 0
  | k + 1, p, d => if drE xs n p d = 0 then fdE xs n k (drX xs n p d) (drD xs n p d) else if drE xs n p d = 24 then 0 else drE xs n p d
def fdL (xs : List Int) (n : Int) : Nat → Int → D4 → List Int
  | 0, _, _ => []
  | k + 1, p, d => if drE xs n p d = 0 then drN xs n p d :: fdL xs n k (drX xs n p d) (drD xs n p d) else []
def fdP (xs : List Int) (n : Int) : Nat → Int → D4 → Int
  | 0, p, _ => p
  | k + 1, p, d => if drE xs n p d = 0 then fdP xs n k (drX xs n p d) (drD xs n p d) else p
def fdT (xs : List Int) (n : Int) : Nat → Int → D4 → D4
  | 0, _, d => d
  | k + 1, p, d => if drE xs n p d = 0 then fdT xs n k (drX xs n p d) (drD xs n p d) else d
def fdK (xs : List Int) (n : Int) : Nat → Int → D4 → Nat
  | 0, _, _ => 0
  | k + 1, p, d => if drE xs n p d = 0 then fdK xs n k (drX xs n p d) (drD xs n p d) else k + 1

theorem dr_step {xs : List Int} {n p : Int} {d : D4} (hby : isByte xs) (hi : isD d) (h : drE xs n p d = 0) :
    okD (drD xs n p d) = true ∧ isD (drD xs n p d) ∧ 0 ≤ drX xs n p d ∧ drX xs n p d ≤ n ∧ p < drX xs n p d ∧ drX xs n p d = p + duS d (drN xs n p d) := by
  obtain ⟨o1, o2, o3, o4, o5, o6, o7, o8⟩ := dr_once hby h
  obtain ⟨t1, t2⟩ := learn_ok hi o2 o4
  have hs := duS_bd o2 o4
  rw [o8, o5]
  exact ⟨t1, t2, by omega, by omega, by omega, rfl⟩

/-- Bits that go on. -/
theorem fd_ext {xs ys : List Int} {n m : Int} (h : extB xs n ys m) (k : Nat) : ∀ p d, okD d = true → isD d → 0 ≤ p → p ≤ n →
    (fdE xs n k p d ≠ 0 → fdE ys m k p d = fdE xs n k p d) ∧
    (fdE xs n k p d = 0 → fdE ys m k p d = fdE ys m (fdK xs n k p d) (fdP xs n k p d) (fdT xs n k p d) ∧ fdL ys m k p d = fdL xs n k p d ++ fdL ys m (fdK xs n k p d) (fdP xs n k p d) (fdT xs n k p d) ∧ fdP ys m k p d = fdP ys m (fdK xs n k p d) (fdP xs n k p d) (fdT xs n k p d) ∧ fdT ys m k p d = fdT ys m (fdK xs n k p d) (fdP xs n k p d) (fdT xs n k p d) ∧ fdK ys m k p d = fdK ys m (fdK xs n k p d) (fdP xs n k p d) (fdT xs n k p d)) := by
  induction k with
  | zero => intro p d _ _ _ _; exact ⟨fun g => absurd rfl g, fun _ => ⟨rfl, rfl, rfl, rfl, rfl⟩⟩
  | succ k ih =>
    intro p d hd hi hp hpn
    by_cases h0 : drE xs n p d = 0
    · obtain ⟨t1, t2, t3, t4, -, -⟩ := dr_step h.2.2.2.2 hi h0
      obtain ⟨e1, e2, e3, e4⟩ := dr_ext h hd hp (.inl h0)
      rw [h0] at e1
      obtain ⟨i1, i2⟩ := ih _ _ t1 t2 t3 t4
      simp only [fdE, fdL, fdP, fdT, fdK, if_pos h0, if_pos e1, e2, e3, e4]
      refine ⟨i1, fun g => ?_⟩
      obtain ⟨j1, j2, j3, j4, j5⟩ := i2 g
      exact ⟨j1, by rw [j2, List.cons_append], j3, j4, j5⟩
    · by_cases h24 : drE xs n p d = 24
      · have hE : fdE xs n (k + 1) p d = 0 := by rw [fdE, if_neg h0, if_pos h24]
        have hL : fdL xs n (k + 1) p d = [] := by rw [fdL, if_neg h0]
        have hP : fdP xs n (k + 1) p d = p := by rw [fdP, if_neg h0]
        have hT : fdT xs n (k + 1) p d = d := by rw [fdT, if_neg h0]
        have hK : fdK xs n (k + 1) p d = k + 1 := by rw [fdK, if_neg h0]
        rw [hE, hL, hP, hT, hK]
        exact ⟨fun g => absurd rfl g, fun _ => ⟨rfl, rfl, rfl, rfl, rfl⟩⟩
      · have h12 : drE xs n p d = 12 := by
          rcases Wk.dr_err h.2.2.2.2 h.1 hd hp h0 with g | g
          · exact absurd g h24
          · exact g.1
        obtain ⟨e1, -, -, -⟩ := dr_ext h hd hp (.inr h12)
        have hE : fdE xs n (k + 1) p d = 12 := by rw [fdE, if_neg h0, if_neg h24, h12]
        have hEy : fdE ys m (k + 1) p d = 12 := by rw [fdE, e1, h12]; rfl
        rw [hE, hEy]
        exact ⟨fun _ => rfl, fun g => by omega⟩

/-- What was read. -/
theorem fd_all {xs : List Int} {n : Int} (hby : isByte xs) (hok : okB xs n = true) (k : Nat) : ∀ p d, okD d = true → isD d → 0 ≤ p → p ≤ n →
    okD (fdT xs n k p d) = true ∧ isD (fdT xs n k p d) ∧ p ≤ fdP xs n k p d ∧ fdP xs n k p d ≤ n ∧ okV (fdL xs n k p d) ∧ (fdL xs n k p d).length + fdK xs n k p d = k ∧
    fdT xs n k p d = stI d (fdL xs n k p d) ∧ fdP xs n k p d = p + M09.cN d (fdL xs n k p d) ∧ val xs / p2 p % p2 (M09.cN d (fdL xs n k p d)) = M09.cV d (fdL xs n k p d) ∧
    (fdE xs n k p d = 0 → 0 < fdK xs n k p d → drE xs n (fdP xs n k p d) (fdT xs n k p d) = 24) ∧ (fdE xs n k p d = 0 ∨ fdE xs n k p d = 12) := by
  induction k with
  | zero =>
    intro p d hd hi hp hpn
    exact ⟨hd, hi, Int.le_refl _, hpn, fun x hx => by simp [fdL] at hx, rfl, rfl, by simp [fdP, fdL, M09.cN, pcd, pS], by simp [fdL, M09.cN, M09.cV, pcd, pS, pV, p2_zero, Int.emod_one], fun _ g => absurd g (by simp [fdK]), .inl rfl⟩
  | succ k ih =>
    intro p d hd hi hp hpn
    by_cases h0 : drE xs n p d = 0
    · obtain ⟨t1, t2, t3, t4, t5, t6⟩ := dr_step hby hi h0
      obtain ⟨o1, o2, o3, o4, o5, o6, o7, o8⟩ := dr_once hby h0
      obtain ⟨a1, a2, a3, a4, a5, a6, a7, a8, a9, a10, a11⟩ := ih _ _ t1 t2 t3 t4
      simp only [fdE, fdL, fdP, fdT, fdK, if_pos h0]
      refine ⟨a1, a2, by omega, a4, ?_, by rw [List.length_cons]; omega, ?_, ?_, ?_, a10, a11⟩
      · intro x hx
        rcases List.mem_cons.1 hx with rfl | hx
        · exact o4
        · exact a5 x hx
      · rw [a7, o8]; rfl
      · rw [a8, t6]; unfold M09.cN; rw [pcd, pS, ← o8]; simp only; omega
      · have hcN : M09.cN d (drN xs n p d :: fdL xs n k (drX xs n p d) (drD xs n p d)) = duS d (drN xs n p d) + M09.cN (drD xs n p d) (fdL xs n k (drX xs n p d) (drD xs n p d)) := by unfold M09.cN; rw [pcd, pS, o8]
        have hcV : M09.cV d (drN xs n p d :: fdL xs n k (drX xs n p d) (drD xs n p d)) = duV d (drN xs n p d) + M09.cV (drD xs n p d) (fdL xs n k (drX xs n p d) (drD xs n p d)) * p2 (duS d (drN xs n p d)) := by unfold M09.cV; rw [pcd, pV, o8]
        have hs := duS_bd hd o4
        have hS : 0 ≤ M09.cN (drD xs n p d) (fdL xs n k (drX xs n p d) (drD xs n p d)) := (pS_bd (m := 81) (by omega) _ (pcd_ok t2 t1 a5)).1
        have hq := p2_pos p
        rw [hcN, hcV, mod_split _ (by omega) hS, o7]
        have e2 : val xs / p2 p / p2 (duS d (drN xs n p d)) = val xs / p2 (drX xs n p d) := by rw [t6, p2_add hp (by omega), Int.ediv_ediv_of_nonneg (by omega)]
        rw [e2]
        rw [a9]
    · simp only [fdE, fdL, fdP, fdT, fdK, if_neg h0]
      refine ⟨hd, hi, Int.le_refl _, hpn, fun x hx => by simp at hx, by simp, rfl, by simp [M09.cN, pcd, pS], by simp [M09.cN, M09.cV, pcd, pS, pV, p2_zero, Int.emod_one], fun g _ => ?_, ?_⟩
      · by_cases h24 : drE xs n p d = 24
        · exact h24
        · rw [if_neg h24] at g; exact absurd g h0
      · by_cases h24 : drE xs n p d = 24
        · rw [if_pos h24]; exact .inl rfl
        · rw [if_neg h24]
          rcases Wk.dr_err hby hok hd hp h0 with g | g
          · exact absurd g h24
          · exact .inr g.1

/-- The same bits elsewhere. -/
theorem dr_there {xs ys : List Int} {n m p q : Int} {d : D4} (hx : okB xs n = true) (hy : okB ys m = true) (hp : 0 ≤ p) (hq : 0 ≤ q) (hn : n - p = m - q) (hv : val xs / p2 p = val ys / p2 q) :
    drE xs n p d = drE ys m q d ∧ drN xs n p d = drN ys m q d ∧ drD xs n p d = drD ys m q d ∧ (drE xs n p d = 0 → drX xs n p d - p = drX ys m q d - q) := by
  have e := M09.dr_shift (d := d) hx hy hp hq hn hv
  refine ⟨e, by rw [drN, drN, e, hv], by rw [drD, drD, e, hv], fun h => ?_⟩
  rw [drX, drX, if_pos h, if_pos (by rw [← e]; exact h), hv]; omega
theorem fd_shift {xs ys : List Int} {n m : Int} (hbx : isByte xs) (hx : okB xs n = true) (hy : okB ys m = true) (k : Nat) : ∀ p q d, isD d → 0 ≤ p → 0 ≤ q → n - p = m - q → val xs / p2 p = val ys / p2 q →
    fdE xs n k p d = fdE ys m k q d ∧ fdL xs n k p d = fdL ys m k q d ∧ fdP xs n k p d - p = fdP ys m k q d - q ∧ fdT xs n k p d = fdT ys m k q d ∧ fdK xs n k p d = fdK ys m k q d := by
  induction k with
  | zero => intro p q d _ _ _ _ _; exact ⟨rfl, rfl, by simp [fdP], rfl, rfl⟩
  | succ k ih =>
    intro p q d hi hp hq hn hv
    obtain ⟨e1, e2, e3, e4⟩ := dr_there (d := d) hx hy hp hq hn hv
    by_cases h0 : drE xs n p d = 0
    · have h0y : drE ys m q d = 0 := by rw [← e1]; exact h0
      obtain ⟨t1, t2, t3, t4, t5, t6⟩ := dr_step hbx hi h0
      have e4 := e4 h0
      have hS : drX ys m q d = q + duS d (drN xs n p d) := by omega
      have hs : 0 ≤ duS d (drN xs n p d) := by omega
      have hpp := p2_pos p
      have hqq := p2_pos q
      have hnext : val xs / p2 (drX xs n p d) = val ys / p2 (drX ys m q d) := by
        rw [t6, hS, p2_add hp hs, p2_add hq hs, ← Int.ediv_ediv_of_nonneg (by omega), ← Int.ediv_ediv_of_nonneg (by omega), hv]
      obtain ⟨i1, i2, i3, i4, i5⟩ := ih (drX xs n p d) (drX ys m q d) (drD xs n p d) t2 t3 (by omega) (by omega) hnext
      simp only [fdE, fdL, fdP, fdT, fdK, if_pos h0, if_pos h0y]
      rw [← e2, ← e3]
      exact ⟨i1, by rw [i2], by omega, i4, i5⟩
    · have h0y : ¬ drE ys m q d = 0 := by rw [← e1]; exact h0
      simp only [fdE, fdL, fdP, fdT, fdK, if_neg h0y, e1]
      exact ⟨trivial, trivial, by omega, trivial, trivial⟩

/-- As many as are asked for. -/
theorem fd_rd {xs : List Int} {n : Int} (k : Nat) : ∀ p d, M09.rdE xs n k p d = 0 → fdE xs n k p d = 0 ∧ fdL xs n k p d = M09.rdL xs n k p d ∧ fdP xs n k p d = M09.rdP xs n k p d ∧ fdT xs n k p d = M09.rdT xs n k p d ∧ fdK xs n k p d = 0 := by
  induction k with
  | zero => intro p d _; exact ⟨rfl, rfl, rfl, rfl, rfl⟩
  | succ k ih =>
    intro p d h
    rw [M09.rdE] at h
    by_cases h0 : drE xs n p d = 0
    · rw [if_pos h0] at h
      obtain ⟨i1, i2, i3, i4, i5⟩ := ih _ _ h
      simp only [fdE, fdL, fdP, fdT, fdK, if_pos h0]
      exact ⟨i1, by rw [i2, M09.rdL], by rw [i3, M09.rdP], by rw [i4, M09.rdT], i5⟩
    · rw [if_neg h0] at h; exact absurd h h0
end Go.Proofs.Ytmnhepcnbdbhoaa.M10

namespace Go.Proofs.Ytmnhepcnbdbhoaa.M10
open Go.Proofs.Ytmnhepcnbdbhoaa.M01 Go.Proofs.Ytmnhepcnbdbhoaa.M02 Go.Proofs.Ytmnhepcnbdbhoaa.M06 Go.Proofs.Ytmnhepcnbdbhoaa.M07 Go.Proofs.Ytmnhepcnbdbhoaa.M08 Go.Proofs.Ytmnhepcnbdbhoaa.MP
set_option linter.unusedVariables false

/-- Bits with bytes behind them. -/
def upN (n : Int) (b : List Int) : Int := n + 8 * (b.length : Int)
def upL (xs : List Int) (n : Int) (b : List Int) : List Int := bl (upN n b) (val xs + val b * p2 n)

theorem val_app (a b : List Int) : val (a ++ b) = val a + val b * p2 (8 * (a.length : Int)) := by
  induction a with
  | nil => simp [val, p2_zero]
  | cons x a ih =>
    rw [List.cons_append, val, val, ih, List.length_cons, show 8 * ((a.length + 1 : Nat) : Int) = 8 + 8 * (a.length : Int) by omega, p2_add (by omega) (by omega), p2_8, Int.mul_add, Int.mul_left_comm]; omega
theorem val_p2 {b : List Int} (h : isByte b) : val b < p2 (8 * (b.length : Int)) := by
  induction b with
  | nil => decide +kernel
  | cons x b ih =>
    have h1 := h x (by simp)
    have h2 := ih (fun y hy => h y (by simp [hy]))
    rw [val, List.length_cons, show 8 * ((b.length + 1 : Nat) : Int) = 8 + 8 * (b.length : Int) by omega, p2_add (by omega) (by omega), p2_8]; omega

theorem up_ok {xs b : List Int} {n : Int} (hok : okB xs n = true) (hx : isByte xs) (hb : isByte b) (hn : upN n b ≤ 330000) :
    okB (upL xs n b) (upN n b) = true ∧ val (upL xs n b) = val xs + val b * p2 n ∧ isByte (upL xs n b) ∧ 0 ≤ upN n b ∧ n ≤ upN n b ∧ 0 ≤ val xs + val b * p2 n ∧ val xs + val b * p2 n < p2 (upN n b) := by
  obtain ⟨h0, h1, h2, h3⟩ := okB_iff.1 hok
  have hv := val_nonneg hx
  have hw := val_nonneg hb
  have hp := p2_pos n
  have hm := Int.mul_nonneg hw (show 0 ≤ p2 n by omega)
  have hlt : val xs + val b * p2 n < p2 (upN n b) := join_lt h0 (by omega) h3 (val_p2 hb)
  have hu : 0 ≤ upN n b := by unfold upN; omega
  exact ⟨ok_bl hu hn (by omega) hlt, val_bl hu (by omega) hlt, bl_byte _ _, hu, by unfold upN; omega, by omega, hlt⟩
theorem up_ext {xs b : List Int} {n : Int} (hok : okB xs n = true) (hx : isByte xs) (hb : isByte b) (hn : upN n b ≤ 330000) : extB xs n (upL xs n b) (upN n b) := by
  obtain ⟨u1, u2, u3, u4, u5, -, -⟩ := up_ok hok hx hb hn
  refine ⟨hok, u1, u5, ?_, hx⟩
  obtain ⟨h0, h1, h2, h3⟩ := okB_iff.1 hok
  rw [u2, Int.add_mul_emod_self_right, Int.emod_eq_of_lt (val_nonneg hx) h3]
theorem up_app (xs b c : List Int) (n : Int) (h0 : 0 ≤ n) : upN n (b ++ c) = upN (upN n b) c ∧ val xs + val (b ++ c) * p2 n = (val xs + val b * p2 n) + val c * p2 (upN n b) := by
  refine ⟨by unfold upN; rw [List.length_append]; omega, ?_⟩
  unfold upN
  rw [val_app, Int.add_mul, p2_add h0 (by omega), Int.mul_assoc, Int.mul_comm (p2 (8 * (b.length : Int)))]; omega

/-- A state: how many numbers are to come, the state of the code, the bits that wait. -/
structure R4 where
  l : Int
  d : D4
  xs : List Int
  n : Int
def zR : R4 := ⟨0, zD, [], 0⟩
/-- What the types of its fields allow. -/
def isR (s : R4) : Prop := (-9223372036854775808 ≤ s.l ∧ s.l ≤ 9223372036854775807) ∧ isD s.d ∧ isByte s.xs ∧ (-9223372036854775808 ≤ s.n ∧ s.n ≤ 9223372036854775807)
/-- Valid. -/
def okR (s : R4) : Bool := decide (0 ≤ s.l ∧ s.l ≤ 4000) && okD s.d && okB s.xs s.n && decide (if s.l = 0 then s.n < 8 else drE s.xs s.n 0 s.d = 24)
theorem okR_iff {s : R4} : okR s = true ↔ (0 ≤ s.l ∧ s.l ≤ 4000) ∧ okD s.d = true ∧ okB s.xs s.n = true ∧ (s.l = 0 → s.n < 8) ∧ (s.l ≠ 0 → drE s.xs s.n 0 s.d = 24) := by
  unfold okR
  rw [Bool.and_eq_true, Bool.and_eq_true, Bool.and_eq_true, decide_eq_true_iff, decide_eq_true_iff]
  by_cases h : s.l = 0
  · rw [if_pos h]; exact ⟨fun g => ⟨g.1.1.1, g.1.1.2, g.1.2, fun _ => g.2, fun q => absurd h q⟩, fun g => ⟨⟨⟨g.1, g.2.1⟩, g.2.2.1⟩, g.2.2.2.1 h⟩⟩
  · rw [if_neg h]; exact ⟨fun g => ⟨g.1.1.1, g.1.1.2, g.1.2, fun q => absurd q h, fun _ => g.2⟩, fun g => ⟨⟨⟨g.1, g.2.1⟩, g.2.2.1⟩, g.2.2.2.2 h⟩⟩
theorem okR_few {s : R4} (h : okR s = true) : 0 ≤ s.n ∧ s.n ≤ 80 := by
  obtain ⟨h1, h2, h3, h4, h5⟩ := okR_iff.1 h
  have hn := (okB_iff.1 h3).1
  by_cases g : s.l = 0
  · have := h4 g; omega
  · have := dr_few h3 h2 (Int.le_refl 0) (h5 g); omega

/-- Start's answers. -/
def rsE (m : Int) : Int := if m < 0 then 2 else if 4000 < m then 4 else 0
def rsR (m : Int) : R4 := if rsE m = 0 then ⟨m, stD, [], 0⟩ else zR
/-- Check's. -/
def rcE (s : R4) : Int := if okR s = true then 0 else 8
/-- Feeding a valid state with few bytes: the error, the state behind, the numbers. -/
def ruE (s : R4) (b : List Int) : Int := fdE (upL s.xs s.n b) (upN s.n b) s.l.toNat 0 s.d
def ruL (s : R4) (b : List Int) : List Int := fdL (upL s.xs s.n b) (upN s.n b) s.l.toNat 0 s.d
def ruP (s : R4) (b : List Int) : Int := fdP (upL s.xs s.n b) (upN s.n b) s.l.toNat 0 s.d
def ruT (s : R4) (b : List Int) : D4 := fdT (upL s.xs s.n b) (upN s.n b) s.l.toNat 0 s.d
def ruK (s : R4) (b : List Int) : Nat := fdK (upL s.xs s.n b) (upN s.n b) s.l.toNat 0 s.d
def rvE (s : R4) (b : List Int) : Int := if ruE s b ≠ 0 then ruE s b else if ruK s b = 0 ∧ 8 ≤ upN s.n b - ruP s b then 38 else 0
def rvR (s : R4) (b : List Int) : R4 := ⟨(ruK s b : Nat), ruT s b, bl (upN s.n b - ruP s b) (val (upL s.xs s.n b) / p2 (ruP s b)), upN s.n b - ruP s b⟩
/-- Feed's answers. -/
def reE (s : R4) (b : List Int) : Int := if okR s = true then (if 41000 < b.length then 4 else rvE s b) else 8
def reR (s : R4) (b : List Int) : R4 := if reE s b = 0 then rvR s b else zR
def reV (s : R4) (b : List Int) : List Int := if reE s b = 0 then ruL s b else []

/-- What is known of them. -/
theorem ru_all {s : R4} {b : List Int} (hi : isR s) (h : okR s = true) (hb : isByte b) (hlen : b.length ≤ 41000) :
    okD (ruT s b) = true ∧ isD (ruT s b) ∧ 0 ≤ ruP s b ∧ ruP s b ≤ upN s.n b ∧ okV (ruL s b) ∧ ((ruL s b).length : Int) + ruK s b = s.l ∧ ruT s b = stI s.d (ruL s b) ∧ ruP s b = M09.cN s.d (ruL s b) ∧
      val (upL s.xs s.n b) % p2 (M09.cN s.d (ruL s b)) = M09.cV s.d (ruL s b) ∧ (ruE s b = 0 → 0 < ruK s b → drE (upL s.xs s.n b) (upN s.n b) (ruP s b) (ruT s b) = 24) ∧ (ruE s b = 0 ∨ ruE s b = 12) := by
  obtain ⟨h1, h2, h3, h4, h5⟩ := okR_iff.1 h
  have hf := okR_few h
  obtain ⟨u1, u2, u3, u4, u5, -, -⟩ := up_ok h3 hi.2.2.1 hb (by unfold upN; omega)
  obtain ⟨a1, a2, a3, a4, a5, a6, a7, a8, a9, a10, a11⟩ := fd_all u3 u1 s.l.toNat 0 s.d h2 hi.2.1 (Int.le_refl _) u4
  rw [p2_zero, Int.ediv_one] at a9
  refine ⟨a1, a2, a3, a4, a5, ?_, a7, by rw [Int.zero_add] at a8; exact a8, a9, a10, a11⟩
  have h6 : (ruL s b).length + ruK s b = s.l.toNat := a6
  omega

/-- The bits that wait behind feeding. -/
theorem rv_rest {s : R4} {b : List Int} (hi : isR s) (h : okR s = true) (hb : isByte b) (hlen : b.length ≤ 41000) :
    okB (rvR s b).xs (rvR s b).n = true ∧ val (rvR s b).xs = val (upL s.xs s.n b) / p2 (ruP s b) ∧ isByte (rvR s b).xs := by
  obtain ⟨h1, h2, h3, h4, h5⟩ := okR_iff.1 h
  have hf := okR_few h
  obtain ⟨u1, u2, u3, u4, u5, u6, u7⟩ := up_ok h3 hi.2.2.1 hb (by unfold upN; omega)
  obtain ⟨-, -, a3, a4, -, -, -, -, -, -, -⟩ := ru_all hi h hb hlen
  have hp := p2_pos (ruP s b)
  have v0 : 0 ≤ val (upL s.xs s.n b) / p2 (ruP s b) := Int.ediv_nonneg (by omega) (by omega)
  have v1 : val (upL s.xs s.n b) / p2 (ruP s b) < p2 (upN s.n b - ruP s b) := by
    refine Int.ediv_lt_of_lt_mul (by omega) ?_
    rw [← p2_add (by omega) a3, show upN s.n b - ruP s b + ruP s b = upN s.n b by omega, u2]; exact u7
  have hle : upN s.n b ≤ 330000 := by unfold upN; omega
  exact ⟨ok_bl (by omega) (by omega) v0 v1, val_bl (by omega) v0 v1, bl_byte _ _⟩

/-- The state behind is valid. -/
theorem rv_ok {s : R4} {b : List Int} (hi : isR s) (h : okR s = true) (hb : isByte b) (hlen : b.length ≤ 41000) (hE : rvE s b = 0) : okR (rvR s b) = true ∧ isR (rvR s b) ∧ ruE s b = 0 := by
  obtain ⟨a1, a2, a3, a4, a5, a6, a7, a8, a9, a10, a11⟩ := ru_all hi h hb hlen
  obtain ⟨r1, r2, r3⟩ := rv_rest hi h hb hlen
  obtain ⟨h1, h2, h3, h4, h5⟩ := okR_iff.1 h
  have hf := okR_few h
  obtain ⟨u1, u2, u3, u4, u5, u6, u7⟩ := up_ok h3 hi.2.2.1 hb (by unfold upN; omega)
  have hu0 : ruE s b = 0 := by
    by_cases g : ruE s b = 0
    · exact g
    · rw [rvE, if_pos g] at hE; exact absurd hE g
  rw [rvE, if_neg (by rw [hu0]; simp)] at hE
  have hK : (rvR s b).l = (ruK s b : Nat) := rfl
  have hN : (rvR s b).n = upN s.n b - ruP s b := rfl
  have hD : (rvR s b).d = ruT s b := rfl
  have hle : upN s.n b ≤ 330000 := by unfold upN; omega
  refine ⟨okR_iff.2 ⟨by omega, by rw [hD]; exact a1, r1, fun g => ?_, fun g => ?_⟩, ⟨by omega, by rw [hD]; exact a2, r3, by omega⟩, hu0⟩
  · by_cases q : ruK s b = 0 ∧ 8 ≤ upN s.n b - ruP s b
    · rw [if_pos q] at hE; omega
    · omega
  · have g1 := a10 hu0 (by omega)
    rw [← g1, hD, hN]
    exact M09.dr_shift r1 u1 (Int.le_refl _) a3 (by omega) (by rw [p2_zero, Int.ediv_one, r2])

theorem up_len {n : Int} {b c : List Int} (h : b.length + c.length ≤ 41000) (hn : n ≤ 80) : upN n (b ++ c) ≤ 330000 := by unfold upN; rw [List.length_append]; omega

/-- Pieces do not matter. -/
theorem rv_pieces {s : R4} {b c : List Int} (hi : isR s) (h : okR s = true) (hb : isByte b) (hc : isByte c) (hlen : b.length + c.length ≤ 41000) :
    (rvE s b ≠ 0 → rvE s (b ++ c) = rvE s b) ∧
    (rvE s b = 0 → rvE s (b ++ c) = rvE (rvR s b) c ∧ rvR s (b ++ c) = rvR (rvR s b) c ∧ ruL s (b ++ c) = ruL s b ++ ruL (rvR s b) c) := by
  obtain ⟨a1, a2, a3, a4, a5, a6, a7, a8, a9, a10, a11⟩ := ru_all hi h hb (by omega)
  obtain ⟨r1, r2, r3⟩ := rv_rest hi h hb (by omega)
  obtain ⟨h1, h2, h3, h4, h5⟩ := okR_iff.1 h
  have hf := okR_few h
  have hbc : isByte (b ++ c) := fun x hx => by
    rcases List.mem_append.1 hx with hx | hx
    · exact hb x hx
    · exact hc x hx
  obtain ⟨u1, u2, u3, u4, u5, u6, u7⟩ := up_ok h3 hi.2.2.1 hb (by unfold upN; omega)
  obtain ⟨v1, v2, v3, v4, v5, v6, v7⟩ := up_ok h3 hi.2.2.1 hbc (up_len hlen hf.2)
  obtain ⟨p1, p2'⟩ := up_app s.xs b c s.n hf.1
  have hext : extB (upL s.xs s.n b) (upN s.n b) (upL s.xs s.n (b ++ c)) (upN s.n (b ++ c)) := by
    refine ⟨u1, v1, by rw [p1]; unfold upN; omega, ?_, u3⟩
    rw [v2, p2', Int.add_mul_emod_self_right, u2, Int.emod_eq_of_lt u6 u7]
  obtain ⟨x1, x2⟩ := fd_ext hext s.l.toNat 0 s.d h2 hi.2.1 (Int.le_refl _) u4
  have eK : ruK s b = fdK (upL s.xs s.n b) (upN s.n b) s.l.toNat 0 s.d := rfl
  by_cases hu0 : ruE s b = 0
  case neg =>
    have e1 : rvE s b = ruE s b := by rw [rvE, if_pos hu0]
    have e2 : ruE s (b ++ c) = ruE s b := x1 hu0
    rw [e1]
    exact ⟨fun _ => by rw [rvE, e2, if_pos hu0], fun g => absurd g hu0⟩
  obtain ⟨x3, x4, x5, x6, x7⟩ := x2 hu0
  -- the others stand behind where reading stopped
  have w1 : okB (upL (rvR s b).xs (rvR s b).n c) (upN (rvR s b).n c) = true ∧ val (upL (rvR s b).xs (rvR s b).n c) = val (rvR s b).xs + val c * p2 (rvR s b).n ∧ isByte (upL (rvR s b).xs (rvR s b).n c) := by
    have hN : (rvR s b).n = upN s.n b - ruP s b := rfl
    obtain ⟨q1, q2, q3, -, -, -, -⟩ := up_ok r1 r3 hc (show upN (rvR s b).n c ≤ 330000 by have t := up_len (n := s.n) hlen hf.2; rw [p1] at t; unfold upN at t ⊢; unfold upN at hN; omega)
    exact ⟨q1, q2, q3⟩
  have hN : (rvR s b).n = upN s.n b - ruP s b := rfl
  have hsh : upN s.n (b ++ c) - ruP s b = upN (rvR s b).n c - 0 := by rw [p1, hN]; unfold upN; omega
  have hval : val (upL s.xs s.n (b ++ c)) / p2 (ruP s b) = val (upL (rvR s b).xs (rvR s b).n c) / p2 0 := by
    have hp := p2_pos (ruP s b)
    rw [v2, p2', ← u2, w1.2.1, r2, p2_zero, Int.ediv_one, hN]
    have e : p2 (upN s.n b) = p2 (upN s.n b - ruP s b) * p2 (ruP s b) := by rw [← p2_add (by omega) a3]; congr 1; omega
    rw [e, ← Int.mul_assoc, Int.add_mul_ediv_right _ _ (by omega)]
  obtain ⟨y1, y2, y3, y4, y5⟩ := fd_shift v3 v1 w1.1 (ruK s b) (ruP s b) 0 (ruT s b) a2 a3 (Int.le_refl _) hsh hval
  have z1 : ruE s (b ++ c) = ruE (rvR s b) c := x3.trans y1
  have z2 : ruL s (b ++ c) = ruL s b ++ ruL (rvR s b) c := x4.trans (by rw [show fdL (upL s.xs s.n (b ++ c)) (upN s.n (b ++ c)) (fdK (upL s.xs s.n b) (upN s.n b) s.l.toNat 0 s.d) (fdP (upL s.xs s.n b) (upN s.n b) s.l.toNat 0 s.d) (fdT (upL s.xs s.n b) (upN s.n b) s.l.toNat 0 s.d) = ruL (rvR s b) c from y2]; rfl)
  have z3 : ruP s (b ++ c) = ruP s b + ruP (rvR s b) c := by
    have t1 : ruP s (b ++ c) = fdP (upL s.xs s.n (b ++ c)) (upN s.n (b ++ c)) (ruK s b) (ruP s b) (ruT s b) := x5
    have t2 : ruP (rvR s b) c = fdP (upL (rvR s b).xs (rvR s b).n c) (upN (rvR s b).n c) (ruK s b) 0 (ruT s b) := rfl
    omega
  have z4 : ruT s (b ++ c) = ruT (rvR s b) c := x6.trans y4
  have z5 : ruK s (b ++ c) = ruK (rvR s b) c := x7.trans y5
  by_cases h38 : ruK s b = 0 ∧ 8 ≤ upN s.n b - ruP s b
  · have e1 : rvE s b = 38 := by rw [rvE, if_neg (by rw [hu0]; simp), if_pos h38]
    rw [e1]
    refine ⟨fun _ => ?_, fun g => by omega⟩
    have t0 : (rvR s b).l.toNat = 0 := by show ((ruK s b : Nat) : Int).toNat = 0; rw [h38.1]; rfl
    have t1 : ruE (rvR s b) c = 0 := by unfold ruE; rw [t0]; rfl
    have t2 : ruK (rvR s b) c = 0 := by unfold ruK; rw [t0]; rfl
    have t3 : ruP (rvR s b) c = 0 := by unfold ruP; rw [t0]; rfl
    rw [rvE, z1, t1, if_neg (by simp), z5, t2, z3, t3, if_pos ⟨rfl, by rw [p1]; unfold upN at h38 ⊢; omega⟩]
  · have e1 : rvE s b = 0 := by rw [rvE, if_neg (by rw [hu0]; simp), if_neg h38]
    refine ⟨fun g => absurd e1 g, fun _ => ?_⟩
    have t4 : upN s.n (b ++ c) - ruP s (b ++ c) = upN (rvR s b).n c - ruP (rvR s b) c := by rw [z3]; omega
    refine ⟨by rw [rvE, rvE, z1, z5, t4], ?_, z2⟩
    have t5 : val (upL s.xs s.n (b ++ c)) / p2 (ruP s (b ++ c)) = val (upL (rvR s b).xs (rvR s b).n c) / p2 (ruP (rvR s b) c) := by
      obtain ⟨k1, k2, -⟩ := rv_ok hi h hb (by omega) e1
      obtain ⟨-, -, j3, -, -, -, -, -, -, -, -⟩ := ru_all k2 k1 hc (by omega)
      have hp := p2_pos (ruP s b)
      rw [z3, p2_add a3 j3, ← Int.ediv_ediv_of_nonneg (by omega), hval, p2_zero, Int.ediv_one]
    unfold rvR
    rw [z5, z4, t4, t5]
    rfl

/-- No bytes change nothing. -/
theorem rv_nil {s : R4} (hi : isR s) (h : okR s = true) : rvE s [] = 0 ∧ rvR s [] = s ∧ ruL s [] = [] := by
  obtain ⟨h1, h2, h3, h4, h5⟩ := okR_iff.1 h
  have hf := okR_few h
  have hN : upN s.n [] = s.n := by unfold upN; simp
  have hV : val s.xs + val [] * p2 s.n = val s.xs := by simp [val]
  have hL : upL s.xs s.n [] = s.xs := by unfold upL; rw [hN, hV]; exact (ok_eq hi.2.2.1 h3).symm
  by_cases g : s.l = 0
  · have t0 : s.l.toNat = 0 := by rw [g]; rfl
    have t1 : ruE s [] = 0 := by unfold ruE; rw [t0]; rfl
    have t2 : ruK s [] = 0 := by unfold ruK; rw [t0]; rfl
    have t3 : ruP s [] = 0 := by unfold ruP; rw [t0]; rfl
    have t4 : ruT s [] = s.d := by unfold ruT; rw [t0]; rfl
    have t5 : ruL s [] = [] := by unfold ruL; rw [t0]; rfl
    have hn := h4 g
    refine ⟨by rw [rvE, t1, if_neg (by simp), t2, t3, hN, if_neg (by omega)], ?_, t5⟩
    unfold rvR
    rw [t2, t3, t4, hN, hL, p2_zero, Int.ediv_one, Int.sub_zero, ← ok_eq hi.2.2.1 h3]
    cases s; simp_all
  · obtain ⟨k, hk⟩ : ∃ k, s.l.toNat = k + 1 := ⟨s.l.toNat - 1, by omega⟩
    have e24 := h5 g
    have e0 : ¬ drE s.xs s.n 0 s.d = 0 := by rw [e24]; decide
    have t1 : ruE s [] = 0 := by unfold ruE; rw [hk, hL, hN, fdE, if_neg e0, if_pos e24]
    have t2 : ruK s [] = k + 1 := by unfold ruK; rw [hk, hL, hN, fdK, if_neg e0]
    have t3 : ruP s [] = 0 := by unfold ruP; rw [hk, hL, hN, fdP, if_neg e0]
    have t4 : ruT s [] = s.d := by unfold ruT; rw [hk, hL, hN, fdT, if_neg e0]
    have t5 : ruL s [] = [] := by unfold ruL; rw [hk, hL, hN, fdL, if_neg e0]
    refine ⟨by rw [rvE, t1, if_neg (by simp), t2, if_neg (by omega)], ?_, t5⟩
    unfold rvR
    rw [t2, t3, t4, hN, hL, p2_zero, Int.ediv_one, Int.sub_zero, ← ok_eq hi.2.2.1 h3]
    have hl : ((k + 1 : Nat) : Int) = s.l := by omega
    rw [hl]
end Go.Proofs.Ytmnhepcnbdbhoaa.M10

namespace Go.Proofs.Ytmnhepcnbdbhoaa.M10
open Go.Proofs.Ytmnhepcnbdbhoaa.M01 Go.Proofs.Ytmnhepcnbdbhoaa.M02 Go.Proofs.Ytmnhepcnbdbhoaa.M06 Go.Proofs.Ytmnhepcnbdbhoaa.M07 Go.Proofs.Ytmnhepcnbdbhoaa.M08 Go.Proofs.Ytmnhepcnbdbhoaa.MP
set_option linter.unusedVariables false

def stR (m : Int) : R4 := ⟨m, stD, [], 0⟩
theorem st_ok {m : Int} (h0 : 0 ≤ m) (h1 : m ≤ 4000) : okR (stR m) = true ∧ isR (stR m) := by
  have e : drE [] 0 0 stD = 24 := by decide +kernel
  refine ⟨okR_iff.2 ⟨⟨h0, h1⟩, M09.okD_st, (show okB [] 0 = true by decide +kernel), fun _ => ?_, fun _ => e⟩, ⟨?_, M09.isD_st', fun x hx => ?_, ?_⟩⟩
  · show (0 : Int) < 8; omega
  · show -9223372036854775808 ≤ m ∧ m ≤ 9223372036854775807; omega
  · cases hx
  · show -9223372036854775808 ≤ (0 : Int) ∧ (0 : Int) ≤ 9223372036854775807; omega
theorem rs_eq {m : Int} (h0 : 0 ≤ m) (h1 : m ≤ 4000) : rsE m = 0 ∧ rsR m = stR m := by
  have e : rsE m = 0 := by rw [rsE, if_neg (by omega), if_neg (by omega)]
  exact ⟨e, by rw [rsR, if_pos e]; rfl⟩
theorem up_nil {b : List Int} (hb : isByte b) : upL [] 0 b = b ∧ upN 0 b = 8 * (b.length : Int) ∧ okB b (8 * (b.length : Int)) = decide ((b.length : Int) ≤ 41250) := by
  have hN : upN 0 b = 8 * (b.length : Int) := by unfold upN; omega
  have hs : sz (8 * (b.length : Int)) = b.length := by unfold sz; omega
  refine ⟨?_, hN, ?_⟩
  · unfold upL
    rw [hN, p2_zero, Int.mul_one, show val [] + val b = val b by simp [val]]
    unfold bl
    rw [hs]; exact digs_val b hb
  · by_cases g : (b.length : Int) ≤ 41250
    · rw [decide_eq_true g]; exact okB_iff.2 ⟨by omega, by omega, by omega, val_p2 hb⟩
    · rw [decide_eq_false g]
      cases e : okB b (8 * (b.length : Int)) with
      | false => rfl
      | true => have := okB_iff.1 e; omega
theorem rv_err {s : R4} {b : List Int} (hi : isR s) (h : okR s = true) (hb : isByte b) (hlen : b.length ≤ 41000) : rvE s b = 0 ∨ rvE s b = 12 ∨ rvE s b = 38 := by
  obtain ⟨-, -, -, -, -, -, -, -, -, -, a11⟩ := ru_all hi h hb hlen
  rw [rvE]
  rcases a11 with g | g
  · rw [if_neg (by rw [g]; simp)]
    split
    · exact .inr (.inr rfl)
    · exact .inl rfl
  · rw [if_pos (by rw [g]; simp), g]; exact .inr (.inl rfl)

/-- The bytes of a code. -/
theorem rv_code {l : List Int} {k : Nat} (hl : okV l) (hlen : l.length ≤ 100) (hk : k ≤ l.length) :
    let B := M09.cL stD l
    B.length ≤ 2000 ∧ (B.length : Int) = (M09.cN stD l + 7) / 8 ∧ isByte B ∧ ruE (stR k) B = 0 ∧ ruL (stR k) B = l.take k ∧ ruK (stR k) B = 0 ∧ ruP (stR k) B = M09.cN stD (l.take k) ∧ ruT (stR k) B = stI stD (l.take k) ∧ upN 0 B = 8 * (B.length : Int) ∧
      M09.cN stD (l.take k) ≤ M09.cN stD l ∧ 0 ≤ M09.cN stD (l.take k) := by
  intro B
  obtain ⟨c1, c2, c3, c4, c5, c6⟩ := M09.c_bd M09.isD_st' M09.okD_st hl (by omega)
  have hBb : isByte B := bl_byte _ _
  have hBl : (B.length : Int) = (M09.cN stD l + 7) / 8 := (okB_iff.1 c5).2.2.1
  have hB2 : B.length ≤ 2000 := by omega
  obtain ⟨n1, n2, n3⟩ := up_nil hBb
  have hok : okB B (8 * (B.length : Int)) = true := by rw [n3]; exact decide_eq_true (by omega)
  have hpt := pcd_ok M09.isD_st' M09.okD_st (okV_take hl k)
  have hst := stI_ok M09.isD_st' M09.okD_st (okV_take hl k)
  have hpd := pcd_ok hst.2 hst.1 (fun x hx => hl x (List.mem_of_mem_drop hx) : okV (l.drop k))
  have eS : pS (pcd stD l) = pS (pcd stD (l.take k)) + pS (pcd (stI stD (l.take k)) (l.drop k)) := by
    conv => lhs; rw [← List.take_append_drop k l]
    rw [M09.pcd_app, M09.pS_app]
  have eV : pV (pcd stD l) = pV (pcd stD (l.take k)) + pV (pcd (stI stD (l.take k)) (l.drop k)) * p2 (pS (pcd stD (l.take k))) := by
    conv => lhs; rw [← List.take_append_drop k l]
    rw [M09.pcd_app, M09.pV_app (m := 81) (by omega) _ _ hpt]
  have hS1 := pS_bd (m := 81) (by omega) _ hpt
  have hS2 := pS_bd (m := 81) (by omega) _ hpd
  have hN : M09.cN stD l = pS (pcd stD l) := rfl
  have hNk : M09.cN stD (l.take k) = pS (pcd stD (l.take k)) := rfl
  have hlk : (l.take k).length = k := by rw [List.length_take]; omega
  obtain ⟨e1, e2, e3⟩ := M09.rd_code hok (l.take k) 0 stD (pV (pcd (stI stD (l.take k)) (l.drop k))) M09.okD_st M09.isD_st' (Int.le_refl _) (okV_take hl k) (by rw [p2_zero, Int.ediv_one, c6, ← eV]; rfl) (by omega)
  rw [hlk] at e1 e2 e3
  obtain ⟨f1, f2, f3, f4, f5⟩ := fd_rd k 0 stD e1
  have hkn : (stR (k : Int)).l.toNat = k := rfl
  have g1 : ruE (stR k) B = 0 := by unfold ruE; rw [hkn]; show fdE (upL [] 0 B) (upN 0 B) k 0 stD = 0; rw [n1, n2]; exact f1
  have g2 : ruL (stR k) B = l.take k := by unfold ruL; rw [hkn]; show fdL (upL [] 0 B) (upN 0 B) k 0 stD = _; rw [n1, n2, f2, e2]
  have g3 : ruK (stR k) B = 0 := by unfold ruK; rw [hkn]; show fdK (upL [] 0 B) (upN 0 B) k 0 stD = 0; rw [n1, n2]; exact f5
  have g4 : ruP (stR k) B = M09.cN stD (l.take k) := by unfold ruP; rw [hkn]; show fdP (upL [] 0 B) (upN 0 B) k 0 stD = _; rw [n1, n2, f3, e3, hNk]; omega
  obtain ⟨o1, o2⟩ := st_ok (m := (k : Int)) (by omega) (by omega)
  have g5 : ruT (stR k) B = stI stD (l.take k) := by
    have := (ru_all o2 o1 hBb (by omega)).2.2.2.2.2.2.1
    rw [this, g2]; rfl
  exact ⟨hB2, hBl, hBb, g1, g2, g3, g4, g5, n2, by omega, by omega⟩

/-- The bits that were fed are the codes of the numbers, and those that wait. -/
theorem rv_waits {m : Int} {b : List Int} (h0 : 0 ≤ m) (h1 : m ≤ 4000) (hb : isByte b) (hlen : b.length ≤ 190) (hE : rvE (stR m) b = 0) :
    let s := stR m
    okV (ruL s b) ∧ (ruL s b).length ≤ 4000 ∧ joE (M09.cL stD (ruL s b)) (M09.cN stD (ruL s b)) (rvR s b).xs (rvR s b).n = 0 ∧ joL (M09.cL stD (ruL s b)) (M09.cN stD (ruL s b)) (rvR s b).xs (rvR s b).n = b ∧ joN (M09.cL stD (ruL s b)) (M09.cN stD (ruL s b)) (rvR s b).xs (rvR s b).n = 8 * (b.length : Int) ∧ M09.cN stD (ruL s b) ≤ 8 * (b.length : Int) := by
  intro s
  obtain ⟨o1, o2⟩ := st_ok h0 h1
  obtain ⟨a1, a2, a3, a4, a5, a6, a7, a8, a9, a10, a11⟩ := ru_all o2 o1 hb (by omega)
  obtain ⟨r1, r2, r3⟩ := rv_rest o2 o1 hb (by omega)
  obtain ⟨n1, n2, n3⟩ := up_nil hb
  have hm : ((ruL s b).length : Int) + ruK s b = m := a6
  have hl4 : (ruL s b).length ≤ 4000 := by omega
  obtain ⟨c1, c2, c3, c4, c5, c6⟩ := M09.c_bd M09.isD_st' M09.okD_st a5 hl4
  have hu : upN (stR m).n b = 8 * (b.length : Int) := n2
  have hP : ruP s b = M09.cN stD (ruL s b) := a8
  have hN : (rvR s b).n = 8 * (b.length : Int) - M09.cN stD (ruL s b) := by show upN (stR m).n b - ruP s b = _; rw [hu, hP]
  have hle : M09.cN stD (ruL s b) ≤ 8 * (b.length : Int) := by have := a4; rw [hu] at this; have t : ruP s b = ruP (stR m) b := rfl; omega
  have hval : val (upL (stR m).xs (stR m).n b) = val b := by show val (upL [] 0 b) = val b; rw [n1]
  have eJ : joE (M09.cL stD (ruL s b)) (M09.cN stD (ruL s b)) (rvR s b).xs (rvR s b).n = 0 := by
    rw [joE, if_pos c5, if_pos r1, if_neg (by omega)]
  refine ⟨a5, hl4, eJ, ?_, by rw [joN, if_pos eJ, hN]; omega, hle⟩
  have hsum : M09.cV stD (ruL s b) + val (rvR s b).xs * p2 (M09.cN stD (ruL s b)) = val b := by
    have e9 : val b % p2 (M09.cN stD (ruL s b)) = M09.cV stD (ruL s b) := by have := a9; rw [hval] at this; exact this
    have e2 : val (rvR s b).xs = val b / p2 (M09.cN stD (ruL s b)) := by
      have := r2
      rw [hval] at this
      rw [← hP]; exact this
    rw [← e9, e2, Int.mul_comm]; exact Int.emod_add_mul_ediv _ _
  rw [joL, if_pos eJ, c6, hsum, hN, show M09.cN stD (ruL s b) + (8 * (b.length : Int) - M09.cN stD (ruL s b)) = 8 * (b.length : Int) by omega]
  have hs : sz (8 * (b.length : Int)) = b.length := by unfold sz; omega
  unfold bl
  rw [hs]; exact digs_val b hb
end Go.Proofs.Ytmnhepcnbdbhoaa.M10

/- Reading until an error, and at most as many numbers as there are bits. No Go here. -/
import Derived.Test.YtmnhepcnbdbhoaaGN
namespace Go.Proofs.Ytmnhepcnbdbhoaa.M10
open Go.Proofs.Ytmnhepcnbdbhoaa.M01 Go.Proofs.Ytmnhepcnbdbhoaa.M02 Go.Proofs.Ytmnhepcnbdbhoaa.M06 Go.Proofs.Ytmnhepcnbdbhoaa.M07 Go.Proofs.Ytmnhepcnbdbhoaa.M08 Go.Proofs.Ytmnhepcnbdbhoaa.MP
set_option linter.unusedVariables false

/-- No more numbers than bits. -/
theorem fd_min {xs : List Int} {n : Int} (hby : isByte xs) (hok : okB xs n = true) (k : Nat) : ∀ l p d, okD d = true → isD d → 0 ≤ p → n - p ≤ k → k ≤ l →
    fdE xs n k p d = fdE xs n l p d ∧ fdL xs n k p d = fdL xs n l p d ∧ fdP xs n k p d = fdP xs n l p d ∧ fdT xs n k p d = fdT xs n l p d := by
  induction k with
  | zero =>
    intro l p d hd hi hp hn hl
    cases l with
    | zero => exact ⟨rfl, rfl, rfl, rfl⟩
    | succ l =>
      have e : drE xs n p d = 24 := by rw [drE, if_pos (And.intro hok hd), if_neg (by omega), if_pos (by omega)]
      have e0 : ¬ drE xs n p d = 0 := by omega
      simp only [fdE, fdL, fdP, fdT, if_neg e0, if_pos e]
      exact ⟨trivial, trivial, trivial, trivial⟩
  | succ k ih =>
    intro l p d hd hi hp hn hl
    obtain ⟨l, rfl⟩ : ∃ m, l = m + 1 := ⟨l - 1, by omega⟩
    by_cases h0 : drE xs n p d = 0
    · obtain ⟨t1, t2, t3, t4, t5, t6⟩ := dr_step hby hi h0
      obtain ⟨i1, i2, i3, i4⟩ := ih l _ _ t1 t2 t3 (show n - drX xs n p d ≤ (k : Nat) by omega) (by omega)
      simp only [fdE, fdL, fdP, fdT, if_pos h0]
      exact ⟨i1, by rw [i2], i3, i4⟩
    · simp only [fdE, fdL, fdP, fdT, if_neg h0]
      exact ⟨trivial, trivial, trivial, trivial⟩

/-- Reading stops at the first error. -/
theorem rd_stop {xs : List Int} {n : Int} (j : Nat) : ∀ k p d, j < k → M09.rdE xs n j p d = 0 → drE xs n (M09.rdP xs n j p d) (M09.rdT xs n j p d) ≠ 0 →
    M09.rdE xs n k p d = drE xs n (M09.rdP xs n j p d) (M09.rdT xs n j p d) ∧ fdL xs n k p d = M09.rdL xs n j p d ∧ fdP xs n k p d = M09.rdP xs n j p d ∧ fdT xs n k p d = M09.rdT xs n j p d := by
  induction j with
  | zero =>
    intro k p d hk _ h
    obtain ⟨k, rfl⟩ : ∃ m, k = m + 1 := ⟨k - 1, by omega⟩
    simp only [M09.rdP, M09.rdT] at h ⊢
    simp only [M09.rdE, M09.rdL, fdL, fdP, fdT, if_neg h]
    exact ⟨trivial, trivial, trivial, trivial⟩
  | succ j ih =>
    intro k p d hk h1 h
    obtain ⟨k, rfl⟩ : ∃ m, k = m + 1 := ⟨k - 1, by omega⟩
    rw [M09.rdE] at h1
    by_cases h0 : drE xs n p d = 0
    · rw [if_pos h0] at h1
      rw [M09.rdP, M09.rdT] at h ⊢
      obtain ⟨i1, i2, i3, i4⟩ := ih k _ _ (by omega) h1 h
      rw [M09.rdE, if_pos h0, fdL, if_pos h0, fdP, if_pos h0, fdT, if_pos h0, M09.rdL]
      exact ⟨i1, by rw [i2], i3, i4⟩
    · rw [if_neg h0] at h1; exact absurd h1 h0

/-- The error of reading at most some. -/
theorem fd_err (xs : List Int) (n : Int) (k : Nat) : ∀ p d, fdE xs n k p d = if M09.rdE xs n k p d = 24 then 0 else M09.rdE xs n k p d := by
  induction k with
  | zero => intro p d; rfl
  | succ k ih =>
    intro p d
    by_cases h0 : drE xs n p d = 0
    · rw [fdE, if_pos h0, M09.rdE, if_pos h0]; exact ih _ _
    · rw [fdE, if_neg h0, M09.rdE, if_neg h0]

/-- What gathering gives, told of a valid state that is fed: numbers asked for are at most the bits. -/
theorem ru_gather {s : R4} {b : List Int} (hi : isR s) (h : okR s = true) (hb : isByte b) (hlen : b.length ≤ 41000) (K : Nat) (hK : (K : Int) = if upN s.n b < s.l then upN s.n b else s.l) :
    let X := upL s.xs s.n b
    let N := upN s.n b
    (M09.rdE X N K 0 s.d = 0 ∨ M09.rdE X N K 0 s.d = 24 → ruE s b = 0) ∧ (M09.rdE X N K 0 s.d ≠ 0 → M09.rdE X N K 0 s.d ≠ 24 → ruE s b = M09.rdE X N K 0 s.d) ∧ fdL X N K 0 s.d = ruL s b ∧ fdP X N K 0 s.d = ruP s b ∧ fdT X N K 0 s.d = ruT s b := by
  intro X N
  obtain ⟨h1, h2, h3, h4, h5⟩ := okR_iff.1 h
  have hf := okR_few h
  obtain ⟨u1, u2, u3, u4, u5, -, -⟩ := up_ok h3 hi.2.2.1 hb (by unfold upN; omega)
  have key : fdE X N K 0 s.d = ruE s b ∧ fdL X N K 0 s.d = ruL s b ∧ fdP X N K 0 s.d = ruP s b ∧ fdT X N K 0 s.d = ruT s b := by
    by_cases g : upN s.n b < s.l
    · rw [if_pos g] at hK
      exact fd_min u3 u1 K s.l.toNat 0 s.d h2 hi.2.1 (Int.le_refl _) (show N - 0 ≤ (K : Int) by show upN s.n b - 0 ≤ (K : Int); omega) (by omega)
    · rw [if_neg g] at hK
      have e : s.l.toNat = K := by omega
      unfold ruE ruL ruP ruT
      rw [e]
      exact ⟨rfl, rfl, rfl, rfl⟩
  obtain ⟨k1, k2, k3, k4⟩ := key
  rw [fd_err] at k1
  refine ⟨fun g => ?_, fun g1 g2 => ?_, k2, k3, k4⟩
  · rcases g with g | g
    · rw [g] at k1; rw [← k1]; rfl
    · rw [if_pos g] at k1; exact k1.symm
  · rw [if_neg g2] at k1; exact k1.symm
end Go.Proofs.Ytmnhepcnbdbhoaa.M10

/- Plain facts on runs of ones: how many ones a number has at its low end, and what numbers put behind each other look like. No Go here. -/
import Derived.Test.YtbhoodhcipegbaaMath02
namespace Go.Proofs.Ytbhoodhcipegbaa.M06
open Go.Proofs.Ytbhoodhcipegbaa.M01 Go.Proofs.Ytbhoodhcipegbaa.M02

/-- How many bits the run of n has. -/
def runS (n : Int) : Int := if n = 48 then 48 else n + 1
/-- How many of the k lowest bits are ones, up to the first zero. -/
def cnt (X : Int) : Nat → Nat
  | 0 => 0
  | k + 1 => if X % 2 = 1 then cnt (X / 2) k + 1 else 0

theorem runS_bd {n : Int} (h0 : 0 ≤ n) (h1 : n ≤ 48) : n ≤ runS n ∧ 1 ≤ runS n ∧ runS n ≤ 48 ∧ runS n ≤ n + 1 := by unfold runS; split <;> omega
theorem runS_lt {n : Int} (h1 : n < 48) : runS n = n + 1 := by unfold runS; rw [if_neg (by omega)]
theorem runS_48 : runS 48 = 48 := rfl

/-- Length's answer. -/
def lenE (n : Int) : Int := if n < 0 ∨ 48 < n then 2 else 0
def lenN (n : Int) : Int := if n < 0 ∨ 48 < n then 0 else runS n
/-- Write's answers. -/
def wrE (xs : List Int) (n m : Int) : Int := if okB xs n then (if m < 0 ∨ 48 < m then 2 else if 330000 < n + runS m then 18 else 0) else 8
def wrL (xs : List Int) (n m : Int) : List Int := if wrE xs n m = 0 then bl (n + runS m) (val xs + (p2 m - 1) * p2 n) else []
def wrN (xs : List Int) (n m : Int) : Int := if wrE xs n m = 0 then n + runS m else 0
/-- Read's answers. -/
def ons (xs : List Int) (p : Int) : Int := (cnt (val xs / p2 p) 48 : Nat)
def rdE (xs : List Int) (n p : Int) : Int := if okB xs n then (if p < 0 then 2 else if n ≤ p then 24 else if ons xs p < 48 ∧ n ≤ p + ons xs p then 24 else 0) else 8
def rdN (xs : List Int) (n p : Int) : Int := if rdE xs n p = 0 then ons xs p else 0
def rdX (xs : List Int) (n p : Int) : Int := if rdE xs n p = 0 then p + runS (ons xs p) else 0

theorem cnt_le (k : Nat) : ∀ X, cnt X k ≤ k := by
  induction k with
  | zero => intro X; exact Nat.le_refl _
  | succ k ih =>
    intro X; rw [cnt]; split
    · have := ih (X / 2); omega
    · omega

theorem ons_bd (xs : List Int) (p : Int) : 0 ≤ ons xs p ∧ ons xs p ≤ 48 := by
  have := cnt_le 48 (val xs / p2 p)
  unfold ons; omega

theorem div_succ (V : Int) {p : Int} (hp : 0 ≤ p) : V / p2 p / 2 = V / p2 (p + 1) := by
  have := p2_pos p
  rw [p2_add hp (by omega), show p2 1 = 2 from rfl, Int.ediv_ediv_of_nonneg (by omega)]

theorem cnt_one (V : Int) {p : Int} (hp : 0 ≤ p) (k : Nat) (h : V / p2 p % 2 = 1) : cnt (V / p2 p) (k + 1) = cnt (V / p2 (p + 1)) k + 1 := by
  rw [cnt, if_pos h, div_succ V hp]
theorem cnt_zero (X : Int) (k : Nat) (h : X % 2 ≠ 1) : cnt X k = 0 := by
  cases k with
  | zero => rfl
  | succ k => rw [cnt, if_neg h]

theorem pow_succ2 (n : Nat) : p2 ((n + 1 : Nat) : Int) = 2 * p2 (n : Int) := by
  unfold p2; rw [show ((n + 1 : Nat) : Int).toNat = n + 1 by omega, show ((n : Nat) : Int).toNat = n by omega, Int.pow_succ, Int.mul_comm]

/-- The ones of a run with a zero behind it, whatever follows. -/
theorem cnt_run (n : Nat) : ∀ (k : Nat) (H : Int), n ≤ k → cnt (p2 n - 1 + H * (2 * p2 n)) k = n := by
  induction n with
  | zero => intro k H _; apply cnt_zero; rw [show p2 ((0 : Nat) : Int) = 1 from rfl]; omega
  | succ n ih =>
    intro k H hk
    obtain ⟨k, rfl⟩ : ∃ j, k = j + 1 := ⟨k - 1, by omega⟩
    have e : p2 ((n + 1 : Nat) : Int) - 1 + H * (2 * p2 ((n + 1 : Nat) : Int)) = 2 * (p2 (n : Int) - 1 + H * (2 * p2 (n : Int))) + 1 := by
      rw [pow_succ2]
      have : H * (2 * (2 * p2 (n : Int))) = 2 * (H * (2 * p2 (n : Int))) := by rw [Int.mul_left_comm]
      omega
    rw [e, cnt, if_pos (by omega), show (2 * (p2 (n : Int) - 1 + H * (2 * p2 (n : Int))) + 1) / 2 = p2 (n : Int) - 1 + H * (2 * p2 (n : Int)) by omega, ih k H (by omega)]

/-- .. of all ones, whatever follows. -/
theorem cnt_full (k : Nat) : ∀ H : Int, cnt (p2 k - 1 + H * p2 k) k = k := by
  induction k with
  | zero => intro H; rfl
  | succ k ih =>
    intro H
    have e : p2 ((k + 1 : Nat) : Int) - 1 + H * p2 ((k + 1 : Nat) : Int) = 2 * (p2 (k : Int) - 1 + H * p2 (k : Int)) + 1 := by
      rw [pow_succ2]
      have : H * (2 * p2 (k : Int)) = 2 * (H * p2 (k : Int)) := by rw [Int.mul_left_comm]
      omega
    rw [e, cnt, if_pos (by omega), show (2 * (p2 (k : Int) - 1 + H * p2 (k : Int)) + 1) / 2 = p2 (k : Int) - 1 + H * p2 (k : Int) by omega, ih H]

theorem cnt_runS {n : Int} (h0 : 0 ≤ n) (h1 : n ≤ 48) (H : Int) : (cnt (p2 n - 1 + H * p2 (runS n)) 48 : Int) = n := by
  obtain ⟨k, rfl⟩ : ∃ k : Nat, n = k := ⟨n.toNat, by omega⟩
  by_cases h : (k : Int) = 48
  · obtain rfl : k = 48 := by omega
    rw [show runS ((48 : Nat) : Int) = ((48 : Nat) : Int) from rfl, cnt_full 48 H]
  · rw [runS_lt (by omega), show ((k : Int) + 1) = ((k + 1 : Nat) : Int) by omega, pow_succ2, cnt_run k 48 H (by omega)]

/-- What is read is the run. -/
theorem cnt_low (j : Nat) : ∀ (X : Int), X % p2 (min (cnt X j + 1) j : Nat) = p2 (cnt X j) - 1 := by
  induction j with
  | zero => intro X; rw [show min (cnt X 0 + 1) 0 = 0 by omega]; rw [show p2 ((0 : Nat) : Int) = 1 from rfl, Int.emod_one]; rfl
  | succ j ih =>
    intro X
    rw [cnt]
    split
    · rename_i h
      have h2 := ih (X / 2)
      generalize cnt (X / 2) j = c at *
      rw [show min (c + 1 + 1) (j + 1) = min (c + 1) j + 1 by omega, pow_succ2, pow_succ2]
      generalize min (c + 1) j = m at *
      have hp := p2_pos (m : Int)
      have e : X % (2 * p2 (m : Int)) = 2 * (X / 2 % p2 (m : Int)) + X % 2 := by
        have h1 := Int.emod_add_mul_ediv X (2 * p2 (m : Int))
        have h3 := Int.emod_add_mul_ediv (X / 2) (p2 (m : Int))
        have h4 : X / (2 * p2 (m : Int)) = X / 2 / p2 (m : Int) := (Int.ediv_ediv_of_nonneg (by omega)).symm
        rw [h4, Int.mul_assoc] at h1
        omega
      rw [e, h2]; omega
    · rename_i h
      rw [show min (0 + 1) (j + 1) = 1 by omega, show p2 ((1 : Nat) : Int) = 2 from rfl, show p2 ((0 : Nat) : Int) = 1 from rfl]; omega

theorem ons_low (xs : List Int) (p : Int) : val xs / p2 p % p2 (runS (ons xs p)) = p2 (ons xs p) - 1 := by
  have h := cnt_low 48 (val xs / p2 p)
  have hl := cnt_le 48 (val xs / p2 p)
  unfold ons
  generalize cnt (val xs / p2 p) 48 = c at *
  rw [show runS ((c : Nat) : Int) = ((min (c + 1) 48 : Nat) : Int) by unfold runS; split <;> omega]
  exact h

/-- The bits up to the end of the ones are there. -/
theorem cnt_in {n V : Int} (h0 : 0 ≤ V) (h1 : V < p2 n) : ∀ (k : Nat) {p : Int}, 0 ≤ p → p ≤ n → p + cnt (V / p2 p) k ≤ n := by
  intro k
  induction k with
  | zero => intro p _ h; rw [cnt]; omega
  | succ k ih =>
    intro p hp h
    by_cases hb : V / p2 p % 2 = 1
    · rw [cnt_one V hp k hb]
      by_cases hpn : p = n
      · subst hpn; rw [Int.ediv_eq_zero_of_lt h0 h1] at hb; omega
      · have := ih (p := p + 1) (by omega) (by omega); omega
    · rw [cnt_zero _ _ hb]; omega

theorem ons_in {xs : List Int} {n p : Int} (hb : isByte xs) (hok : okB xs n = true) (hp : 0 ≤ p) (h : p ≤ n) : p + ons xs p ≤ n := by
  obtain ⟨_, _, _, h1⟩ := okB_iff.1 hok
  exact cnt_in (val_nonneg hb) h1 48 hp h

/-- The ones go on: a round of counting. -/
theorem ons_more {xs : List Int} {p : Int} (hp : 0 ≤ p) {j : Nat} (hj : j < 48) (hs : ons xs p = j + (cnt (val xs / p2 (p + j)) (48 - j) : Nat)) :
    (val xs / p2 (p + j) % 2 = 1 → ons xs p = (j + 1 : Nat) + (cnt (val xs / p2 (p + (j + 1 : Nat))) (48 - (j + 1)) : Nat)) ∧ (val xs / p2 (p + j) % 2 ≠ 1 → ons xs p = j) := by
  refine ⟨fun h => ?_, fun h => ?_⟩
  · rw [hs, show 48 - j = (48 - (j + 1)) + 1 by omega, cnt_one _ (by omega) _ h, show p + ((j + 1 : Nat) : Int) = p + j + 1 by omega]; omega
  · rw [hs, cnt_zero _ _ h]; omega

theorem wr_put {xs : List Int} {n m : Int} (h0 : 0 ≤ m) (h1 : m ≤ 48) :
    0 ≤ p2 m - 1 ∧ p2 m - 1 < 18446744073709551616 ∧ putE xs n (p2 m - 1) (runS m) = wrE xs n m ∧ putL xs n (p2 m - 1) (runS m) = wrL xs n m ∧ putN xs n (p2 m - 1) (runS m) = wrN xs n m := by
  have hp := p2_pos m
  obtain ⟨r0, r1, r2, _⟩ := runS_bd h0 h1
  have hle := p2_le r0
  have h64 := p2_le64 (show m ≤ 64 by omega)
  have e : putE xs n (p2 m - 1) (runS m) = wrE xs n m := by
    unfold putE wrE
    rw [if_neg (show ¬ (runS m < 0 ∨ 64 < runS m) by omega), if_neg (show ¬ (m < 0 ∨ 48 < m) by omega), if_neg (show ¬ p2 (runS m) ≤ p2 m - 1 by omega)]
  exact ⟨by omega, by omega, e, by unfold putL wrL; rw [e], by unfold putN wrN; rw [e]⟩

/-- Runs behind each other, and how long they are. -/
def runsV : List Int → Int
  | [] => 0
  | m :: l => (p2 m - 1) + runsV l * p2 (runS m)
def runsS : List Int → Int
  | [] => 0
  | m :: l => runS m + runsS l
def runOK (l : List Int) : Prop := ∀ m ∈ l, 0 ≤ m ∧ m ≤ 48

theorem runsS_bd (l : List Int) (h : runOK l) : 0 ≤ runsS l ∧ runsS l ≤ 48 * l.length := by
  induction l with
  | nil => simp [runsS]
  | cons m l ih =>
    have h1 := h m (by simp)
    have h2 := ih (fun x hx => h x (by simp [hx]))
    have h3 := runS_bd h1.1 h1.2
    rw [runsS, List.length_cons]; omega

theorem run_lt {m : Int} (h0 : 0 ≤ m) (h1 : m ≤ 48) : 0 ≤ p2 m - 1 ∧ p2 m - 1 < p2 (runS m) := by
  have := p2_pos m
  have := p2_le (runS_bd h0 h1).1
  omega

theorem runsV_bd (l : List Int) (h : runOK l) : 0 ≤ runsV l ∧ runsV l < p2 (runsS l) := by
  induction l with
  | nil => exact ⟨Int.le_refl _, by decide +kernel⟩
  | cons m l ih =>
    have h1 := h m (by simp)
    have hl : runOK l := fun x hx => h x (by simp [hx])
    have h2 := ih hl
    have h3 := run_lt h1.1 h1.2
    have h4 := runS_bd h1.1 h1.2
    rw [runsV, runsS]
    have hp := p2_pos (runS m)
    have := Int.mul_nonneg h2.1 (show 0 ≤ p2 (runS m) by omega)
    exact ⟨by omega, join_lt (by omega) (runsS_bd l hl).1 h3.2 h2.2⟩

theorem runsS_snoc (l : List Int) (m : Int) : runsS (l ++ [m]) = runsS l + runS m := by
  induction l with
  | nil => simp [runsS]
  | cons x l ih => rw [List.cons_append, runsS, runsS, ih]; omega

theorem runsV_snoc (l : List Int) (m : Int) (h : runOK l) : runsV (l ++ [m]) = runsV l + (p2 m - 1) * p2 (runsS l) := by
  induction l with
  | nil => simp [runsV, runsS, p2_zero]
  | cons x l ih =>
    have h1 := h x (by simp)
    have hl : runOK l := fun x hx => h x (by simp [hx])
    have h2 := runS_bd h1.1 h1.2
    rw [List.cons_append, runsV, runsV, ih hl, runsS, p2_add (by omega) (runsS_bd l hl).1, Int.add_mul, Int.mul_assoc, Int.mul_comm (p2 (runsS l))]; omega

theorem runs_at (l : List Int) (h : runOK l) : ∀ (i : Nat), i < l.length → ∀ m, l[i]? = some m → runsV l / p2 (runsS (l.take i)) = (p2 m - 1) + runsV (l.drop (i + 1)) * p2 (runS m) ∧ runsS (l.take (i + 1)) = runsS (l.take i) + runS m := by
  induction l with
  | nil => intro i hi; simp at hi
  | cons x l ih =>
    intro i hi m hm
    have h1 := h x (by simp)
    have hl : runOK l := fun x hx => h x (by simp [hx])
    have h2 := runS_bd h1.1 h1.2
    cases i with
    | zero =>
      simp at hm; subst hm
      simp [runsS, p2_zero, runsV]
    | succ i =>
      have hi' : i < l.length := by simpa using hi
      have hm' : l[i]? = some m := by simpa using hm
      obtain ⟨e1, e2⟩ := ih hl i hi' m hm'
      have ht : runOK (l.take i) := fun x hx => hl x (List.mem_of_mem_take hx)
      have hp := p2_pos (runS x)
      rw [List.take_succ_cons, List.take_succ_cons, runsS, runsS, List.drop_succ_cons, e2]
      refine ⟨?_, by omega⟩
      rw [p2_add (by omega) (runsS_bd _ ht).1, ← Int.ediv_ediv_of_nonneg (by omega), runsV]
      have h3 := run_lt h1.1 h1.2
      rw [Int.add_mul_ediv_right _ _ (by omega), Int.ediv_eq_zero_of_lt h3.1 h3.2, Int.zero_add, e1]
end Go.Proofs.Ytbhoodhcipegbaa.M06

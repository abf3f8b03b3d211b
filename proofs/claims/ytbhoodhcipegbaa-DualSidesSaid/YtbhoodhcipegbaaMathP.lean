/- Pieces of bits behind each other: their number, and where each stands. No Go here. -/
import Derived.Test.YtbhoodhcipegbaaMath06
namespace Go.Proofs.Ytbhoodhcipegbaa.MP
open Go.Proofs.Ytbhoodhcipegbaa.M01 Go.Proofs.Ytbhoodhcipegbaa.M02 Go.Proofs.Ytbhoodhcipegbaa.M06
set_option linter.unusedVariables false

/-- A piece is how many bits it has, and their number. -/
def pS : List (Int × Int) → Int
  | [] => 0
  | p :: l => p.1 + pS l
def pV : List (Int × Int) → Int
  | [] => 0
  | p :: l => p.2 + pV l * p2 p.1
def okP (m : Int) (l : List (Int × Int)) : Prop := ∀ p ∈ l, 0 ≤ p.1 ∧ p.1 ≤ m ∧ 0 ≤ p.2 ∧ p.2 < p2 p.1

theorem okP_take {m : Int} {l : List (Int × Int)} (h : okP m l) (i : Nat) : okP m (l.take i) := fun x hx => h x (List.mem_of_mem_take hx)
theorem okP_drop {m : Int} {l : List (Int × Int)} (h : okP m l) (i : Nat) : okP m (l.drop i) := fun x hx => h x (List.mem_of_mem_drop hx)
theorem okP_snoc {m : Int} {l : List (Int × Int)} {p : Int × Int} (h : okP m l) (hp : 0 ≤ p.1 ∧ p.1 ≤ m ∧ 0 ≤ p.2 ∧ p.2 < p2 p.1) : okP m (l ++ [p]) := by
  intro x hx
  rcases List.mem_append.1 hx with hx | hx
  · exact h x hx
  · simp at hx; subst hx; exact hp

theorem pS_bd {m : Int} (hm : 0 ≤ m) (l : List (Int × Int)) (h : okP m l) : 0 ≤ pS l ∧ pS l ≤ m * l.length := by
  induction l with
  | nil => simp [pS]
  | cons p l ih =>
    have h1 := h p (by simp)
    have h2 := ih (fun x hx => h x (by simp [hx]))
    rw [pS, List.length_cons]
    have : m * ((l.length + 1 : Nat) : Int) = m * l.length + m := by rw [Int.natCast_add, Int.mul_add]; simp
    omega

theorem pV_bd {m : Int} (hm : 0 ≤ m) (l : List (Int × Int)) (h : okP m l) : 0 ≤ pV l ∧ pV l < p2 (pS l) := by
  induction l with
  | nil => exact ⟨Int.le_refl _, by decide +kernel⟩
  | cons p l ih =>
    have h1 := h p (by simp)
    have hl : okP m l := fun x hx => h x (by simp [hx])
    have h2 := ih hl
    rw [pV, pS]
    have hp := p2_pos p.1
    have := Int.mul_nonneg h2.1 (show 0 ≤ p2 p.1 by omega)
    exact ⟨by omega, join_lt h1.1 (pS_bd hm l hl).1 h1.2.2.2 h2.2⟩

theorem pS_snoc (l : List (Int × Int)) (p : Int × Int) : pS (l ++ [p]) = pS l + p.1 := by
  induction l with
  | nil => simp [pS]
  | cons x l ih => rw [List.cons_append, pS, pS, ih]; omega

theorem pV_snoc {m : Int} (hm : 0 ≤ m) (l : List (Int × Int)) (p : Int × Int) (h : okP m l) : pV (l ++ [p]) = pV l + p.2 * p2 (pS l) := by
  induction l with
  | nil => simp [pV, pS, p2_zero]
  | cons x l ih =>
    have h1 := h x (by simp)
    have hl : okP m l := fun y hy => h y (by simp [hy])
    rw [List.cons_append, pV, pV, ih hl, pS, p2_add h1.1 (pS_bd hm l hl).1, Int.add_mul, Int.mul_assoc, Int.mul_comm (p2 (pS l))]; omega

theorem pS_split (l : List (Int × Int)) (i : Nat) : pS l = pS (l.take i) + pS (l.drop i) := by
  induction l generalizing i with
  | nil => simp [pS]
  | cons x l ih =>
    cases i with
    | zero => simp [pS]
    | succ i => rw [List.take_succ_cons, List.drop_succ_cons, pS, pS, ih i]; omega

theorem p_at {m : Int} (hm : 0 ≤ m) (l : List (Int × Int)) (h : okP m l) : ∀ (i : Nat), i < l.length → ∀ p, l[i]? = some p → pV l / p2 (pS (l.take i)) = p.2 + pV (l.drop (i + 1)) * p2 p.1 ∧ pS (l.take (i + 1)) = pS (l.take i) + p.1 := by
  induction l with
  | nil => intro i hi; simp at hi
  | cons x l ih =>
    intro i hi p hp
    have h1 := h x (by simp)
    have hl : okP m l := fun y hy => h y (by simp [hy])
    cases i with
    | zero =>
      simp at hp; subst hp
      simp [pS, p2_zero, pV]
    | succ i =>
      have hi' : i < l.length := by simpa using hi
      have hp' : l[i]? = some p := by simpa using hp
      obtain ⟨e1, e2⟩ := ih hl i hi' p hp'
      have ht : okP m (l.take i) := okP_take hl i
      have hq := p2_pos x.1
      rw [List.take_succ_cons, List.take_succ_cons, pS, pS, List.drop_succ_cons, e2]
      refine ⟨?_, by omega⟩
      rw [p2_add h1.1 (pS_bd hm _ ht).1, ← Int.ediv_ediv_of_nonneg (by omega), pV, Int.add_mul_ediv_right _ _ (by omega), Int.ediv_eq_zero_of_lt h1.2.2.1 h1.2.2.2, Int.zero_add, e1]

/-- Bits with pieces behind them. -/
def jN (n : Int) (l : List (Int × Int)) : Int := n + pS l
def jV (A n : Int) (l : List (Int × Int)) : Int := A + pV l * p2 n

theorem j_nil (A n : Int) : jN n [] = n ∧ jV A n [] = A := by simp [jN, jV, pS, pV]

theorem j_bd {m A n : Int} {l : List (Int × Int)} (hm : 0 ≤ m) (hn : 0 ≤ n) (h0 : 0 ≤ A) (h1 : A < p2 n) (hl : okP m l) : n ≤ jN n l ∧ jN n l ≤ n + m * l.length ∧ 0 ≤ jV A n l ∧ jV A n l < p2 (jN n l) := by
  have hS := pS_bd hm l hl
  have hV := pV_bd hm l hl
  have hp := p2_pos n
  have := Int.mul_nonneg hV.1 (show 0 ≤ p2 n by omega)
  unfold jN jV
  exact ⟨by omega, by omega, by omega, join_lt hn hS.1 h1 hV.2⟩

theorem j_snoc {m A n : Int} {l : List (Int × Int)} (hm : 0 ≤ m) (hn : 0 ≤ n) (hl : okP m l) (p : Int × Int) : jN n (l ++ [p]) = jN n l + p.1 ∧ jV A n (l ++ [p]) = jV A n l + p.2 * p2 (jN n l) := by
  have hS := pS_bd hm l hl
  unfold jN jV
  refine ⟨by rw [pS_snoc]; omega, ?_⟩
  rw [pV_snoc hm l p hl, p2_add hn hS.1, Int.add_mul, Int.mul_assoc, Int.mul_comm (p2 (pS l))]; omega

theorem j_at {m A n : Int} {l : List (Int × Int)} (hm : 0 ≤ m) (hn : 0 ≤ n) (h0 : 0 ≤ A) (h1 : A < p2 n) (hl : okP m l) {i : Nat} (hi : i < l.length) {p : Int × Int} (hp : l[i]? = some p) :
    jV A n l / p2 (jN n (l.take i)) = p.2 + pV (l.drop (i + 1)) * p2 p.1 ∧ jN n (l.take (i + 1)) = jN n (l.take i) + p.1 ∧ jN n (l.take (i + 1)) ≤ jN n l ∧ n ≤ jN n (l.take i) := by
  obtain ⟨e1, e2⟩ := p_at hm l hl i hi p hp
  have hS := pS_bd hm _ (okP_take hl i)
  have hq := p2_pos n
  have hsp := pS_split l (i + 1)
  have hSd := pS_bd hm _ (okP_drop hl (i + 1))
  unfold jN jV
  refine ⟨?_, by omega, by omega, by omega⟩
  rw [p2_add hn hS.1, ← Int.ediv_ediv_of_nonneg (by omega), Int.add_mul_ediv_right _ _ (by omega), Int.ediv_eq_zero_of_lt h0 h1, Int.zero_add, e1]

theorem j_low {m A n : Int} {l : List (Int × Int)} (hm : 0 ≤ m) (hn : 0 ≤ n) (h0 : 0 ≤ A) (h1 : A < p2 n) (hl : okP m l) : jV A n l % p2 n = A := by
  unfold jV
  rw [Int.add_mul_emod_self_right, Int.emod_eq_of_lt h0 h1]
end Go.Proofs.Ytbhoodhcipegbaa.MP

/- The laws of layer 6: the chapter's examples. -/
import Derived.Test.YtmnhepcnbdbhoaaRef06
namespace Go.Proofs.Ytmnhepcnbdbhoaa.Wk
open Go.Proofs Go.RowKit Go.Proofs.Ytmnhepcnbdbhoaa.Kit Go.Proofs.Ytmnhepcnbdbhoaa.M01 Go.Proofs.Ytmnhepcnbdbhoaa.M02 Go.Proofs.Ytmnhepcnbdbhoaa.M06 Go.Proofs.Ytmnhepcnbdbhoaa.Bt Go.Proofs.Ytmnhepcnbdbhoaa.R02 Go.Proofs.Ytmnhepcnbdbhoaa.Un Go.Proofs.Ytmnhepcnbdbhoaa.R06
set_option linter.unusedVariables false

theorem isInt_small {n : Int} (h0 : -1000000 ≤ n) (h1 : n ≤ 1000000) : isInt n := by unfold isInt; omega

/-- What Write answers, nothing being there. -/
theorem wr_nil {m : Int} (h0 : 0 ≤ m) (h1 : m ≤ 48) : wrE [] 0 m = 0 ∧ wrL [] 0 m = bl (runS m) (p2 m - 1) ∧ wrN [] 0 m = runS m ∧ okB (bl (runS m) (p2 m - 1)) (runS m) = true ∧ val (bl (runS m) (p2 m - 1)) = p2 m - 1 := by
  have hs := runS_bd h0 h1
  have hl := run_lt h0 h1
  have e : wrE [] 0 m = 0 := by rw [wrE, if_pos ok_nil, if_neg (by omega), if_neg (by omega)]
  refine ⟨e, ?_, ?_, ok_bl (by omega) (by omega) hl.1 hl.2, val_bl (by omega) hl.1 hl.2⟩
  · rw [wrL, if_pos e, p2_zero, Int.mul_one, Int.zero_add, show val [] = 0 from rfl, Int.zero_add]
  · rw [wrN, if_pos e, Int.zero_add]

theorem ones_mod {m k : Int} (h0 : 0 ≤ k) (h1 : k ≤ m) : (p2 m - 1) % p2 k = p2 k - 1 := by
  have hp := p2_pos k
  have e : p2 m - 1 = (p2 k - 1) + p2 k * (p2 (m - k) - 1) := by
    rw [Int.mul_sub, ← p2_add h0 (by omega), show k + (m - k) = m by omega]; omega
  rw [e, Int.add_mul_emod_self_left, Int.emod_eq_of_lt (by omega) (by omega)]

theorem runs_apart_lt {n m : Int} (h0 : 0 ≤ n) (h3 : m ≤ 48) (h : n < m) : (p2 n - 1) % p2 (min (runS n) (runS m)) ≠ (p2 m - 1) % p2 (min (runS n) (runS m)) := by
  have e : min (runS n) (runS m) = n + 1 := by
    have := runS_lt (n := n) (by omega)
    have h2 : n + 1 ≤ runS m := by unfold runS; split <;> omega
    omega
  have hp := p2_pos n
  have h2 : p2 (n + 1) = 2 * p2 n := by rw [p2_add h0 (by omega), show p2 1 = 2 from rfl, Int.mul_comm]
  have e1 : (p2 m - 1) % p2 (n + 1) = p2 (n + 1) - 1 := ones_mod (by omega) (by omega)
  have e2 : (p2 n - 1) % p2 (n + 1) = p2 n - 1 := Int.emod_eq_of_lt (by omega) (by omega)
  rw [e, e1, e2]
  omega

theorem runs_apart {n m : Int} (h0 : 0 ≤ n) (h1 : n ≤ 48) (h2 : 0 ≤ m) (h3 : m ≤ 48) (h : ¬ n = m) : (p2 n - 1) % p2 (min (runS n) (runS m)) ≠ (p2 m - 1) % p2 (min (runS n) (runS m)) := by
  rcases (show n < m ∨ m < n by omega) with g | g
  · exact runs_apart_lt h0 h3 g
  · have := runs_apart_lt h2 h1 g
    rw [Int.min_comm] at this
    exact this.symm

theorem bl_apart {S A B : Int} (h : 0 ≤ S) (hA : 0 ≤ A ∧ A < p2 S) (hB : 0 ≤ B ∧ B < p2 S) (hne : A ≠ B) : bl S A ≠ bl S B := by
  intro e
  have := congrArg val e
  rw [val_bl h hA.1 hA.2, val_bl h hB.1 hB.2] at this
  exact hne this

/-- Twin, as a slice that is handed on. -/
theorem twin_row (a : Option Addr) (len cap : Nat) (xs : List Int) (n : Int) (w : World) (hr : RowIn .u8 w a len cap xs) (hl : len ≤ 100000) :
    Calls Try.prog 17 #[bv a len cap n] w fun e w' => ∃ a' cap', e = .returned (bv a' len cap' n) ∧ RowIn .u8 w' a' len cap' xs ∧ Below w.heap.size w w' := by
  refine (twin_any a len cap xs n w hr hl).mono ?_
  rintro e w' ⟨v, rfl, ho, hb⟩
  obtain ⟨a', cap', rfl, h⟩ := ho.row hr.rd.2.2
  rw [hr.hl] at h ⊢
  exact ⟨a', cap', rfl, h, hb⟩

end Go.Proofs.Ytmnhepcnbdbhoaa.Wk

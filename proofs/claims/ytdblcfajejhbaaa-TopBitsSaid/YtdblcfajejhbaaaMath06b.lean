/- Bits with runs behind them: written and read. No Go here. -/
import Derived.Test.YtdblcfajejhbaaaMath06
namespace Go.Proofs.Ytdblcfajejhbaaa.M06
open Go.Proofs.Ytdblcfajejhbaaa.M01 Go.Proofs.Ytdblcfajejhbaaa.M02
set_option linter.unusedVariables false

/-- Bits with runs behind them. -/
def bkN (n : Int) (l : List Int) : Int := n + runsS l
def bkV (A n : Int) (l : List Int) : Int := A + runsV l * p2 n

theorem take_snoc {l : List Int} {i : Nat} (h : i < l.length) : l.take (i + 1) = l.take i ++ [l.getD i 0] := by
  rw [List.take_add_one, List.getElem?_eq_getElem h, List.getD_eq_getElem?_getD, List.getElem?_eq_getElem h]; rfl
theorem runOK_take {l : List Int} (h : runOK l) (i : Nat) : runOK (l.take i) := fun x hx => h x (List.mem_of_mem_take hx)
theorem runOK_snoc {l : List Int} {m : Int} (h : runOK l) (h0 : 0 ≤ m) (h1 : m ≤ 48) : runOK (l ++ [m]) := by
  intro x hx
  rcases List.mem_append.1 hx with hx | hx
  · exact h x hx
  · simp at hx; subst hx; exact ⟨h0, h1⟩

theorem bk_bd {A n : Int} {l : List Int} (hn : 0 ≤ n) (h0 : 0 ≤ A) (h1 : A < p2 n) (hl : runOK l) : n ≤ bkN n l ∧ bkN n l ≤ n + 48 * l.length ∧ 0 ≤ bkV A n l ∧ bkV A n l < p2 (bkN n l) := by
  have hS := runsS_bd l hl
  have hV := runsV_bd l hl
  have hp := p2_pos n
  have := Int.mul_nonneg hV.1 (show 0 ≤ p2 n by omega)
  unfold bkN bkV
  exact ⟨by omega, by omega, by omega, join_lt hn hS.1 h1 hV.2⟩

theorem bk_ok {A n : Int} {l : List Int} (hn : 0 ≤ n) (hn1 : n ≤ 500) (h0 : 0 ≤ A) (h1 : A < p2 n) (hl : runOK l) (hlen : l.length ≤ 100) : okB (bl (bkN n l) (bkV A n l)) (bkN n l) = true ∧ val (bl (bkN n l) (bkV A n l)) = bkV A n l := by
  obtain ⟨a, b, c, d⟩ := bk_bd hn h0 h1 hl
  exact ⟨ok_bl (by omega) (by omega) c d, val_bl (by omega) c d⟩

theorem bk_write {A n m : Int} {l : List Int} (hn : 0 ≤ n) (hn1 : n ≤ 500) (h0 : 0 ≤ A) (h1 : A < p2 n) (hl : runOK l) (hlen : l.length ≤ 100) (hm0 : 0 ≤ m) (hm1 : m ≤ 48) :
    wrE (bl (bkN n l) (bkV A n l)) (bkN n l) m = 0 ∧ wrL (bl (bkN n l) (bkV A n l)) (bkN n l) m = bl (bkN n (l ++ [m])) (bkV A n (l ++ [m])) ∧ wrN (bl (bkN n l) (bkV A n l)) (bkN n l) m = bkN n (l ++ [m]) ∧ bkN n (l ++ [m]) = bkN n l + runS m := by
  obtain ⟨a, b, c, d⟩ := bk_bd hn h0 h1 hl
  obtain ⟨hok, hv⟩ := bk_ok hn hn1 h0 h1 hl hlen
  have hr := runS_bd hm0 hm1
  have hS := runsS_bd l hl
  have e : wrE (bl (bkN n l) (bkV A n l)) (bkN n l) m = 0 := by rw [wrE, if_pos hok, if_neg (by omega), if_neg (by omega)]
  have eN : bkN n (l ++ [m]) = bkN n l + runS m := by unfold bkN; rw [runsS_snoc]; omega
  have eV : bkV A n (l ++ [m]) = bkV A n l + (p2 m - 1) * p2 (bkN n l) := by
    unfold bkN bkV
    rw [runsV_snoc l m hl, p2_add hn hS.1, Int.add_mul, Int.mul_assoc, Int.mul_comm (p2 (runsS l))]; omega
  exact ⟨e, by rw [wrL, if_pos e, hv, eN, eV], by rw [wrN, if_pos e, eN], eN⟩

theorem runsS_split (l : List Int) (i : Nat) : runsS l = runsS (l.take i) + runsS (l.drop i) := by
  induction l generalizing i with
  | nil => simp [runsS]
  | cons x l ih =>
    cases i with
    | zero => simp [runsS]
    | succ i => rw [List.take_succ_cons, List.drop_succ_cons, runsS, runsS, ih i]; omega

theorem bk_read {A n : Int} {l : List Int} {i : Nat} (hn : 0 ≤ n) (hn1 : n ≤ 500) (h0 : 0 ≤ A) (h1 : A < p2 n) (hl : runOK l) (hlen : l.length ≤ 100) (hi : i < l.length) :
    rdE (bl (bkN n l) (bkV A n l)) (bkN n l) (bkN n (l.take i)) = 0 ∧ rdN (bl (bkN n l) (bkV A n l)) (bkN n l) (bkN n (l.take i)) = l.getD i 0 ∧ rdX (bl (bkN n l) (bkV A n l)) (bkN n l) (bkN n (l.take i)) = bkN n (l.take (i + 1)) ∧
      bkN n (l.take i) < bkN n (l.take (i + 1)) ∧ bkN n (l.take i) < bkN n l := by
  obtain ⟨hok, hv⟩ := bk_ok hn hn1 h0 h1 hl hlen
  have hg : l[i]? = some (l.getD i 0) := by rw [List.getD_eq_getElem?_getD, List.getElem?_eq_getElem hi]; rfl
  have hm : 0 ≤ l.getD i 0 ∧ l.getD i 0 ≤ 48 := hl _ (List.mem_of_getElem? hg)
  obtain ⟨e1, e2⟩ := runs_at l hl i hi _ hg
  generalize l.getD i 0 = m at *
  have hr := runS_bd hm.1 hm.2
  have hS := runsS_bd _ (runOK_take hl i)
  have hp := p2_pos n
  have hsp := runsS_split l (i + 1)
  have hSd := runsS_bd (l.drop (i + 1)) (fun x hx => hl x (List.mem_of_mem_drop hx))
  have hd : bkV A n l / p2 (bkN n (l.take i)) = (p2 m - 1) + runsV (l.drop (i + 1)) * p2 (runS m) := by
    unfold bkV bkN
    rw [p2_add hn hS.1, ← Int.ediv_ediv_of_nonneg (by omega), Int.add_mul_ediv_right _ _ (by omega), Int.ediv_eq_zero_of_lt h0 h1, Int.zero_add, e1]
  have hon : ons (bl (bkN n l) (bkV A n l)) (bkN n (l.take i)) = m := by
    unfold ons; rw [hv, hd]; exact cnt_runS hm.1 hm.2 _
  have eN : bkN n (l.take (i + 1)) = bkN n (l.take i) + runS m := by unfold bkN; rw [e2]; omega
  have hlt : bkN n (l.take (i + 1)) ≤ bkN n l := by unfold bkN; omega
  have h00 : 0 ≤ bkN n (l.take i) := by unfold bkN; omega
  have e : rdE (bl (bkN n l) (bkV A n l)) (bkN n l) (bkN n (l.take i)) = 0 := by
    rw [rdE, if_pos hok, if_neg (by omega), if_neg (by omega), if_neg (by rw [hon]; intro h; have := runS_lt h.1; omega)]
  exact ⟨e, by rw [rdN, if_pos e, hon], by rw [rdX, if_pos e, hon, eN], by omega, by omega⟩

theorem bk_cut {A n : Int} {l : List Int} (hn : 0 ≤ n) (hn1 : n ≤ 500) (h0 : 0 ≤ A) (h1 : A < p2 n) (hl : runOK l) (hlen : l.length ≤ 100) :
    cuE (bl (bkN n l) (bkV A n l)) (bkN n l) 0 n = 0 ∧ cuL (bl (bkN n l) (bkV A n l)) (bkN n l) 0 n = bl n A ∧ cuN (bl (bkN n l) (bkV A n l)) (bkN n l) 0 n = n := by
  obtain ⟨hok, hv⟩ := bk_ok hn hn1 h0 h1 hl hlen
  have hb := bk_bd hn h0 h1 hl
  have e : cuE (bl (bkN n l) (bkV A n l)) (bkN n l) 0 n = 0 := by rw [cuE, if_pos hok, if_neg (by omega)]
  refine ⟨e, ?_, by rw [cuN, if_pos e, Int.sub_zero]⟩
  rw [cuL, if_pos e, hv, p2_zero, Int.ediv_one, Int.sub_zero]
  unfold bkV
  rw [Int.add_mul_emod_self_right, Int.emod_eq_of_lt h0 h1]
end Go.Proofs.Ytdblcfajejhbaaa.M06

/- Bits with codes of two levels behind them, and the states between. No Go here. -/
import Derived.Test.YtbhoodhcipegbaaMath08
namespace Go.Proofs.Ytbhoodhcipegbaa.M08
open Go.Proofs.Ytbhoodhcipegbaa.M01 Go.Proofs.Ytbhoodhcipegbaa.M02 Go.Proofs.Ytbhoodhcipegbaa.M06 Go.Proofs.Ytbhoodhcipegbaa.M07 Go.Proofs.Ytbhoodhcipegbaa.MP
set_option linter.unusedVariables false

/-- The state behind numbers, and their codes. -/
def stI (d : D4) : List Int → D4
  | [] => d
  | v :: l => stI (learnD d v) l
def pcd (d : D4) : List Int → List (Int × Int)
  | [] => []
  | v :: l => (duS d v, duV d v) :: pcd (learnD d v) l
def okV (xs : List Int) : Prop := ∀ x ∈ xs, isU x

theorem stI_snoc (d : D4) (l : List Int) (v : Int) : stI d (l ++ [v]) = learnD (stI d l) v := by
  induction l generalizing d with
  | nil => rfl
  | cons x l ih => rw [List.cons_append, stI, ih, stI]
theorem pcd_snoc (d : D4) (l : List Int) (v : Int) : pcd d (l ++ [v]) = pcd d l ++ [(duS (stI d l) v, duV (stI d l) v)] := by
  induction l generalizing d with
  | nil => rfl
  | cons x l ih => rw [List.cons_append, pcd, ih, pcd, stI, List.cons_append]
theorem pcd_len (d : D4) (l : List Int) : (pcd d l).length = l.length := by
  induction l generalizing d with
  | nil => rfl
  | cons x l ih => rw [pcd, List.length_cons, ih, List.length_cons]
theorem pcd_take (d : D4) (l : List Int) (i : Nat) : (pcd d l).take i = pcd d (l.take i) := by
  induction l generalizing d i with
  | nil => simp [pcd]
  | cons x l ih =>
    cases i with
    | zero => rfl
    | succ i => rw [pcd, List.take_succ_cons, List.take_succ_cons, pcd, ih]
theorem take_snoc {l : List Int} {i : Nat} (h : i < l.length) : l.take (i + 1) = l.take i ++ [l.getD i 0] := by
  rw [List.take_add_one, List.getD_eq_getElem?_getD, List.getElem?_eq_getElem h]; rfl
theorem pcd_at {d : D4} {l : List Int} {i : Nat} (h : i < l.length) : (pcd d l)[i]? = some (duS (stI d (l.take i)) (l.getD i 0), duV (stI d (l.take i)) (l.getD i 0)) := by
  have e := pcd_take d l (i + 1)
  rw [take_snoc h, pcd_snoc, ← pcd_take, List.take_add_one] at e
  have hl : i < (pcd d l).length := by rw [pcd_len]; exact h
  rw [List.getElem?_eq_getElem hl] at e ⊢
  have := List.append_cancel_left e
  simpa using this

theorem stI_ok {d : D4} {l : List Int} (hd : isD d) (h : okD d = true) (hl : okV l) : okD (stI d l) = true ∧ isD (stI d l) := by
  induction l generalizing d with
  | nil => exact ⟨h, hd⟩
  | cons x l ih =>
    obtain ⟨e1, e2⟩ := learn_ok hd h (hl x (by simp))
    exact ih e2 e1 (fun y hy => hl y (by simp [hy]))
theorem pcd_ok {d : D4} {l : List Int} (hd : isD d) (h : okD d = true) (hl : okV l) : okP 81 (pcd d l) := by
  induction l generalizing d with
  | nil => intro x hx; simp [pcd] at hx
  | cons x l ih =>
    have hx := hl x (by simp)
    obtain ⟨e1, e2⟩ := learn_ok hd h hx
    have hs := duS_bd h hx
    have hb := duV_bd h hx
    intro y hy
    rw [pcd] at hy
    rcases List.mem_cons.1 hy with rfl | hy
    · exact ⟨by simp only; omega, hs.2.1, hb.1, hb.2⟩
    · exact ih e2 e1 (fun z hz => hl z (by simp [hz])) y hy
theorem okV_take {l : List Int} (h : okV l) (i : Nat) : okV (l.take i) := fun x hx => h x (List.mem_of_mem_take hx)

/-- A code behind them. -/
theorem pd_write {A n v : Int} {s : D4} {l : List (Int × Int)} (hn : 0 ≤ n) (hn1 : n ≤ 2000) (h0 : 0 ≤ A) (h1 : A < p2 n) (hl : okP 81 l) (hlen : l.length ≤ 2000) (hv : isU v) (h : okD s = true) :
    dwE (bl (jN n l) (jV A n l)) (jN n l) s v = 0 ∧ dwL (bl (jN n l) (jV A n l)) (jN n l) s v = bl (jN n (l ++ [(duS s v, duV s v)])) (jV A n (l ++ [(duS s v, duV s v)])) ∧ dwN (bl (jN n l) (jV A n l)) (jN n l) s v = jN n (l ++ [(duS s v, duV s v)]) ∧ dwD (bl (jN n l) (jV A n l)) (jN n l) s v = learnD s v ∧ jN n (l ++ [(duS s v, duV s v)]) = jN n l + duS s v := by
  obtain ⟨a, b, c, d⟩ := j_bd (by omega) hn h0 h1 hl
  have hs := duS_bd h hv
  have hok : okB (bl (jN n l) (jV A n l)) (jN n l) = true := ok_bl (by omega) (by omega) c d
  have hval : val (bl (jN n l) (jV A n l)) = jV A n l := val_bl (by omega) c d
  obtain ⟨e1, e2⟩ := j_snoc (A := A) (by omega) hn hl (duS s v, duV s v)
  have e : dwE (bl (jN n l) (jV A n l)) (jN n l) s v = 0 := by unfold dwE; rw [if_pos ⟨hok, h⟩, if_neg (by omega)]
  exact ⟨e, by unfold dwL; rw [if_pos e, hval, e1, e2], by unfold dwN; rw [if_pos e, e1], by unfold dwD; rw [if_pos e], e1⟩

/-- The code that stands there. -/
theorem pd_read {A n v : Int} {s : D4} {l : List (Int × Int)} {i : Nat} (hn : 0 ≤ n) (hn1 : n ≤ 2000) (h0 : 0 ≤ A) (h1 : A < p2 n) (hl : okP 81 l) (hlen : l.length ≤ 2000) (hi : i < l.length) (hp : l[i]? = some (duS s v, duV s v)) (hv : isU v) (h : okD s = true) :
    drE (bl (jN n l) (jV A n l)) (jN n l) (jN n (l.take i)) s = 0 ∧ drN (bl (jN n l) (jV A n l)) (jN n l) (jN n (l.take i)) s = v ∧ drX (bl (jN n l) (jV A n l)) (jN n l) (jN n (l.take i)) s = jN n (l.take (i + 1)) ∧ drD (bl (jN n l) (jV A n l)) (jN n l) (jN n (l.take i)) s = learnD s v := by
  obtain ⟨a, b, c, d⟩ := j_bd (by omega) hn h0 h1 hl
  have hok : okB (bl (jN n l) (jV A n l)) (jN n l) = true := ok_bl (by omega) (by omega) c d
  have hval : val (bl (jN n l) (jV A n l)) = jV A n l := val_bl (by omega) c d
  obtain ⟨e1, e2, e3, e4⟩ := j_at (by omega) hn h0 h1 hl hi hp
  simp only at e1 e2
  have hh := dr_read (xs := bl (jN n l) (jV A n l)) (n := jN n l) (p := jN n (l.take i)) (v := v) (d := s) hok h (by omega) hv (H := pV (l.drop (i + 1))) (by rw [hval]; exact e1) (by omega)
  rw [e2]; exact hh
end Go.Proofs.Ytbhoodhcipegbaa.M08

/- Bits with Rice codes behind them: written and read. No Go here. -/
import Derived.Test.YtbhoodhcipegbaaMathP
import Derived.Test.YtbhoodhcipegbaaMath07
namespace Go.Proofs.Ytbhoodhcipegbaa.M07
open Go.Proofs.Ytbhoodhcipegbaa.M01 Go.Proofs.Ytbhoodhcipegbaa.M02 Go.Proofs.Ytbhoodhcipegbaa.M06 Go.Proofs.Ytbhoodhcipegbaa.MP
set_option linter.unusedVariables false

/-- The codes of numbers, each with a parameter. -/
def pcs (xs ks : List Int) : List (Int × Int) := List.zipWith (fun v k => (cdS v k, cdV v k)) xs ks
/-- The first parameters are some. -/
def okK (ks : List Int) (i : Nat) : Prop := ∀ j, j < i → 0 ≤ ks.getD j 0 ∧ ks.getD j 0 ≤ 24
def okU (xs : List Int) : Prop := ∀ x ∈ xs, 0 ≤ x ∧ x ≤ 4294967295

theorem getD_in {xs : List Int} {i : Nat} (h : i < xs.length) : xs.getD i 0 ∈ xs := by
  rw [List.getD_eq_getElem?_getD, List.getElem?_eq_getElem h]; exact List.getElem_mem h

theorem pcs_len {xs ks : List Int} (h : ks.length = xs.length) : (pcs xs ks).length = xs.length := by
  unfold pcs; rw [List.length_zipWith, h, Nat.min_self]

theorem pcs_at {xs ks : List Int} (h : ks.length = xs.length) {i : Nat} (hi : i < xs.length) : (pcs xs ks)[i]? = some (cdS (xs.getD i 0) (ks.getD i 0), cdV (xs.getD i 0) (ks.getD i 0)) := by
  unfold pcs
  rw [List.getElem?_zipWith, List.getD_eq_getElem?_getD, List.getD_eq_getElem?_getD, List.getElem?_eq_getElem hi, List.getElem?_eq_getElem (show i < ks.length by omega)]; rfl

theorem pcs_snoc {xs ks : List Int} (h : ks.length = xs.length) {i : Nat} (hi : i < xs.length) : (pcs xs ks).take (i + 1) = (pcs xs ks).take i ++ [(cdS (xs.getD i 0) (ks.getD i 0), cdV (xs.getD i 0) (ks.getD i 0))] := by
  rw [List.take_add_one, pcs_at h hi]; rfl

theorem pcs_ok {xs ks : List Int} (h : ks.length = xs.length) (hu : okU xs) {i : Nat} (hi : i ≤ xs.length) (hk : okK ks i) : okP 80 ((pcs xs ks).take i) := by
  induction i with
  | zero => intro x hx; simp at hx
  | succ i ih =>
    rw [pcs_snoc h (by omega)]
    have hv := hu _ (getD_in (show i < xs.length by omega))
    have hkk := hk i (by omega)
    have hs := cdS_bd hv.1 hkk.1 hkk.2
    have hb := cd_bd hv.1 hkk.1 hkk.2
    exact okP_snoc (ih (by omega) (fun j hj => hk j (by omega))) ⟨by omega, hs.2.1, hb.1, hb.2⟩

/-- A code behind them. -/
theorem pk_write {A n v k : Int} {l : List (Int × Int)} (hn : 0 ≤ n) (hn1 : n ≤ 2000) (h0 : 0 ≤ A) (h1 : A < p2 n) (hl : okP 80 l) (hlen : l.length ≤ 2000) (hv : 0 ≤ v) (hk0 : 0 ≤ k) (hk1 : k ≤ 24) :
    rwE (bl (jN n l) (jV A n l)) (jN n l) v k = 0 ∧ rwL (bl (jN n l) (jV A n l)) (jN n l) v k = bl (jN n (l ++ [(cdS v k, cdV v k)])) (jV A n (l ++ [(cdS v k, cdV v k)])) ∧ rwN (bl (jN n l) (jV A n l)) (jN n l) v k = jN n (l ++ [(cdS v k, cdV v k)]) := by
  obtain ⟨a, b, c, d⟩ := j_bd (by omega) hn h0 h1 hl
  have hs := cdS_bd hv hk0 hk1
  have hok : okB (bl (jN n l) (jV A n l)) (jN n l) = true := ok_bl (by omega) (by omega) c d
  have hval : val (bl (jN n l) (jV A n l)) = jV A n l := val_bl (by omega) c d
  obtain ⟨e1, e2⟩ := j_snoc (A := A) (by omega) hn hl (cdS v k, cdV v k)
  have e : rwE (bl (jN n l) (jV A n l)) (jN n l) v k = 0 := by rw [rwE, if_pos hok, if_neg (by omega), if_neg (by omega)]
  exact ⟨e, by rw [rwL, if_pos e, hval, e1, e2], by rw [rwN, if_pos e, e1]⟩

/-- The code that stands there. -/
theorem pk_read {A n v k : Int} {l : List (Int × Int)} {i : Nat} (hn : 0 ≤ n) (hn1 : n ≤ 2000) (h0 : 0 ≤ A) (h1 : A < p2 n) (hl : okP 80 l) (hlen : l.length ≤ 2000) (hi : i < l.length) (hp : l[i]? = some (cdS v k, cdV v k)) (hv : 0 ≤ v) (hv1 : v ≤ 4294967295) (hk0 : 0 ≤ k) (hk1 : k ≤ 24) :
    rrE (bl (jN n l) (jV A n l)) (jN n l) (jN n (l.take i)) k = 0 ∧ rrN (bl (jN n l) (jV A n l)) (jN n l) (jN n (l.take i)) k = v ∧ rrX (bl (jN n l) (jV A n l)) (jN n l) (jN n (l.take i)) k = jN n (l.take (i + 1)) := by
  obtain ⟨a, b, c, d⟩ := j_bd (by omega) hn h0 h1 hl
  have hok : okB (bl (jN n l) (jV A n l)) (jN n l) = true := ok_bl (by omega) (by omega) c d
  have hval : val (bl (jN n l) (jV A n l)) = jV A n l := val_bl (by omega) c d
  obtain ⟨e1, e2, e3, e4⟩ := j_at (by omega) hn h0 h1 hl hi hp
  have h := rr_read (xs := bl (jN n l) (jV A n l)) (n := jN n l) (p := jN n (l.take i)) hok (by omega) hv hv1 hk0 hk1 (H := pV (l.drop (i + 1))) (by rw [hval]; exact e1) (by simp only at e2; omega)
  simp only at e2
  rw [e2]; exact h
end Go.Proofs.Ytbhoodhcipegbaa.M07

/- Numbers folded and unfolded. No program here. -/
import Derived.Test.YtdblcfajejhbaaaKit
namespace Go.Proofs.Ytdblcfajejhbaaa.M05
open Go.RowKit Go.Proofs.Ytdblcfajejhbaaa.Kit
set_option linter.unusedVariables false

/-- A signed number, folded; a number, unfolded. -/
def foldI (x : Int) : Int := if 0 ≤ x then 2 * x else -2 * x - 1
def backI (n : Int) : Int := if n % 2 = 0 then n / 2 else -(n / 2) - 1

theorem foldI_pos {x : Int} (h : 0 ≤ x) : foldI x = 2 * x := if_pos h
theorem foldI_neg {x : Int} (h : x < 0) : foldI x = -2 * x - 1 := if_neg (by omega)
theorem backI_even {n : Int} (h : n % 2 = 0) : backI n = n / 2 := if_pos h
theorem backI_odd {n : Int} (h : n % 2 = 1) : backI n = -(n / 2) - 1 := if_neg (by omega)

theorem foldI_bd {x : Int} (h : -2147483648 ≤ x) (h2 : x ≤ 2147483647) : 0 ≤ foldI x ∧ foldI x ≤ 4294967295 := by
  unfold foldI; split <;> omega
theorem backI_bd {n : Int} (h : 0 ≤ n) (h2 : n ≤ 4294967295) : -2147483648 ≤ backI n ∧ backI n ≤ 2147483647 := by
  unfold backI; split <;> omega
theorem back_fold (x : Int) : backI (foldI x) = x := by
  unfold foldI backI; split <;> split <;> omega
theorem fold_back {n : Int} (h : 0 ≤ n) : foldI (backI n) = n := by
  unfold backI foldI; split <;> split <;> omega

theorem wf_u32 {x : Int} (h : 0 ≤ x) (h2 : x ≤ 4294967295) : (Lit.int .u32 x).wf = true := by
  simp [Lit.wf, IntKind.min, IntKind.max, IntKind.signed, IntKind.bits]; omega
theorem wf_i32 {x : Int} (h : -2147483648 ≤ x) (h2 : x ≤ 2147483647) : (Lit.int .i32 x).wf = true := by
  simp [Lit.wf, IntKind.min, IntKind.max, IntKind.signed, IntKind.bits]; omega

theorem fold_wf {xs : List Int} (h : ∀ x ∈ xs, (Lit.int .i32 x).wf = true) : ∀ x ∈ xs.map foldI, (Lit.int .u32 x).wf = true := by
  intro x hx
  rw [List.mem_map] at hx
  obtain ⟨y, hy, rfl⟩ := hx
  have := bd_i32 (h y hy)
  have := foldI_bd this.1 this.2
  exact wf_u32 this.1 this.2
theorem back_wf {xs : List Int} (h : ∀ x ∈ xs, (Lit.int .u32 x).wf = true) : ∀ x ∈ xs.map backI, (Lit.int .i32 x).wf = true := by
  intro x hx
  rw [List.mem_map] at hx
  obtain ⟨y, hy, rfl⟩ := hx
  have := bd_u32 (h y hy)
  have := backI_bd this.1 this.2
  exact wf_i32 this.1 this.2
theorem back_folds (xs : List Int) : (xs.map foldI).map backI = xs := by
  rw [List.map_map, show backI ∘ foldI = id from funext back_fold, List.map_id]
theorem fold_backs {xs : List Int} (h : ∀ x ∈ xs, (Lit.int .u32 x).wf = true) : (xs.map backI).map foldI = xs := by
  rw [List.map_map]
  conv => rhs; rw [← List.map_id xs]
  exact List.map_congr_left fun x hx => fold_back (bd_u32 (h x hx)).1

theorem getD_wf {xs : List Int} {k : IntKind} (h : ∀ x ∈ xs, (Lit.int k x).wf = true) {i : Nat} (hi : i < xs.length) : (Lit.int k (xs.getD i 0)).wf = true := by
  rw [List.getD_eq_getElem?_getD, List.getElem?_eq_getElem hi]; exact h _ (by simp)
theorem getD_map {f : Int → Int} {xs : List Int} {i : Nat} (hi : i < xs.length) : (xs.map f).getD i 0 = f (xs.getD i 0) := by
  simp [List.getD_eq_getElem?_getD, hi]

/-- A row of zeros, filled from its front: k of them. -/
theorem fill_length (f : Int → Int) {xs : List Int} {k : Nat} (hk : k ≤ xs.length) : ((xs.take k).map f ++ List.replicate (xs.length - k) (0 : Int)).length = xs.length := by
  simp; omega
theorem fill_set (f : Int → Int) {xs : List Int} {k : Nat} (hk : k < xs.length) :
    ((xs.take k).map f ++ List.replicate (xs.length - k) (0 : Int)).set k (f (xs.getD k 0)) = (xs.take (k + 1)).map f ++ List.replicate (xs.length - (k + 1)) 0 := by
  rw [List.set_append_right _ _ (by simp; omega), List.take_add_one, List.map_append, List.getElem?_eq_getElem hk, List.getD_eq_getElem?_getD, List.getElem?_eq_getElem hk, List.append_assoc]
  congr 1
  rw [show xs.length - k = (xs.length - (k + 1)) + 1 by omega, List.replicate_succ, show k - ((xs.take k).map f).length = 0 by simp; omega]
  rfl
theorem map_snoc (f : Int → Int) {xs : List Int} {k : Nat} (hk : k < xs.length) : (xs.take (k + 1)).map f = (xs.take k).map f ++ [f (xs.getD k 0)] := by
  rw [List.take_add_one, List.map_append, List.getElem?_eq_getElem hk, List.getD_eq_getElem?_getD, List.getElem?_eq_getElem hk]; rfl

/-- Lists are the same. -/
def sameL (xs ys : List Int) : Bool := decide (xs = ys)
theorem sameL_self (xs : List Int) : sameL xs xs = true := by simp [sameL]
theorem take_snoc_eq {xs ys : List Int} {k : Nat} (h : xs.take k = ys.take k) (h1 : k < xs.length) (h2 : k < ys.length) (he : xs.getD k 0 = ys.getD k 0) : xs.take (k + 1) = ys.take (k + 1) := by
  rw [List.getD_eq_getElem?_getD, List.getD_eq_getElem?_getD, List.getElem?_eq_getElem h1, List.getElem?_eq_getElem h2] at he
  simp only [Option.getD_some] at he
  rw [List.take_add_one, List.take_add_one, h, List.getElem?_eq_getElem h1, List.getElem?_eq_getElem h2, he]
theorem sameL_ne {xs ys : List Int} {k : Nat} (he : xs.getD k 0 ≠ ys.getD k 0) : sameL xs ys = false := by
  unfold sameL; rw [decide_eq_false]; intro h; exact he (by rw [h])

/-- Order. -/
theorem foldI_eq {x y : Int} : (foldI x = foldI y) = (x = y) := by
  unfold foldI; split <;> split <;> exact propext (by omega)
/-- The absolute value. -/
def sizeI (x : Int) : Int := if x < 0 then -x else x
theorem sizeI_neg {x : Int} (h : x < 0) : sizeI x = -x := if_pos h
theorem sizeI_pos {x : Int} (h : 0 ≤ x) : sizeI x = x := if_neg (by omega)
theorem order_lt {x y : Int} (h : sizeI x < sizeI y) : foldI x < foldI y := by
  unfold sizeI at h; unfold foldI
  split at h <;> split at h <;> split <;> split <;> omega
theorem order_eq {x y : Int} (h : sizeI x = sizeI y) (h2 : x < y) : foldI x + 1 = foldI y ∧ 0 ≤ foldI x := by
  unfold sizeI at h; unfold foldI
  split at h <;> split at h <;> split <;> split <;> omega

end Go.Proofs.Ytdblcfajejhbaaa.M05

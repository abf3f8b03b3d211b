/- Plain facts on little-endian numbers: digits and values, and two's complements. No Go here. -/
import Derived.WalkKit
namespace Go.Proofs.Ytbhoodhcipegbaa.M01

/-- The w lowest bytes of n, the lowest first. -/
def digs (n : Int) : Nat → List Int
  | 0 => []
  | w + 1 => n % 256 :: digs (n / 256) w

/-- The number of some bytes. -/
def val : List Int → Int
  | [] => 0
  | d :: r => d + 256 * val r

def isByte (l : List Int) : Prop := ∀ x ∈ l, 0 ≤ x ∧ x < 256

/-- 256 to the power of k. -/
def pw (k : Nat) : Int := (256 : Int) ^ k

theorem pw_zero : pw 0 = 1 := rfl
theorem pw_succ (k : Nat) : pw (k + 1) = 256 * pw k := by unfold pw; rw [Int.pow_succ]; omega
theorem pw_pos (k : Nat) : 1 ≤ pw k := by
  induction k with
  | zero => simp [pw_zero]
  | succ k ih => rw [pw_succ]; omega
theorem pw_le {i j : Nat} (h : i ≤ j) : pw i ≤ pw j := by
  induction h with
  | refl => exact Int.le_refl _
  | step _ ih => rw [pw_succ]; have := pw_pos i; omega
theorem pw_lt {i j : Nat} (h : i < j) : 256 * pw i ≤ pw j := by
  have := pw_le (show i + 1 ≤ j from h); rw [pw_succ] at this; exact this
theorem pw_8 : pw 8 = 18446744073709551616 := by decide +kernel
theorem pw_bd {k : Nat} (h : k ≤ 8) : pw k ≤ 18446744073709551616 := by rw [← pw_8]; exact pw_le h
theorem pw_bd7 {k : Nat} (h : k ≤ 7) : pw k ≤ 72057594037927936 := by
  have h7 : pw 7 = 72057594037927936 := by decide +kernel
  rw [← h7]; exact pw_le h

theorem digs_length (n : Int) (w : Nat) : (digs n w).length = w := by
  induction w generalizing n with
  | zero => rfl
  | succ w ih => simp [digs, ih]

theorem digs_byte (n : Int) (w : Nat) : isByte (digs n w) := by
  induction w generalizing n with
  | zero => intro x hx; simp [digs] at hx
  | succ w ih =>
    intro x hx
    simp only [digs, List.mem_cons] at hx
    rcases hx with rfl | hx
    · omega
    · exact ih _ x hx

theorem digs_snoc (n : Int) (w : Nat) : digs n (w + 1) = digs n w ++ [n / pw w % 256] := by
  induction w generalizing n with
  | zero => simp [digs, pw_zero]
  | succ w ih =>
    rw [digs, ih, digs, List.cons_append, pw_succ, Int.ediv_ediv_of_nonneg (by omega)]

theorem digs_getD (n : Int) (w i : Nat) (h : i < w) : (digs n w).getD i 0 = n / pw i % 256 := by
  induction w generalizing n i with
  | zero => omega
  | succ w ih =>
    cases i with
    | zero => simp [digs, pw_zero]
    | succ i =>
      have e : (digs n (w + 1)).getD (i + 1) 0 = (digs (n / 256) w).getD i 0 := by simp [digs]
      rw [e, ih _ _ (by omega), pw_succ, Int.ediv_ediv_of_nonneg (by omega)]

theorem val_nonneg {l : List Int} (h : isByte l) : 0 ≤ val l := by
  induction l with
  | nil => simp [val]
  | cons d r ih =>
    have h1 := h d (by simp)
    have h2 := ih (fun x hx => h x (by simp [hx]))
    simp only [val]; omega

theorem val_lt {l : List Int} (h : isByte l) : val l < pw l.length := by
  induction l with
  | nil => simp [val, pw_zero]
  | cons d r ih =>
    have h1 := h d (by simp)
    have h2 := ih (fun x hx => h x (by simp [hx]))
    simp only [val, List.length_cons, pw_succ]; omega

theorem val_snoc (l : List Int) (d : Int) : val (l ++ [d]) = val l + d * pw l.length := by
  induction l with
  | nil => simp [val, pw_zero]
  | cons c r ih => simp only [List.cons_append, val, ih, List.length_cons, pw_succ, Int.mul_add]; rw [← Int.mul_assoc, Int.mul_comm 256 d, Int.mul_assoc]; omega

theorem val_digs (n : Int) (w : Nat) : val (digs n w) = n % pw w := by
  induction w generalizing n with
  | zero => simp [digs, val, pw_zero, Int.emod_one]
  | succ w ih =>
    simp only [digs, val, ih, pw_succ]
    have hp := pw_pos w
    have h1 := Int.emod_add_mul_ediv n (256 * pw w)
    have h2 := Int.emod_add_mul_ediv n 256
    have h3 := Int.emod_add_mul_ediv (n / 256) (pw w)
    rw [Int.ediv_ediv_of_nonneg (by omega)] at h3
    have e : 256 * (pw w * (n / (256 * pw w))) = 256 * pw w * (n / (256 * pw w)) := by rw [Int.mul_assoc]
    omega

theorem val_digs_fit (n : Int) (w : Nat) (h0 : 0 ≤ n) (h1 : n < pw w) : val (digs n w) = n := by
  rw [val_digs, Int.emod_eq_of_lt h0 h1]

theorem digs_val (l : List Int) (h : isByte l) : digs (val l) l.length = l := by
  induction l with
  | nil => rfl
  | cons d r ih =>
    have h1 := h d (by simp)
    have h2 := ih (fun x hx => h x (by simp [hx]))
    simp only [val, List.length_cons, digs]
    have a : (d + 256 * val r) % 256 = d := by omega
    have b : (d + 256 * val r) / 256 = val r := by omega
    rw [a, b, h2]

theorem digs_inj (n m : Int) (w : Nat) (h0 : 0 ≤ n) (h1 : n < pw w) (k0 : 0 ≤ m) (k1 : m < pw w) (h : digs n w = digs m w) : n = m := by
  rw [← val_digs_fit n w h0 h1, h, val_digs_fit m w k0 k1]

theorem val_take (l : List Int) (k : Nat) : val l = val (l.take k) + pw (min k l.length) * val (l.drop k) := by
  induction l generalizing k with
  | nil => simp [val]
  | cons d r ih =>
    cases k with
    | zero => simp [val, pw_zero]
    | succ k =>
      have := ih k
      have e : min (k + 1) (d :: r).length = min k r.length + 1 := by simp only [List.length_cons]; omega
      simp only [List.take_succ_cons, List.drop_succ_cons, val, e, pw_succ, Int.mul_assoc]
      omega

theorem isByte_take {l : List Int} (h : isByte l) (k : Nat) : isByte (l.take k) := fun x hx => h x (List.mem_of_mem_take hx)
theorem isByte_drop {l : List Int} (h : isByte l) (k : Nat) : isByte (l.drop k) := fun x hx => h x (List.mem_of_mem_drop hx)
theorem isByte_at {l : List Int} (h : isByte l) {j : Nat} (hj : j < l.length) : 0 ≤ l.getD j 0 ∧ l.getD j 0 < 256 := by
  rw [List.getD_eq_getElem?_getD, List.getElem?_eq_getElem hj]; exact h _ (List.getElem_mem hj)
theorem val_drop (l : List Int) (j : Nat) (hj : j < l.length) : val (l.drop j) = l.getD j 0 + 256 * val (l.drop (j + 1)) := by
  rw [List.drop_eq_getElem_cons hj, val, List.getD_eq_getElem?_getD, List.getElem?_eq_getElem hj]; rfl
theorem val_take_succ (l : List Int) (j : Nat) (hj : j < l.length) : val (l.take (j + 1)) = val (l.take j) + l.getD j 0 * pw j := by
  rw [List.take_succ_eq_append_getElem hj, val_snoc, List.length_take, List.getD_eq_getElem?_getD, List.getElem?_eq_getElem hj, Nat.min_eq_left (by omega)]; rfl
theorem val_drop_bd {l : List Int} (h : isByte l) (k : Nat) (h8 : l.length ≤ k + 8) : 0 ≤ val (l.drop k) ∧ val (l.drop k) < pw (l.length - k) ∧ pw (l.length - k) ≤ 18446744073709551616 := by
  have h1 := val_lt (isByte_drop h k)
  rw [List.length_drop] at h1
  exact ⟨val_nonneg (isByte_drop h k), h1, pw_bd (by omega)⟩

/-- The bytes from w on are all 0. -/
def nz (l : List Int) (w k : Nat) : Bool := decide (val ((l.take k).drop w) ≠ 0)

theorem nz_start (l : List Int) (w : Nat) : nz l w w = false := by
  unfold nz; rw [List.drop_eq_nil_of_le (by rw [List.length_take]; omega)]; rfl
theorem nz_step {l : List Int} (h : isByte l) (w k : Nat) (hw : w ≤ k) (hk : k < l.length) : nz l w (k + 1) = (nz l w k || (l.getD k 0 != 0)) := by
  unfold nz
  have hb := isByte_at h hk
  have h1 := val_nonneg (isByte_drop (isByte_take h k) w)
  rw [List.take_succ_eq_append_getElem hk, List.drop_append_of_le_length (by rw [List.length_take]; omega), val_snoc]
  rw [List.getD_eq_getElem?_getD, List.getElem?_eq_getElem hk] at hb ⊢
  simp only [Option.getD_some] at hb ⊢
  have hp := pw_pos (List.drop w (List.take k l)).length
  generalize val (List.drop w (List.take k l)) = V at *
  generalize pw (List.drop w (List.take k l)).length = Q at *
  generalize l[k] = y at *
  by_cases c : y = 0
  · subst c; simp
  · have : 1 * 1 ≤ y * Q := Int.mul_le_mul (by omega) hp (by omega) (by omega)
    rw [decide_eq_true (by omega)]; simp [c]
theorem fits_nz {l : List Int} (h : isByte l) (w : Nat) (hw : w ≤ l.length) : nz l w l.length = false ↔ val l < pw w := by
  unfold nz
  have hv := val_take l w
  rw [Nat.min_eq_left hw] at hv
  have h1 := val_lt (isByte_take h w)
  rw [List.length_take, Nat.min_eq_left hw] at h1
  have h2 := val_nonneg (isByte_drop h w)
  have h3 := val_nonneg (isByte_take h w)
  have hp := pw_pos w
  rw [List.take_length]
  generalize val (List.drop w l) = D at *
  generalize val (List.take w l) = T at *
  generalize pw w = Q at *
  by_cases c : D = 0
  · subst c; simp; omega
  · have : Q * 1 ≤ Q * D := Int.mul_le_mul_of_nonneg_left (by omega) (by omega)
    simp [c]; omega
theorem digs_take {l : List Int} (h : isByte l) (w : Nat) (hw : w ≤ l.length) : digs (val l) w = l.take w := by
  induction w generalizing l with
  | zero => simp [digs]
  | succ w ih =>
    cases l with
    | nil => simp at hw
    | cons d r =>
      have h1 := h d (by simp)
      simp only [val, digs, List.take_succ_cons]
      rw [show (d + 256 * val r) % 256 = d by omega, show (d + 256 * val r) / 256 = val r by omega, ih (fun x hx => h x (by simp [hx])) (by simp at hw; omega)]
theorem digs_more {l : List Int} (h : isByte l) (j : Nat) : digs (val l) (l.length + j) = l ++ List.replicate j 0 := by
  have z : ∀ j, digs 0 j = List.replicate j 0 := by
    intro j
    induction j with
    | zero => rfl
    | succ j ih => simp [digs, ih, List.replicate_succ]
  induction l with
  | nil => simp [val, z]
  | cons d r ih =>
    have h1 := h d (by simp)
    rw [show (d :: r).length + j = (r.length + j) + 1 by simp; omega]
    simp only [val, digs, List.cons_append]
    rw [show (d + 256 * val r) % 256 = d by omega, show (d + 256 * val r) / 256 = val r by omega, ih (fun x hx => h x (by simp [hx]))]

/-- A width. -/
def isW (w : Int) : Bool := decide (1 ≤ w) && decide (w ≤ 8)
theorem isW_of {w : Int} (h : isW w = true) : 1 ≤ w ∧ w ≤ 8 := by simpa [isW] using h
theorem isW_not {w : Int} (h : isW w = false) : w < 1 ∨ 8 < w := by
  simp [isW] at h; omega
theorem isW_mk {w : Int} (h1 : 1 ≤ w) (h2 : w ≤ 8) : isW w = true := by simp [isW]; omega
theorem isW_no {w : Int} (h : w < 1 ∨ 8 < w) : isW w = false := by simp [isW]; omega

/-! What the functions of layer 1 return. -/
def bytesE (n w : Int) : Int := if isW w = false then 2 else if n < pw w.toNat then 0 else 16
def bytesL (n w : Int) : List Int := if isW w = false then [] else if n < pw w.toNat then digs n w.toNat else []
def valueE (l : List Int) : Int := if isW (l.length : Int) = false then 2 else 0
def valueN (l : List Int) : Int := if isW (l.length : Int) = false then 0 else val l
def atE (l : List Int) (i w : Int) : Int := if isW w = false then 2 else if i < 0 then 2 else if (l.length : Int) < i + w then 24 else 0
def atN (l : List Int) (i w : Int) : Int := if isW w = false then 0 else if i < 0 then 0 else if (l.length : Int) < i + w then 0 else val ((l.drop i.toNat).take w.toNat)
def sgnE (n w : Int) : Int := if isW w = false then 2 else if n < pw w.toNat then 0 else 16
def sgnN (n w : Int) : Int := if isW w = false then 0 else if n < pw w.toNat then (if (pw w.toNat - 1) / 2 < n then n - pw w.toNat else n) else 0
def unsIn (x w : Int) : Bool := decide (x ≤ (pw w.toNat - 1) / 2) && decide (-x - 1 ≤ (pw w.toNat - 1) / 2)
def unsE (x w : Int) : Int := if isW w = false then 2 else if unsIn x w = true then 0 else 16
def unsN (x w : Int) : Int := if isW w = false then 0 else if unsIn x w = true then (if x < 0 then x + pw w.toNat else x) else 0
theorem unsE_eq (n w : Int) (h : isW w = true) : unsE n w = if n ≤ (pw w.toNat - 1) / 2 ∧ -n - 1 ≤ (pw w.toNat - 1) / 2 then 0 else 16 := by simp [unsE, unsIn, h]
theorem unsN_eq (n w : Int) (h : isW w = true) : unsN n w = if n ≤ (pw w.toNat - 1) / 2 ∧ -n - 1 ≤ (pw w.toNat - 1) / 2 then (if n < 0 then n + pw w.toNat else n) else 0 := by simp [unsN, unsIn, h]
end Go.Proofs.Ytbhoodhcipegbaa.M01

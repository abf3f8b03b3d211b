/- Plain facts on little-endian numbers: digits and values, and two's complements. Plain facts on bits: a list of bytes as one number, cut and joined. Numbers folded and unfolded. No program here. Plain facts on runs of ones: how many ones a number has at its low end, and what numbers put behind each other look like. Pieces of bits behind each other: their number, and where each stands. Plain facts on Rice codes: what the code of a number is, and what is read of bits. Bits with Rice codes behind them: written and read. Plain facts on the code with two levels: states, what they learn, codes, and what is read of bits. Bits with codes of two levels behind them, and the states between. Lists of numbers: their codes behind each other, and reading them. Lists of numbers with zeros behind. Codes of numbers from any valid state on: one more behind them, and two lists joined. Reading numbers one by one: what one more round adds. Numbers read of bits that go on: what is read of the first bits is read of all of them. -/
import Derived.WalkKit
import Derived.Laws.BitsLemmas
import Derived.Test.YtmnhepcnbdbhoaaGK
namespace Go.Proofs.Ytmnhepcnbdbhoaa.M01

/-- The w lowest bytes of n, the lowest first. -/
def digs (n : Int) : Nat → List Int
  | 0 => []
  | w + 1 => n % 256 :: digs (n / 256) w

/-- The number of some bytes. -/
def val : List Int → Int
  | [] => 0
  | d :: r => d + 256 * val r

def isByte (l : List Int) : Prop := ∀ x ∈ l, 0 ≤ x ∧ x < 256

/-- 256 to the power of k. -/
def pw (k : Nat) : Int := (256 : Int) ^ k

theorem pw_zero : pw 0 = 1 := rfl
theorem pw_succ (k : Nat) : pw (k + 1) = 256 * pw k := by unfold pw; rw [Int.pow_succ]; omega
theorem pw_pos (k : Nat) : 1 ≤ pw k := by
  induction k with
  | zero => simp [pw_zero]
  | succ k ih => rw [pw_succ]; omega
theorem pw_le {i j : Nat} (h : i ≤ j) : pw i ≤ pw j := by
  induction h with
  | refl => exact Int.le_refl _
  | step _ ih => rw [pw_succ]; have := pw_pos i; omega
theorem pw_lt {i j : Nat} (h : i < j) : 256 * pw i ≤ pw j := by
  have := pw_le (show i + 1 ≤ j from h); rw [pw_succ] at this; exact this
theorem pw_8 : pw 8 = 18446744073709551616 := by decide +kernel
theorem pw_bd {k : Nat} (h : k ≤ 8) : pw k ≤ 18446744073709551616 := by rw [← pw_8]; exact pw_le h
theorem pw_bd7 {k : Nat} (h : k ≤ 7) : pw k ≤ 72057594037927936 := by
  have h7 : pw 7 = 72057594037927936 := by decide +kernel
  rw [← h7]; exact pw_le h

theorem digs_length (n : Int) (w : Nat) : (digs n w).length = w := by
  induction w generalizing n with
  | zero => rfl
  | succ w ih => simp [digs, ih]

theorem digs_byte (n : Int) (w : Nat) : isByte (digs n w) := by
  induction w generalizing n with
  | zero => intro x hx; simp [digs] at hx
  | succ w ih =>
    intro x hx
    simp only [digs, List.mem_cons] at hx
    rcases hx with rfl | hx
    · omega
    · exact ih _ x hx

theorem digs_snoc (n : Int) (w : Nat) : digs n (w + 1) = digs n w ++ [n / pw w % 256] := by
  induction w generalizing n with
  | zero => simp [digs, pw_zero]
  | succ w ih =>
    rw [digs, ih, digs, List.cons_append, pw_succ, Int.ediv_ediv_of_nonneg (by omega)]

theorem digs_getD (n : Int) (w i : Nat) (h : i < w) : (digs n w).getD i 0 = n / pw i % 256 := by
  induction w generalizing n i with
  | zero => omega
  | succ w ih =>
    cases i with
    | zero => simp [digs, pw_zero]
    | succ i =>
      have e : (digs n (w + 1)).getD (i + 1) 0 = (digs (n / 256) w).getD i 0 := by simp [digs]
      rw [e, ih _ _ (by omega), pw_succ, Int.ediv_ediv_of_nonneg (by omega)]

theorem val_nonneg {l : List Int} (h : isByte l) : 0 ≤ val l := by
  induction l with
  | nil => simp [val]
  | cons d r ih =>
    have h1 := h d (by simp)
    have h2 := ih (fun x hx => h x (by simp [hx]))
    simp only [val]; omega

theorem val_lt {l : List Int} (h : isByte l) : val l < pw l.length := by
  induction l with
  | nil => simp [val, pw_zero]
  | cons d r ih =>
    have h1 := h d (by simp)
    have h2 := ih (fun x hx => h x (by simp [hx]))
    simp only [val, List.length_cons, pw_succ]; omega

theorem val_snoc (l : List Int) (d : Int) : val (l ++ [d]) = val l + d * pw l.length := by
  induction l with
  | nil => simp [val, pw_zero]
  | cons c r ih => simp only [List.cons_append, val, ih, List.length_cons, pw_succ, Int.mul_add]; rw [← Int.mul_assoc, Int.mul_comm 256 d, Int.mul_assoc]; omega

theorem val_digs (n : Int) (w : Nat) : val (digs n w) = n % pw w := by
  induction w generalizing n with
  | zero => simp [digs, val, pw_zero, Int.emod_one]
  | succ w ih =>
    simp only [digs, val, ih, pw_succ]
    have hp := pw_pos w
    have h1 := Int.emod_add_mul_ediv n (256 * pw w)
    have h2 := Int.emod_add_mul_ediv n 256
    have h3 := Int.emod_add_mul_ediv (n / 256) (pw w)
    rw [Int.ediv_ediv_of_nonneg (by omega)] at h3
    have e : 256 * (pw w * (n / (256 * pw w))) = 256 * pw w * (n / (256 * pw w)) := by rw [Int.mul_assoc]
    omega

theorem val_digs_fit (n : Int) (w : Nat) (h0 : 0 ≤ n) (h1 : n < pw w) : val (digs n w) = n := by
  rw [val_digs, Int.emod_eq_of_lt h0 h1]

theorem digs_val (l : List Int) (h : isByte l) : digs (val l) l.length = l := by
  induction l with
  | nil => rfl
  | cons d r ih =>
    have h1 := h d (by simp)
    have h2 := ih (fun x hx => h x (by simp [hx]))
    simp only [val, List.length_cons, digs]
    have a : (d + 256 * val r) % 256 = d := by omega
    have b : (d + 256 * val r) / 256 = val r := by omega
    rw [a, b, h2]

theorem digs_inj (n m : Int) (w : Nat) (h0 : 0 ≤ n) (h1 : n < pw w) (k0 : 0 ≤ m) (k1 : m < pw w) (h : digs n w = digs m w) : n = m := by
  rw [← val_digs_fit n w h0 h1, h, val_digs_fit m w k0 k1]

theorem val_take (l : List Int) (k : Nat) : val l = val (l.take k) + pw (min k l.length) * val (l.drop k) := by
  induction l generalizing k with
  | nil => simp [val]
  | cons d r ih =>
    cases k with
    | zero => simp [val, pw_zero]
    | succ k =>
      have := ih k
      have e : min (k + 1) (d :: r).length = min k r.length + 1 := by simp only [List.length_cons]; omega
      simp only [List.take_succ_cons, List.drop_succ_cons, val, e, pw_succ, Int.mul_assoc]
      omega

theorem isByte_take {l : List Int} (h : isByte l) (k : Nat) : isByte (l.take k) := fun x hx => h x (List.mem_of_mem_take hx)
theorem isByte_drop {l : List Int} (h : isByte l) (k : Nat) : isByte (l.drop k) := fun x hx => h x (List.mem_of_mem_drop hx)
theorem isByte_at {l : List Int} (h : isByte l) {j : Nat} (hj : j < l.length) : 0 ≤ l.getD j 0 ∧ l.getD j 0 < 256 := by
  rw [List.getD_eq_getElem?_getD, List.getElem?_eq_getElem hj]; exact h _ (List.getElem_mem hj)
theorem val_drop (l : List Int) (j : Nat) (hj : j < l.length) : val (l.drop j) = l.getD j 0 + 256 * val (l.drop (j + 1)) := by
  rw [List.drop_eq_getElem_cons hj, val, List.getD_eq_getElem?_getD, List.getElem?_eq_getElem hj]; rfl
theorem val_take_succ (l : List Int) (j : Nat) (hj : j < l.length) : val (l.take (j + 1)) = val (l.take j) + l.getD j 0 * pw j := by
  rw [List.take_succ_eq_append_getElem hj, val_snoc, List.length_take, List.getD_eq_getElem?_getD, List.getElem?_eq_getElem hj, Nat.min_eq_left (by omega)]; rfl
theorem val_drop_bd {l : List Int} (h : isByte l) (k : Nat) (h8 : l.length ≤ k + 8) : 0 ≤ val (l.drop k) ∧ val (l.drop k) < pw (l.length - k) ∧ pw (l.length - k) ≤ 18446744073709551616 := by
  have h1 := val_lt (isByte_drop h k)
  rw [List.length_drop] at h1
  exact ⟨val_nonneg (isByte_drop h k), h1, pw_bd (by omega)⟩

/-- The bytes from w on are all 0. -/
def nz (l : List Int) (w k : Nat) : Bool := decide (val ((l.take k).drop w) ≠ 0)

theorem nz_start (l : List Int) (w : Nat) : nz l w w = false := by
  unfold nz; rw [List.drop_eq_nil_of_le (by rw [List.length_take]; omega)]; rfl
theorem nz_step {l : List Int} (h : isByte l) (w k : Nat) (hw : w ≤ k) (hk : k < l.length) : nz l w (k + 1) = (nz l w k || (l.getD k 0 != 0)) := by
  unfold nz
  have hb := isByte_at h hk
  have h1 := val_nonneg (isByte_drop (isByte_take h k) w)
  rw [List.take_succ_eq_append_getElem hk, List.drop_append_of_le_length (by rw [List.length_take]; omega), val_snoc]
  rw [List.getD_eq_getElem?_getD, List.getElem?_eq_getElem hk] at hb ⊢
  simp only [Option.getD_some] at hb ⊢
  have hp := pw_pos (List.drop w (List.take k l)).length
  generalize val (List.drop w (List.take k l)) = V at *
  generalize pw (List.drop w (List.take k l)).length = Q at *
  generalize l[k] = y at *
  by_cases c : y = 0
  · subst c; simp
  · have : 1 * 1 ≤ y * Q := Int.mul_le_mul (by omega) hp (by omega) (by omega)
    rw [decide_eq_true (by omega)]; simp [c]
theorem fits_nz {l : List Int} (h : isByte l) (w : Nat) (hw : w ≤ l.length) : nz l w l.length = false ↔ val l < pw w := by
  unfold nz
  have hv := val_take l w
  rw [Nat.min_eq_left hw] at hv
  have h1 := val_lt (isByte_take h w)
  rw [List.length_take, Nat.min_eq_left hw] at h1
  have h2 := val_nonneg (isByte_drop h w)
  have h3 := val_nonneg (isByte_take h w)
  have hp := pw_pos w
  rw [List.take_length]
  generalize val (List.drop w l) = D at *
  generalize val (List.take w l) = T at *
  generalize pw w = Q at *
  by_cases c : D = 0
  · subst c; simp; omega
  · have : Q * 1 ≤ Q * D := Int.mul_le_mul_of_nonneg_left (by omega) (by omega)
    simp [c]; omega
theorem digs_take {l : List Int} (h : isByte l) (w : Nat) (hw : w ≤ l.length) : digs (val l) w = l.take w := by
  induction w generalizing l with
  | zero => simp [digs]
  | succ w ih =>
    cases l with
    | nil => simp at hw
    | cons d r =>
      have h1 := h d (by simp)
      simp only [val, digs, List.take_succ_cons]
      rw [show (d + 256 * val r) % 256 = d by omega, show (d + 256 * val r) / 256 = val r by omega, ih (fun x hx => h x (by simp [hx])) (by simp at hw; omega)]
theorem digs_more {l : List Int} (h : isByte l) (j : Nat) : digs (val l) (l.length + j) = l ++ List.replicate j 0 := by
  have z : ∀ j, digs 0 j = List.replicate j 0 := by
    intro j
    induction j with
    | zero => rfl
    | succ j ih => simp [digs, ih, List.replicate_succ]
  induction l with
  | nil => simp [val, z]
  | cons d r ih =>
    have h1 := h d (by simp)
    rw [show (d :: r).length + j = (r.length + j) + 1 by simp; omega]
    simp only [val, digs, List.cons_append]
    rw [show (d + 256 * val r) % 256 = d by omega, show (d + 256 * val r) / 256 = val r by omega, ih (fun x hx => h x (by simp [hx]))]

/-- A width. -/
def isW (w : Int) : Bool := decide (1 ≤ w) && decide (w ≤ 8)
theorem isW_of {w : Int} (h : isW w = true) : 1 ≤ w ∧ w ≤ 8 := by simpa [isW] using h
theorem isW_not {w : Int} (h : isW w = false) : w < 1 ∨ 8 < w := by
  simp [isW] at h; omega
theorem isW_mk {w : Int} (h1 : 1 ≤ w) (h2 : w ≤ 8) : isW w = true := by simp [isW]; omega
theorem isW_no {w : Int} (h : w < 1 ∨ 8 < w) : isW w = false := by simp [isW]; omega

/-! What the functions of layer 1 return. -/
def bytesE (n w : Int) : Int := if isW w = false then 2 else if n < pw w.toNat then 0 else 16
def bytesL (n w : Int) : List Int := if isW w = false then [] else if n < pw w.toNat then digs n w.toNat else []
def valueE (l : List Int) : Int := if isW (l.length : Int) = false then 2 else 0
def valueN (l : List Int) : Int := if isW (l.length : Int) = false then 0 else val l
def atE (l : List Int) (i w : Int) : Int := if isW w = false then 2 else if i < 0 then 2 else if (l.length : Int) < i + w then 24 else 0
def atN (l : List Int) (i w : Int) : Int := if isW w = false then 0 else if i < 0 then 0 else if (l.length : Int) < i + w then 0 else val ((l.drop i.toNat).take w.toNat)
def sgnE (n w : Int) : Int := if isW w = false then 2 else if n < pw w.toNat then 0 else 16
def sgnN (n w : Int) : Int := if isW w = false then 0 else if n < pw w.toNat then (if (pw w.toNat - 1) / 2 < n then n - pw w.toNat else n) else 0
def unsIn (x w : Int) : Bool := decide (x ≤ (pw w.toNat - 1) / 2) && decide (-x - 1 ≤ (pw w.toNat - 1) / 2)
def unsE (x w : Int) : Int := if isW w = false then 2 else if unsIn x w = true then 0 else 16
def unsN (x w : Int) : Int := if isW w = false then 0 else if unsIn x w = true then (if x < 0 then x + pw w.toNat else x) else 0
theorem unsE_eq (n w : Int) (h : isW w = true) : unsE n w = if n ≤ (pw w.toNat - 1) / 2 ∧ -n - 1 ≤ (pw w.toNat - 1) / 2 then 0 else 16 := by simp [unsE, unsIn, h]
theorem unsN_eq (n w : Int) (h : isW w = true) : unsN n w = if n ≤ (pw w.toNat - 1) / 2 ∧ -n - 1 ≤ (pw w.toNat - 1) / 2 then (if n < 0 then n + pw w.toNat else n) else 0 := by simp [unsN, unsIn, h]
end Go.Proofs.Ytmnhepcnbdbhoaa.M01

namespace Go.Proofs.Ytmnhepcnbdbhoaa.M02
open Go.Proofs.Ytmnhepcnbdbhoaa.M01

/-- How many bytes n bits have. -/
def sz (n : Int) : Nat := ((n + 7) / 8).toNat
/-- The bytes of the n bits of V. -/
def bl (n V : Int) : List Int := digs V (sz n)
/-- Bits that are valid. -/
def okB (xs : List Int) (n : Int) : Bool := decide (0 ≤ n ∧ n ≤ 330000 ∧ (xs.length : Int) = (n + 7) / 8 ∧ val xs < 2 ^ n.toNat)
def p2 (n : Int) : Int := 2 ^ n.toNat

theorem p2_pos (n : Int) : 1 ≤ p2 n := by
  have : (0 : Int) < 2 ^ n.toNat := Int.pow_pos (by omega)
  unfold p2; omega
theorem two_pos (k : Nat) : 1 ≤ (2 : Int) ^ k := by
  have : (0 : Int) < 2 ^ k := Int.pow_pos (by omega)
  omega
theorem p2_add {n m : Int} (hn : 0 ≤ n) (hm : 0 ≤ m) : p2 (n + m) = p2 n * p2 m := by
  unfold p2; rw [show (n + m).toNat = n.toNat + m.toNat by omega, Int.pow_add]
theorem p2_le {n m : Int} (h : n ≤ m) : p2 n ≤ p2 m := by
  unfold p2
  obtain ⟨k, hk⟩ : ∃ k, m.toNat = n.toNat + k := ⟨m.toNat - n.toNat, by omega⟩
  rw [hk, Int.pow_add]
  have h1 := two_pos n.toNat
  have h2 := Int.mul_le_mul_of_nonneg_left (two_pos k) (show 0 ≤ (2 : Int) ^ n.toNat by omega)
  rw [Int.mul_one] at h2; exact h2
theorem p2_pw (j : Nat) : p2 (8 * (j : Int)) = pw j := by
  unfold p2 pw; rw [show (8 * (j : Int)).toNat = 8 * j by omega, Int.pow_mul]; rfl
theorem p2_zero : p2 0 = 1 := rfl
theorem p2_8 : p2 8 = 256 := by decide +kernel
theorem p2_64 : p2 64 = 18446744073709551616 := by decide +kernel
theorem p2_split {n : Int} (hn : 0 ≤ n) : p2 n = pw (n / 8).toNat * p2 (n % 8) := by
  have := p2_add (show 0 ≤ 8 * ((n / 8).toNat : Int) by omega) (show 0 ≤ n % 8 by omega)
  rw [p2_pw] at this
  rw [← this]; congr 1; omega
theorem p2_small (s : Int) (h0 : 0 ≤ s) (h1 : s ≤ 8) : (s = 0 ∧ p2 s = 1) ∨ (s = 1 ∧ p2 s = 2) ∨ (s = 2 ∧ p2 s = 4) ∨ (s = 3 ∧ p2 s = 8) ∨ (s = 4 ∧ p2 s = 16) ∨ (s = 5 ∧ p2 s = 32) ∨ (s = 6 ∧ p2 s = 64) ∨ (s = 7 ∧ p2 s = 128) ∨ (s = 8 ∧ p2 s = 256) := by
  rcases (show s = 0 ∨ s = 1 ∨ s = 2 ∨ s = 3 ∨ s = 4 ∨ s = 5 ∨ s = 6 ∨ s = 7 ∨ s = 8 by omega) with rfl | rfl | rfl | rfl | rfl | rfl | rfl | rfl | rfl <;> simp [p2]

theorem okB_iff {xs : List Int} {n : Int} : okB xs n = true ↔ 0 ≤ n ∧ n ≤ 330000 ∧ (xs.length : Int) = (n + 7) / 8 ∧ val xs < p2 n := by
  unfold okB p2; rw [decide_eq_true_iff]

theorem sz_nat {n : Int} (h : 0 ≤ n) : (sz n : Int) = (n + 7) / 8 := by unfold sz; omega
theorem sz_le {n m : Int} (h : n ≤ m) : sz n ≤ sz m := by unfold sz; omega

theorem bl_length (n V : Int) : (bl n V).length = sz n := digs_length _ _
theorem bl_byte (n V : Int) : isByte (bl n V) := digs_byte _ _

/-- What is valid is the bytes of its number. -/
theorem ok_eq {xs : List Int} {n : Int} (hb : isByte xs) (h : okB xs n = true) : xs = bl n (val xs) := by
  obtain ⟨h0, _, hl, _⟩ := okB_iff.1 h
  unfold bl
  rw [show sz n = xs.length by have := sz_nat h0; omega, digs_val xs hb]

theorem p2_sz {n : Int} (h : 0 ≤ n) : p2 n ≤ pw (sz n) := by
  rw [← p2_pw]; exact p2_le (by have := sz_nat h; omega)

theorem val_bl {n V : Int} (hn : 0 ≤ n) (h0 : 0 ≤ V) (h1 : V < p2 n) : val (bl n V) = V := by
  unfold bl; exact val_digs_fit V _ h0 (by have := p2_sz hn; omega)

theorem ok_bl {n V : Int} (hn : 0 ≤ n) (hm : n ≤ 330000) (h0 : 0 ≤ V) (h1 : V < p2 n) : okB (bl n V) n = true :=
  okB_iff.2 ⟨hn, hm, by rw [bl_length]; exact sz_nat hn, by rw [val_bl hn h0 h1]; exact h1⟩

theorem val_at {xs : List Int} (hb : isByte xs) {j : Nat} (hj : j < xs.length) : val xs / pw j % 256 = xs.getD j 0 := by
  rw [← digs_getD (val xs) xs.length j hj, digs_val xs hb]

theorem val_past {xs : List Int} (hb : isByte xs) {j : Nat} (hj : xs.length ≤ j) : val xs / pw j = 0 := by
  apply Int.ediv_eq_zero_of_lt (val_nonneg hb)
  have := val_lt hb
  have := pw_le hj
  omega

theorem div_p2 (A : Int) {n : Int} (hn : 0 ≤ n) : A / p2 n = A / pw (n / 8).toNat / p2 (n % 8) := by
  rw [p2_split hn, ← Int.ediv_ediv_of_nonneg (by have := pw_pos (n / 8).toNat; omega)]

/-- The bit with an index. -/
theorem val_bit {xs : List Int} (hb : isByte xs) {i : Int} (h0 : 0 ≤ i) (hi : i < 8 * xs.length) :
    xs.getD (i / 8).toNat 0 / p2 (i % 8) % 2 = val xs / p2 i % 2 := by
  have h1 := val_at hb (show (i / 8).toNat < xs.length by omega)
  rw [div_p2 _ h0]
  rcases p2_small (i % 8) (by omega) (by omega) with ⟨_, e⟩ | ⟨_, e⟩ | ⟨_, e⟩ | ⟨_, e⟩ | ⟨_, e⟩ | ⟨_, e⟩ | ⟨_, e⟩ | ⟨_, e⟩ | ⟨_, e⟩ <;> rw [e] <;> omega

/-- Whether the bits behind the last one are 0 is seen at the last byte. -/
theorem ok_last {xs : List Int} {n : Int} (hb : isByte xs) (h0 : 0 ≤ n) (hl : (xs.length : Int) = (n + 7) / 8) :
    val xs < p2 n ↔ (n % 8 = 0 ∨ xs.getD (n / 8).toNat 0 / p2 (n % 8) = 0) := by
  have hlt := val_lt hb
  have hnn := val_nonneg hb
  by_cases h8 : n % 8 = 0
  · have : p2 n = pw xs.length := by rw [← p2_pw]; congr 1; omega
    rw [this]; exact ⟨fun _ => .inl h8, fun _ => hlt⟩
  · have hj : xs.length = (n / 8).toNat + 1 := by omega
    have h1 := val_at hb (show (n / 8).toNat < xs.length by omega)
    have h2 := val_past hb (show xs.length ≤ (n / 8).toNat + 1 by omega)
    rw [pw_succ, Int.mul_comm, ← Int.ediv_ediv_of_nonneg (by have := pw_pos (n / 8).toNat; omega)] at h2
    have e := div_p2 (val xs) h0
    have hp := p2_pos n
    have h3 : val xs / pw (n / 8).toNat = xs.getD (n / 8).toNat 0 := by omega
    rw [h3] at e
    rw [← e]
    constructor
    · intro h; exact .inr (Int.ediv_eq_zero_of_lt hnn h)
    · rintro (h | h)
      · exact absurd h h8
      · by_cases hq : val xs < p2 n
        · exact hq
        · have := Int.ediv_pos_of_pos_of_dvd (a := p2 n) (b := p2 n) (by omega) (by omega) (Int.dvd_refl _)
          have h4 := Int.ediv_le_ediv (show 0 < p2 n by omega) (show p2 n ≤ val xs by omega)
          rw [Int.ediv_self (by omega)] at h4
          omega

theorem mod_p2_succ (A : Int) {i : Int} (h : 0 ≤ i) : A % p2 (i + 1) = A % p2 i + A / p2 i % 2 * p2 i := by
  rw [p2_add h (by omega), show p2 1 = 2 from rfl]
  have h1 := Int.emod_add_mul_ediv A (p2 i)
  have h2 := Int.emod_add_mul_ediv (A / p2 i) 2
  have hp := p2_pos i
  have h3 : A = (A % p2 i + A / p2 i % 2 * p2 i) + (p2 i * 2) * (A / p2 i / 2) := by
    have : p2 i * (A / p2 i) = A / p2 i % 2 * p2 i + p2 i * 2 * (A / p2 i / 2) := by
      rw [Int.mul_comm (A / p2 i % 2), Int.mul_assoc, ← Int.mul_add, h2]
    omega
  have hr0 := Int.emod_nonneg A (show p2 i ≠ 0 by omega)
  have hr1 := Int.emod_lt_of_pos A (show 0 < p2 i by omega)
  have hq : A / p2 i % 2 = 0 ∨ A / p2 i % 2 = 1 := by omega
  conv => lhs; rw [h3]
  rw [Int.add_mul_emod_self_left]
  apply Int.emod_eq_of_lt
  · rcases hq with e | e <;> rw [e] <;> omega
  · rcases hq with e | e <;> rw [e] <;> omega

/-- Bytes behind a place. -/
theorem digs_split (L H : Int) (j m : Nat) (h0 : 0 ≤ L) (h1 : L < pw j) : digs (L + H * pw j) (j + m) = digs L j ++ digs H m := by
  induction j generalizing L with
  | zero =>
    have : L = 0 := by rw [pw_zero] at h1; omega
    subst this; simp [digs, pw_zero]
  | succ j ih =>
    rw [show j + 1 + m = (j + m) + 1 by omega]
    simp only [digs, List.cons_append]
    rw [pw_succ] at h1 ⊢
    have e : L + H * (256 * pw j) = L + 256 * (H * pw j) := by rw [Int.mul_left_comm]
    have e2 : (L + H * (256 * pw j)) / 256 = L / 256 + H * pw j := by rw [e]; omega
    rw [e2, ih (L / 256) (by omega) (by omega)]
    rw [e]; congr 1; omega

theorem digs_zero (m : Nat) : digs 0 m = List.replicate m 0 := by
  induction m with
  | zero => rfl
  | succ m ih => rw [digs, List.replicate_succ, ← ih]; rfl

/-- The round of what is put behind: a byte x from the bit s of the byte j on, where all from there on is 0. -/
theorem row_put (L y x s : Int) (j m : Nat) (h0 : 0 ≤ L) (h1 : L < pw j) (hs0 : 0 ≤ s) (hs : s < 8) (hy0 : 0 ≤ y) (hy : y < p2 s) (hx0 : 0 ≤ x) (hx : x < 256)
    (hfit : L + (y + x * p2 s) * pw j < pw (j + m)) (hm : 0 < m) :
    (digs (L + y * pw j) (j + m)).getD j 0 = y ∧ (x / p2 (8 - s) ≠ 0 → 1 < m) ∧ y + x * p2 s % 256 < 256 ∧
    digs (L + (y + x * p2 s) * pw j) (j + m) = (if x / p2 (8 - s) = 0 then (digs (L + y * pw j) (j + m)).set j (y + x * p2 s % 256) else ((digs (L + y * pw j) (j + m)).set j (y + x * p2 s % 256)).set (j + 1) (x / p2 (8 - s))) := by
  have hp := pw_pos j
  have e1 : x * p2 s = 256 * (x / p2 (8 - s)) + x * p2 s % 256 ∧ y + x * p2 s % 256 < 256 ∧ y < 256 ∧ x / p2 (8 - s) < 256 ∧ 0 ≤ x / p2 (8 - s) ∧ 0 ≤ x * p2 s % 256 := by
    rcases (show s = 0 ∨ s = 1 ∨ s = 2 ∨ s = 3 ∨ s = 4 ∨ s = 5 ∨ s = 6 ∨ s = 7 by omega) with rfl | rfl | rfl | rfl | rfl | rfl | rfl | rfl <;> simp [p2] at hy ⊢ <;> omega
  obtain ⟨e1, e2, e3, e4, e5, e6⟩ := e1
  generalize x / p2 (8 - s) = q at *
  generalize hr : x * p2 s % 256 = r at *
  rw [e1] at hfit ⊢
  clear hr e1
  obtain ⟨m, rfl⟩ : ∃ k, m = k + 1 := ⟨m - 1, by omega⟩
  rw [digs_split L y j (m + 1) h0 h1, digs_split L _ j (m + 1) h0 h1]
  have d1 : digs y (m + 1) = y :: List.replicate m 0 := by
    rw [digs, show y / 256 = 0 by omega, digs_zero, show y % 256 = y by omega]
  have d2 : digs (y + (256 * q + r)) (m + 1) = (y + r) :: digs q m := by
    rw [digs]; congr 1
    · omega
    · congr 1; omega
  have hmq : q ≠ 0 → 1 < m + 1 := by
    intro hq
    rcases Nat.eq_zero_or_pos m with rfl | hm'
    · exfalso
      rw [pw_succ j] at hfit
      have : 256 * pw j ≤ (y + (256 * q + r)) * pw j := Int.mul_le_mul_of_nonneg_right (by omega) (by omega)
      omega
    · omega
  refine ⟨?_, hmq, e2, ?_⟩
  · rw [d1, List.getD_eq_getElem?_getD, List.getElem?_append_right (by rw [digs_length]; omega), digs_length]; simp
  · rw [d1, d2]
    have hl : (digs L j).length = j := digs_length _ _
    by_cases hq : q = 0
    · rw [if_pos hq, hq, digs_zero, List.set_append_right _ _ (by omega), hl]; simp
    · rw [if_neg hq]
      obtain ⟨m, rfl⟩ : ∃ k, m = k + 1 := ⟨m - 1, by have := hmq hq; omega⟩
      rw [List.set_append_right _ _ (by omega), List.set_append_right _ _ (by omega), hl, digs, show q / 256 = 0 by omega, show q % 256 = q by omega, digs_zero]
      simp [List.replicate_succ]

theorem pw_add (i j : Nat) : pw (i + j) = pw i * pw j := by unfold pw; exact Int.pow_add ..

theorem div_at (A : Int) {n : Int} (hn : 0 ≤ n) (i : Nat) : A / p2 n / pw i = A / pw ((n / 8).toNat + i) / p2 (n % 8) := by
  have h1 := pw_pos (n / 8).toNat
  have h2 := p2_pos (n % 8)
  have h3 := pw_pos i
  rw [div_p2 A hn, pw_add, Int.ediv_ediv_of_nonneg (show 0 ≤ p2 (n % 8) by omega), ← Int.ediv_ediv_of_nonneg (show 0 ≤ pw (n / 8).toNat by omega), Int.mul_comm (p2 (n % 8)), Int.ediv_ediv_of_nonneg (show 0 ≤ pw i by omega)]

/-- Eight bits from an index on, out of one byte or two. -/
theorem eight_eq {xs : List Int} (hb : isByte xs) {n : Int} (hn : 0 ≤ n) (i : Nat) (hj : (n / 8).toNat + i < xs.length) :
    val xs / p2 n / pw i % 256 = xs.getD ((n / 8).toNat + i) 0 / p2 (n % 8) + (if (n / 8).toNat + i + 1 < xs.length then xs.getD ((n / 8).toNat + i + 1) 0 * p2 (8 - n % 8) % 256 else 0) := by
  rw [div_at _ hn]
  generalize hJ : (n / 8).toNat + i = J at *
  have h1 := val_at hb hj
  have h2 : val xs / pw J / 256 % 256 = (if J + 1 < xs.length then xs.getD (J + 1) 0 else 0) ∧ (¬ J + 1 < xs.length → val xs / pw J / 256 = 0) := by
    have e : val xs / pw J / 256 = val xs / pw (J + 1) := by rw [pw_succ, Int.mul_comm, Int.ediv_ediv_of_nonneg (by have := pw_pos J; omega)]
    rw [e]
    by_cases h : J + 1 < xs.length
    · rw [if_pos h]; exact ⟨val_at hb h, fun h' => absurd h h'⟩
    · rw [if_neg h, val_past hb (by omega)]; exact ⟨rfl, fun _ => rfl⟩
  obtain ⟨h2, h3⟩ := h2
  generalize xs.getD J 0 = y at *
  generalize xs.getD (J + 1) 0 = z at *
  by_cases h : J + 1 < xs.length
  · rw [if_pos h] at h2 ⊢
    rcases (show n % 8 = 0 ∨ n % 8 = 1 ∨ n % 8 = 2 ∨ n % 8 = 3 ∨ n % 8 = 4 ∨ n % 8 = 5 ∨ n % 8 = 6 ∨ n % 8 = 7 by omega) with e | e | e | e | e | e | e | e <;> rw [e] <;> simp [p2] <;> omega
  · rw [if_neg h] at h2 ⊢
    have h3 := h3 h
    rcases (show n % 8 = 0 ∨ n % 8 = 1 ∨ n % 8 = 2 ∨ n % 8 = 3 ∨ n % 8 = 4 ∨ n % 8 = 5 ∨ n % 8 = 6 ∨ n % 8 = 7 by omega) with e | e | e | e | e | e | e | e <;> rw [e] <;> simp [p2] <;> omega

theorem getD_drop (xs : List Int) (d i : Nat) : (xs.drop d).getD i 0 = xs.getD (d + i) 0 := by
  rw [List.getD_eq_getElem?_getD, List.getD_eq_getElem?_getD, List.getElem?_drop]

theorem mod_pw_succ (X : Int) (i : Nat) : X % pw (i + 1) = X % pw i + X / pw i % 256 * pw i := by
  have hp := pw_pos i
  have h1 := Int.emod_add_mul_ediv X (pw i)
  have h2 := Int.emod_add_mul_ediv (X / pw i) 256
  have hr0 := Int.emod_nonneg X (show pw i ≠ 0 by omega)
  have hr1 := Int.emod_lt_of_pos X (show 0 < pw i by omega)
  have h3 : X = (X % pw i + X / pw i % 256 * pw i) + pw (i + 1) * (X / pw i / 256) := by
    have : pw i * (X / pw i) = X / pw i % 256 * pw i + pw (i + 1) * (X / pw i / 256) := by
      rw [pw_succ, Int.mul_comm 256, Int.mul_comm (X / pw i % 256), Int.mul_assoc, ← Int.mul_add, h2]
    omega
  have h4 : 0 ≤ X / pw i % 256 * pw i := Int.mul_nonneg (by omega) (by omega)
  have h5 : (X / pw i % 256 + 1) * pw i ≤ 256 * pw i := Int.mul_le_mul_of_nonneg_right (by omega) (by omega)
  rw [Int.add_mul, Int.one_mul] at h5
  conv => lhs; rw [h3]
  rw [Int.add_mul_emod_self_left]
  apply Int.emod_eq_of_lt (by omega)
  rw [pw_succ]; omega

theorem join_lt {V X n m : Int} (hn : 0 ≤ n) (hm : 0 ≤ m) (hV : V < p2 n) (hX : X < p2 m) : V + X * p2 n < p2 (n + m) := by
  have hp := p2_pos n
  have h : (X + 1) * p2 n ≤ p2 m * p2 n := Int.mul_le_mul_of_nonneg_right (by omega) (by omega)
  rw [p2_add hn hm, Int.mul_comm (p2 n)]
  rw [Int.add_mul, Int.one_mul] at h
  omega

theorem mod_pw_lt (X : Int) (i : Nat) : 0 ≤ X % pw i ∧ X % pw i < pw i := by
  have hp := pw_pos i
  exact ⟨Int.emod_nonneg X (by omega), Int.emod_lt_of_pos X (by omega)⟩

theorem mod_pw_le {X : Int} (h : 0 ≤ X) (i : Nat) : X % pw i ≤ X := by
  have hp := pw_pos i
  have h1 := Int.emod_add_mul_ediv X (pw i)
  have h2 : 0 ≤ pw i * (X / pw i) := Int.mul_nonneg (by omega) (Int.ediv_nonneg h (by omega))
  omega

/-- A round of what puts bits behind others. -/
theorem behind_round (V n m X x : Int) (L i d : Nat) (hn : 0 ≤ n) (hd : (n / 8).toNat = d) (hV0 : 0 ≤ V) (hV : V < p2 n) (hm : 0 ≤ m) (hX0 : 0 ≤ X) (hX : X < p2 m) (hL : n + m ≤ 8 * (L : Int)) (hi : 8 * (i : Int) < m) (hx : X / pw i % 256 = x) :
    ∃ y, (digs (V + X % pw i * p2 n) L).getD (d + i) 0 = y ∧ 0 ≤ y ∧ y < p2 (n % 8) ∧ 0 ≤ x ∧ x < 256 ∧ d + i < L ∧ (x / p2 (8 - n % 8) ≠ 0 → d + i + 1 < L) ∧ y + x * p2 (n % 8) % 256 < 256 ∧
      digs (V + X % pw (i + 1) * p2 n) L = (if x / p2 (8 - n % 8) = 0 then (digs (V + X % pw i * p2 n) L).set (d + i) (y + x * p2 (n % 8) % 256) else ((digs (V + X % pw i * p2 n) L).set (d + i) (y + x * p2 (n % 8) % 256)).set (d + i + 1) (x / p2 (8 - n % 8))) := by
  have hp := pw_pos i
  have hpn := p2_pos n
  have hpj := pw_pos (d + i)
  have hps := p2_pos (n % 8)
  obtain ⟨e0, e1⟩ := mod_pw_lt X i
  have hj : d + i < L := by omega
  obtain ⟨k, rfl⟩ : ∃ k, L = d + i + k := ⟨L - (d + i), by omega⟩
  have hsplit : p2 n * pw i = p2 (n % 8) * pw (d + i) := by
    rw [p2_split hn, hd, pw_add, Int.mul_comm (pw d), Int.mul_assoc]
  have hA : V + X % pw i * p2 n < p2 (n % 8) * pw (d + i) := by
    rw [← hsplit]
    have h : (X % pw i + 1) * p2 n ≤ pw i * p2 n := Int.mul_le_mul_of_nonneg_right (by omega) (by omega)
    rw [Int.add_mul, Int.one_mul, Int.mul_comm (pw i)] at h
    omega
  have hA0 : 0 ≤ V + X % pw i * p2 n := by have := Int.mul_nonneg e0 (show 0 ≤ p2 n by omega); omega
  have hA' : V + X % pw (i + 1) * p2 n = V + X % pw i * p2 n + x * p2 (n % 8) * pw (d + i) := by
    rw [mod_pw_succ, hx, Int.add_mul, Int.mul_assoc x (pw i), Int.mul_comm (pw i), hsplit, Int.mul_assoc]; omega
  have hfit : V + X % pw (i + 1) * p2 n < pw (d + i + k) := by
    have h1 := Int.mul_le_mul_of_nonneg_right (mod_pw_le hX0 (i + 1)) (show 0 ≤ p2 n by omega)
    have h2 := join_lt hn hm hV hX
    have h3 : p2 (n + m) ≤ pw (d + i + k) := by rw [← p2_pw]; exact p2_le hL
    omega
  rw [hA'] at hfit ⊢
  generalize hAe : V + X % pw i * p2 n = A at *
  have hdm := Int.emod_add_mul_ediv A (pw (d + i))
  have hm0 := Int.emod_nonneg A (show pw (d + i) ≠ 0 by omega)
  have hm1 := Int.emod_lt_of_pos A (show 0 < pw (d + i) by omega)
  have hy0 : 0 ≤ A / pw (d + i) := Int.ediv_nonneg hA0 (by omega)
  have hy : A / pw (d + i) < p2 (n % 8) := by
    apply Int.ediv_lt_of_lt_mul (by omega) hA
  rw [Int.mul_comm] at hdm
  generalize A / pw (d + i) = y at *
  generalize A % pw (d + i) = L0 at *
  have hA2 : A + x * p2 (n % 8) * pw (d + i) = L0 + (y + x * p2 (n % 8)) * pw (d + i) := by rw [Int.add_mul]; omega
  rw [hA2] at hfit ⊢
  have h := row_put L0 y x (n % 8) (d + i) k hm0 hm1 (by omega) (by omega) hy0 hy (by omega) (by omega) hfit (by omega)
  rw [hdm] at h
  obtain ⟨h1, h2, h3, h4⟩ := h
  exact ⟨y, h1, hy0, hy, by omega, by omega, hj, fun h => by have := h2 h; omega, h3, h4⟩

/-- Check's answer. -/
def chkE (xs : List Int) (n : Int) : Int := if okB xs n then 0 else 8
/-- What Put answers. -/
def putE (xs : List Int) (n v m : Int) : Int := if okB xs n then (if m < 0 ∨ 64 < m then 2 else if p2 m ≤ v then 16 else if 330000 < n + m then 18 else 0) else 8
def putL (xs : List Int) (n v m : Int) : List Int := if putE xs n v m = 0 then bl (n + m) (val xs + v * p2 n) else []
def putN (xs : List Int) (n v m : Int) : Int := if putE xs n v m = 0 then n + m else 0
/-- What Get answers. -/
def getE (xs : List Int) (n at_ m : Int) : Int := if okB xs n then (if m < 0 ∨ 64 < m ∨ at_ < 0 then 2 else if n - at_ < m then 24 else 0) else 8
def getN (xs : List Int) (n at_ m : Int) : Int := if getE xs n at_ m = 0 then val xs / p2 at_ % p2 m else 0
/-- What Join answers. -/
def joE (xs : List Int) (n : Int) (ys : List Int) (m : Int) : Int := if okB xs n then (if okB ys m then (if 330000 < n + m then 18 else 0) else 8) else 8
def joL (xs : List Int) (n : Int) (ys : List Int) (m : Int) : List Int := if joE xs n ys m = 0 then bl (n + m) (val xs + val ys * p2 n) else []
def joN (xs : List Int) (n : Int) (ys : List Int) (m : Int) : Int := if joE xs n ys m = 0 then n + m else 0
/-- What Cut answers. -/
def cuE (xs : List Int) (n f t : Int) : Int := if okB xs n then (if f < 0 ∨ n < t ∨ t < f then 2 else 0) else 8
def cuL (xs : List Int) (n f t : Int) : List Int := if cuE xs n f t = 0 then bl (t - f) (val xs / p2 f % p2 (t - f)) else []
def cuN (xs : List Int) (n f t : Int) : Int := if cuE xs n f t = 0 then t - f else 0
/-- What Align answers. -/
def alL (xs : List Int) (n : Int) : List Int := if chkE xs n = 0 then xs else []
def alN (xs : List Int) (n : Int) : Int := if chkE xs n = 0 then 8 * xs.length else 0
/-- What Of answers. -/
def ofL (xs : List Int) : List Int := if xs.length ≤ 41250 then xs else []
def ofN (xs : List Int) : Int := if xs.length ≤ 41250 then 8 * xs.length else 0
def ofE (xs : List Int) : Int := if xs.length ≤ 41250 then 0 else 4

theorem emod_ediv_mul (Y a b : Int) (ha : 0 < a) (hb : 0 < b) : Y % (a * b) / a = Y / a % b := by
  have h1 := Int.emod_add_mul_ediv Y a
  have h2 := Int.emod_add_mul_ediv (Y / a) b
  have r0 := Int.emod_nonneg Y (show a ≠ 0 by omega)
  have r1 := Int.emod_lt_of_pos Y ha
  have s0 := Int.emod_nonneg (Y / a) (show b ≠ 0 by omega)
  have s1 := Int.emod_lt_of_pos (Y / a) hb
  have hY : Y = (Y % a + a * (Y / a % b)) + a * b * (Y / a / b) := by
    have : a * (Y / a) = a * (Y / a % b) + a * b * (Y / a / b) := by rw [Int.mul_assoc, ← Int.mul_add, h2]
    omega
  have t0 : 0 ≤ a * (Y / a % b) := Int.mul_nonneg (by omega) s0
  have t1 : a * (Y / a % b + 1) ≤ a * b := Int.mul_le_mul_of_nonneg_left (by omega) (by omega)
  rw [Int.mul_add, Int.mul_one] at t1
  conv => lhs; rw [hY]
  rw [Int.add_mul_emod_self_left, Int.emod_eq_of_lt (by omega) (by omega), Int.add_mul_ediv_left _ _ (by omega), Int.ediv_eq_zero_of_lt r0 r1, Int.zero_add]

theorem cut_byte (Y n : Int) (i : Nat) (h : 8 * (i : Int) < n) : Y % p2 n / pw i % 256 = Y / pw i % 256 % p2 (min (n - 8 * i) 64) := by
  have hp := pw_pos i
  have e : p2 n = pw i * p2 (n - 8 * i) := by
    rw [← p2_pw, ← p2_add (by omega) (by omega)]; congr 1; omega
  rw [e, emod_ediv_mul Y _ _ (by omega) (by have := p2_pos (n - 8 * i); omega)]
  generalize Y / pw i = Z
  by_cases h8 : n - 8 * i < 8
  · rw [show min (n - 8 * (i : Int)) 64 = n - 8 * i by omega]
    rcases (show n - 8 * (i : Int) = 1 ∨ n - 8 * (i : Int) = 2 ∨ n - 8 * (i : Int) = 3 ∨ n - 8 * (i : Int) = 4 ∨ n - 8 * (i : Int) = 5 ∨ n - 8 * (i : Int) = 6 ∨ n - 8 * (i : Int) = 7 by omega) with e | e | e | e | e | e | e <;> rw [e] <;> simp [p2] <;> omega
  · have h1 : 256 ≤ p2 (min (n - 8 * (i : Int)) 64) := by rw [← p2_8]; exact p2_le (by omega)
    have e2 : p2 (n - 8 * i) = 256 * p2 (n - 8 * i - 8) := by rw [← p2_8, ← p2_add (by omega) (by omega)]; congr 1; omega
    rw [Int.emod_eq_of_lt (show 0 ≤ Z % 256 by omega) (by omega), e2]
    exact Int.emod_emod_of_dvd _ (Int.dvd_mul_right ..)

theorem high_bits {V v n m : Int} (h0 : 0 ≤ V) (h1 : V < p2 n) (hv0 : 0 ≤ v) (hv : v < p2 m) : (V + v * p2 n) / p2 n % p2 m = v := by
  have hp := p2_pos n
  rw [Int.add_mul_ediv_right _ _ (by omega), Int.ediv_eq_zero_of_lt h0 h1, Int.zero_add, Int.emod_eq_of_lt hv0 hv]

theorem low_bits {V v n a m : Int} (ha : 0 ≤ a) (hm : 0 ≤ m) (h : a + m ≤ n) : (V + v * p2 n) / p2 a % p2 m = V / p2 a % p2 m := by
  have hp := p2_pos a
  have e : p2 n = p2 m * p2 (n - a - m) * p2 a := by
    rw [← p2_add hm (by omega), ← p2_add (by omega) ha]; congr 1; omega
  rw [e, ← Int.mul_assoc, Int.add_mul_ediv_right _ _ (by omega), Int.mul_left_comm, Int.add_mul_emod_self_left]

theorem emod_bd (V : Int) (n : Int) : 0 ≤ V % p2 n ∧ V % p2 n < p2 n := by
  have hp := p2_pos n
  exact ⟨Int.emod_nonneg _ (by omega), Int.emod_lt_of_pos _ (by omega)⟩

theorem p2_le64 {n : Int} (h : n ≤ 64) : p2 n ≤ 18446744073709551616 := by rw [← p2_64]; exact p2_le h
end Go.Proofs.Ytmnhepcnbdbhoaa.M02

namespace Go.Proofs.Ytmnhepcnbdbhoaa.M05
open Go.RowKit Go.Proofs.Ytmnhepcnbdbhoaa.Kit
set_option linter.unusedVariables false

/-- A signed number, folded; a number, unfolded. -/
def foldI (x : Int) : Int := if 0 ≤ x then 2 * x else -2 * x - 1
def backI (n : Int) : Int := if n % 2 = 0 then n / 2 else -(n / 2) - 1

theorem foldI_pos {x : Int} (h : 0 ≤ x) : foldI x = 2 * x := if_pos h
theorem foldI_neg {x : Int} (h : x < 0) : foldI x = -2 * x - 1 := if_neg (by omega)
theorem backI_even {n : Int} (h : n % 2 = 0) : backI n = n / 2 := if_pos h
theorem backI_odd {n : Int} (h : n % 2 = 1) : backI n = -(n / 2) - 1 := if_neg (by omega)

theorem foldI_bd {x : Int} (h : -2147483648 ≤ x) (h2 : x ≤ 2147483647) : 0 ≤ foldI x ∧ foldI x ≤ 4294967295 := by
  unfold foldI; split <;> omega
theorem backI_bd {n : Int} (h : 0 ≤ n) (h2 : n ≤ 4294967295) : -2147483648 ≤ backI n ∧ backI n ≤ 2147483647 := by
  unfold backI; split <;> omega
theorem back_fold (x : Int) : backI (foldI x) = x := by
  unfold foldI backI; split <;> split <;> omega
theorem fold_back {n : Int} (h : 0 ≤ n) : foldI (backI n) = n := by
  unfold backI foldI; split <;> split <;> omega

theorem wf_u32 {x : Int} (h : 0 ≤ x) (h2 : x ≤ 4294967295) : (Lit.int .u32 x).wf = true := by
  simp [Lit.wf, IntKind.min, IntKind.max, IntKind.signed, IntKind.bits]; omega
theorem wf_i32 {x : Int} (h : -2147483648 ≤ x) (h2 : x ≤ 2147483647) : (Lit.int .i32 x).wf = true := by
  simp [Lit.wf, IntKind.min, IntKind.max, IntKind.signed, IntKind.bits]; omega

theorem fold_wf {xs : List Int} (h : ∀ x ∈ xs, (Lit.int .i32 x).wf = true) : ∀ x ∈ xs.map foldI, (Lit.int .u32 x).wf = true := by
  intro x hx
  rw [List.mem_map] at hx
  obtain ⟨y, hy, rfl⟩ := hx
  have := bd_i32 (h y hy)
  have := foldI_bd this.1 this.2
  exact wf_u32 this.1 this.2
theorem back_wf {xs : List Int} (h : ∀ x ∈ xs, (Lit.int .u32 x).wf = true) : ∀ x ∈ xs.map backI, (Lit.int .i32 x).wf = true := by
  intro x hx
  rw [List.mem_map] at hx
  obtain ⟨y, hy, rfl⟩ := hx
  have := bd_u32 (h y hy)
  have := backI_bd this.1 this.2
  exact wf_i32 this.1 this.2
theorem back_folds (xs : List Int) : (xs.map foldI).map backI = xs := by
  rw [List.map_map, show backI ∘ foldI = id from funext back_fold, List.map_id]
theorem fold_backs {xs : List Int} (h : ∀ x ∈ xs, (Lit.int .u32 x).wf = true) : (xs.map backI).map foldI = xs := by
  rw [List.map_map]
  conv => rhs; rw [← List.map_id xs]
  exact List.map_congr_left fun x hx => fold_back (bd_u32 (h x hx)).1

theorem getD_wf {xs : List Int} {k : IntKind} (h : ∀ x ∈ xs, (Lit.int k x).wf = true) {i : Nat} (hi : i < xs.length) : (Lit.int k (xs.getD i 0)).wf = true := by
  rw [List.getD_eq_getElem?_getD, List.getElem?_eq_getElem hi]; exact h _ (by simp)
theorem getD_map {f : Int → Int} {xs : List Int} {i : Nat} (hi : i < xs.length) : (xs.map f).getD i 0 = f (xs.getD i 0) := by
  simp [List.getD_eq_getElem?_getD, hi]

/-- A row of zeros, filled from its front: k of them. -/
theorem fill_length (f : Int → Int) {xs : List Int} {k : Nat} (hk : k ≤ xs.length) : ((xs.take k).map f ++ List.replicate (xs.length - k) (0 : Int)).length = xs.length := by
  simp; omega
theorem fill_set (f : Int → Int) {xs : List Int} {k : Nat} (hk : k < xs.length) :
    ((xs.take k).map f ++ List.replicate (xs.length - k) (0 : Int)).set k (f (xs.getD k 0)) = (xs.take (k + 1)).map f ++ List.replicate (xs.length - (k + 1)) 0 := by
  rw [List.set_append_right _ _ (by simp; omega), List.take_add_one, List.map_append, List.getElem?_eq_getElem hk, List.getD_eq_getElem?_getD, List.getElem?_eq_getElem hk, List.append_assoc]
  congr 1
  rw [show xs.length - k = (xs.length - (k + 1)) + 1 by omega, List.replicate_succ, show k - ((xs.take k).map f).length = 0 by simp; omega]
  rfl
theorem map_snoc (f : Int → Int) {xs : List Int} {k : Nat} (hk : k < xs.length) : (xs.take (k + 1)).map f = (xs.take k).map f ++ [f (xs.getD k 0)] := by
  rw [List.take_add_one, List.map_append, List.getElem?_eq_getElem hk, List.getD_eq_getElem?_getD, List.getElem?_eq_getElem hk]; rfl

/-- Lists are the same. -/
def sameL (xs ys : List Int) : Bool := decide (xs = ys)
theorem sameL_self (xs : List Int) : sameL xs xs = true := by simp [sameL]
theorem take_snoc_eq {xs ys : List Int} {k : Nat} (h : xs.take k = ys.take k) (h1 : k < xs.length) (h2 : k < ys.length) (he : xs.getD k 0 = ys.getD k 0) : xs.take (k + 1) = ys.take (k + 1) := by
  rw [List.getD_eq_getElem?_getD, List.getD_eq_getElem?_getD, List.getElem?_eq_getElem h1, List.getElem?_eq_getElem h2] at he
  simp only [Option.getD_some] at he
  rw [List.take_add_one, List.take_add_one, h, List.getElem?_eq_getElem h1, List.getElem?_eq_getElem h2, he]
theorem sameL_ne {xs ys : List Int} {k : Nat} (he : xs.getD k 0 ≠ ys.getD k 0) : sameL xs ys = false := by
  unfold sameL; rw [decide_eq_false]; intro h; exact he (by rw [h])

/-- Order. -/
theorem foldI_eq {x y : Int} : (foldI x = foldI y) = (x = y) := by
  unfold foldI; split <;> split <;> exact propext (by omega)
/-- The absolute value. -/
def sizeI (x : Int) : Int := if x < 0 then -x else x
theorem sizeI_neg {x : Int} (h : x < 0) : sizeI x = -x := if_pos h
theorem sizeI_pos {x : Int} (h : 0 ≤ x) : sizeI x = x := if_neg (by omega)
theorem order_lt {x y : Int} (h : sizeI x < sizeI y) : foldI x < foldI y := by
  unfold sizeI at h; unfold foldI
  split at h <;> split at h <;> split <;> split <;> omega
theorem order_eq {x y : Int} (h : sizeI x = sizeI y) (h2 : x < y) : foldI x + 1 = foldI y ∧ 0 ≤ foldI x := by
  unfold sizeI at h; unfold foldI
  split at h <;> split at h <;> split <;> split <;> omega

end Go.Proofs.Ytmnhepcnbdbhoaa.M05

namespace Go.Proofs.Ytmnhepcnbdbhoaa.M06
open Go.Proofs.Ytmnhepcnbdbhoaa.M01 Go.Proofs.Ytmnhepcnbdbhoaa.M02

/-- How many bits the run of n has. -/
def runS (n : Int) : Int := if n = 48 then 48 else n + 1
/-- How many of the k lowest bits are ones, up to the first zero. -/
def cnt (X : Int) : Nat → Nat
  | 0 => 0
  | k + 1 => if X % 2 = 1 then cnt (X / 2) k + 1 else 0

theorem runS_bd {n : Int} (h0 : 0 ≤ n) (h1 : n ≤ 48) : n ≤ runS n ∧ 1 ≤ runS n ∧ runS n ≤ 48 ∧ runS n ≤ n + 1 := by unfold runS; split <;> omega
theorem runS_lt {n : Int} (h1 : n < 48) : runS n = n + 1 := by unfold runS; rw [if_neg (by omega)]
theorem runS_48 : runS 48 = 48 := rfl

/-- Length's answer. -/
def lenE (n : Int) : Int := if n < 0 ∨ 48 < n then 2 else 0
def lenN (n : Int) : Int := if n < 0 ∨ 48 < n then 0 else runS n
/-- Write's answers. -/
def wrE (xs : List Int) (n m : Int) : Int := if okB xs n then (if m < 0 ∨ 48 < m then 2 else if 330000 < n + runS m then 18 else 0) else 8
def wrL (xs : List Int) (n m : Int) : List Int := if wrE xs n m = 0 then bl (n + runS m) (val xs + (p2 m - 1) * p2 n) else []
def wrN (xs : List Int) (n m : Int) : Int := if wrE xs n m = 0 then n + runS m else 0
/-- Read's answers. -/
def ons (xs : List Int) (p : Int) : Int := (cnt (val xs / p2 p) 48 : Nat)
def rdE (xs : List Int) (n p : Int) : Int := if okB xs n then (if p < 0 then 2 else if n ≤ p then 24 else if ons xs p < 48 ∧ n ≤ p + ons xs p then 24 else 0) else 8
def rdN (xs : List Int) (n p : Int) : Int := if rdE xs n p = 0 then ons xs p else 0
def rdX (xs : List Int) (n p : Int) : Int := if rdE xs n p = 0 then p + runS (ons xs p) else 0

theorem cnt_le (k : Nat) : ∀ X, cnt X k ≤ k := by
  induction k with
  | zero => intro X; exact Nat.le_refl _
  | succ k ih =>
    intro X; rw [cnt]; split
    · have := ih (X / 2); omega
    · omega

theorem ons_bd (xs : List Int) (p : Int) : 0 ≤ ons xs p ∧ ons xs p ≤ 48 := by
  have := cnt_le 48 (val xs / p2 p)
  unfold ons; omega

theorem div_succ (V : Int) {p : Int} (hp : 0 ≤ p) : V / p2 p / 2 = V / p2 (p + 1) := by
  have := p2_pos p
  rw [p2_add hp (by omega), show p2 1 = 2 from rfl, Int.ediv_ediv_of_nonneg (by omega)]

theorem cnt_one (V : Int) {p : Int} (hp : 0 ≤ p) (k : Nat) (h : V / p2 p % 2 = 1) : cnt (V / p2 p) (k + 1) = cnt (V / p2 (p + 1)) k + 1 := by
  rw [cnt, if_pos h, div_succ V hp]
theorem cnt_zero (X : Int) (k : Nat) (h : X % 2 ≠ 1) : cnt X k = 0 := by
  cases k with
  | zero => rfl
  | succ k => rw [cnt, if_neg h]

theorem pow_succ2 (n : Nat) : p2 ((n + 1 : Nat) : Int) = 2 * p2 (n : Int) := by
  unfold p2; rw [show ((n + 1 : Nat) : Int).toNat = n + 1 by omega, show ((n : Nat) : Int).toNat = n by omega, Int.pow_succ, Int.mul_comm]

/-- The ones of a run with a zero behind it, whatever follows. -/
theorem cnt_run (n : Nat) : ∀ (k : Nat) (H : Int), n ≤ k → cnt (p2 n - 1 + H * (2 * p2 n)) k = n := by
  induction n with
  | zero => intro k H _; apply cnt_zero; rw [show p2 ((0 : Nat) : Int) = 1 from rfl]; omega
  | succ n ih =>
    intro k H hk
    obtain ⟨k, rfl⟩ : ∃ j, k = j + 1 := ⟨k - 1, by omega⟩
    have e : p2 ((n + 1 : Nat) : Int) - 1 + H * (2 * p2 ((n + 1 : Nat) : Int)) = 2 * (p2 (n : Int) - 1 + H * (2 * p2 (n : Int))) + 1 := by
      rw [pow_succ2]
      have : H * (2 * (2 * p2 (n : Int))) = 2 * (H * (2 * p2 (n : Int))) := by rw [Int.mul_left_comm]
      omega
    rw [e, cnt, if_pos (by omega), show (2 * (p2 (n : Int) - 1 + H * (2 * p2 (n : Int))) + 1) / 2 = p2 (n : Int) - 1 + H * (2 * p2 (n : Int)) by omega, ih k H (by omega)]

/-- .. of all ones, whatever follows. -/
theorem cnt_full (k : Nat) : ∀ H : Int, cnt (p2 k - 1 + H * p2 k) k = k := by
  induction k with
  | zero => intro H; rfl
  | succ k ih =>
    intro H
    have e : p2 ((k + 1 : Nat) : Int) - 1 + H * p2 ((k + 1 : Nat) : Int) = 2 * (p2 (k : Int) - 1 + H * p2 (k : Int)) + 1 := by
      rw [pow_succ2]
      have : H * (2 * p2 (k : Int)) = 2 * (H * p2 (k : Int)) := by rw [Int.mul_left_comm]
      omega
    rw [e, cnt, if_pos (by omega), show (2 * (p2 (k : Int) - 1 + H * p2 (k : Int)) + 1) / 2 = p2 (k : Int) - 1 + H * p2 (k : Int) by omega, ih H]

theorem cnt_runS {n : Int} (h0 : 0 ≤ n) (h1 : n ≤ 48) (H : Int) : (cnt (p2 n - 1 + H * p2 (runS n)) 48 : Int) = n := by
  obtain ⟨k, rfl⟩ : ∃ k : Nat, n = k := ⟨n.toNat, by omega⟩
  by_cases h : (k : Int) = 48
  · obtain rfl : k = 48 := by omega
    rw [show runS ((48 : Nat) : Int) = ((48 : Nat) : Int) from rfl, cnt_full 48 H]
  · rw [runS_lt (by omega), show ((k : Int) + 1) = ((k + 1 : Nat) : Int) by omega, pow_succ2, cnt_run k 48 H (by omega)]

/-- What is read is the run. -/
theorem cnt_low (j : Nat) : ∀ (X : Int), X % p2 (min (cnt X j + 1) j : Nat) = p2 (cnt X j) - 1 := by
  induction j with
  | zero => intro X; rw [show min (cnt X 0 + 1) 0 = 0 by omega]; rw [show p2 ((0 : Nat) : Int) = 1 from rfl, Int.emod_one]; rfl
  | succ j ih =>
    intro X
    rw [cnt]
    split
    · rename_i h
      have h2 := ih (X / 2)
      generalize cnt (X / 2) j = c at *
      rw [show min (c + 1 + 1) (j + 1) = min (c + 1) j + 1 by omega, pow_succ2, pow_succ2]
      generalize min (c + 1) j = m at *
      have hp := p2_pos (m : Int)
      have e : X % (2 * p2 (m : Int)) = 2 * (X / 2 % p2 (m : Int)) + X % 2 := by
        have h1 := Int.emod_add_mul_ediv X (2 * p2 (m : Int))
        have h3 := Int.emod_add_mul_ediv (X / 2) (p2 (m : Int))
        have h4 : X / (2 * p2 (m : Int)) = X / 2 / p2 (m : Int) := (Int.ediv_ediv_of_nonneg (by omega)).symm
        rw [h4, Int.mul_assoc] at h1
        omega
      rw [e, h2]; omega
    · rename_i h
      rw [show min (0 + 1) (j + 1) = 1 by omega, show p2 ((1 : Nat) : Int) = 2 from rfl, show p2 ((0 : Nat) : Int) = 1 from rfl]; omega

theorem ons_low (xs : List Int) (p : Int) : val xs / p2 p % p2 (runS (ons xs p)) = p2 (ons xs p) - 1 := by
  have h := cnt_low 48 (val xs / p2 p)
  have hl := cnt_le 48 (val xs / p2 p)
  unfold ons
  generalize cnt (val xs / p2 p) 48 = c at *
  rw [show runS ((c : Nat) : Int) = ((min (c + 1) 48 : Nat) : Int) by unfold runS; split <;> omega]
  exact h

/-- The bits up to the end of the ones are there. -/
theorem cnt_in {n V : Int} (h0 : 0 ≤ V) (h1 : V < p2 n) : ∀ (k : Nat) {p : Int}, 0 ≤ p → p ≤ n → p + cnt (V / p2 p) k ≤ n := by
  intro k
  induction k with
  | zero => intro p _ h; rw [cnt]; omega
  | succ k ih =>
    intro p hp h
    by_cases hb : V / p2 p % 2 = 1
    · rw [cnt_one V hp k hb]
      by_cases hpn : p = n
      · subst hpn; rw [Int.ediv_eq_zero_of_lt h0 h1] at hb; omega
      · have := ih (p := p + 1) (by omega) (by omega); omega
    · rw [cnt_zero _ _ hb]; omega

theorem ons_in {xs : List Int} {n p : Int} (hb : isByte xs) (hok : okB xs n = true) (hp : 0 ≤ p) (h : p ≤ n) : p + ons xs p ≤ n := by
  obtain ⟨_, _, _, h1⟩ := okB_iff.1 hok
  exact cnt_in (val_nonneg hb) h1 48 hp h

/-- The ones go on: a round of counting. -/
theorem ons_more {xs : List Int} {p : Int} (hp : 0 ≤ p) {j : Nat} (hj : j < 48) (hs : ons xs p = j + (cnt (val xs / p2 (p + j)) (48 - j) : Nat)) :
    (val xs / p2 (p + j) % 2 = 1 → ons xs p = (j + 1 : Nat) + (cnt (val xs / p2 (p + (j + 1 : Nat))) (48 - (j + 1)) : Nat)) ∧ (val xs / p2 (p + j) % 2 ≠ 1 → ons xs p = j) := by
  refine ⟨fun h => ?_, fun h => ?_⟩
  · rw [hs, show 48 - j = (48 - (j + 1)) + 1 by omega, cnt_one _ (by omega) _ h, show p + ((j + 1 : Nat) : Int) = p + j + 1 by omega]; omega
  · rw [hs, cnt_zero _ _ h]; omega

theorem wr_put {xs : List Int} {n m : Int} (h0 : 0 ≤ m) (h1 : m ≤ 48) :
    0 ≤ p2 m - 1 ∧ p2 m - 1 < 18446744073709551616 ∧ putE xs n (p2 m - 1) (runS m) = wrE xs n m ∧ putL xs n (p2 m - 1) (runS m) = wrL xs n m ∧ putN xs n (p2 m - 1) (runS m) = wrN xs n m := by
  have hp := p2_pos m
  obtain ⟨r0, r1, r2, _⟩ := runS_bd h0 h1
  have hle := p2_le r0
  have h64 := p2_le64 (show m ≤ 64 by omega)
  have e : putE xs n (p2 m - 1) (runS m) = wrE xs n m := by
    unfold putE wrE
    rw [if_neg (show ¬ (runS m < 0 ∨ 64 < runS m) by omega), if_neg (show ¬ (m < 0 ∨ 48 < m) by omega), if_neg (show ¬ p2 (runS m) ≤ p2 m - 1 by omega)]
  exact ⟨by omega, by omega, e, by unfold putL wrL; rw [e], by unfold putN wrN; rw [e]⟩

/-- Runs behind each other, and how long they are. -/
def runsV : List Int → Int
  | [] => 0
  | m :: l => (p2 m - 1) + runsV l * p2 (runS m)
def runsS : List Int → Int
  | [] => 0
  | m :: l => runS m + runsS l
def runOK (l : List Int) : Prop := ∀ m ∈ l, 0 ≤ m ∧ m ≤ 48

theorem runsS_bd (l : List Int) (h : runOK l) : 0 ≤ runsS l ∧ runsS l ≤ 48 * l.length := by
  induction l with
  | nil => simp [runsS]
  | cons m l ih =>
    have h1 := h m (by simp)
    have h2 := ih (fun x hx => h x (by simp [hx]))
    have h3 := runS_bd h1.1 h1.2
    rw [runsS, List.length_cons]; omega

theorem run_lt {m : Int} (h0 : 0 ≤ m) (h1 : m ≤ 48) : 0 ≤ p2 m - 1 ∧ p2 m - 1 < p2 (runS m) := by
  have := p2_pos m
  have := p2_le (runS_bd h0 h1).1
  omega

theorem runsV_bd (l : List Int) (h : runOK l) : 0 ≤ runsV l ∧ runsV l < p2 (runsS l) := by
  induction l with
  | nil => exact ⟨Int.le_refl _, by decide +kernel⟩
  | cons m l ih =>
    have h1 := h m (by simp)
    have hl : runOK l := fun x hx => h x (by simp [hx])
    have h2 := ih hl
    have h3 := run_lt h1.1 h1.2
    have h4 := runS_bd h1.1 h1.2
    rw [runsV, runsS]
    have hp := p2_pos (runS m)
    have := Int.mul_nonneg h2.1 (show 0 ≤ p2 (runS m) by omega)
    exact ⟨by omega, join_lt (by omega) (runsS_bd l hl).1 h3.2 h2.2⟩

theorem runsS_snoc (l : List Int) (m : Int) : runsS (l ++ [m]) = runsS l + runS m := by
  induction l with
  | nil => simp [runsS]
  | cons x l ih => rw [List.cons_append, runsS, runsS, ih]; omega

theorem runsV_snoc (l : List Int) (m : Int) (h : runOK l) : runsV (l ++ [m]) = runsV l + (p2 m - 1) * p2 (runsS l) := by
  induction l with
  | nil => simp [runsV, runsS, p2_zero]
  | cons x l ih =>
    have h1 := h x (by simp)
    have hl : runOK l := fun x hx => h x (by simp [hx])
    have h2 := runS_bd h1.1 h1.2
    rw [List.cons_append, runsV, runsV, ih hl, runsS, p2_add (by omega) (runsS_bd l hl).1, Int.add_mul, Int.mul_assoc, Int.mul_comm (p2 (runsS l))]; omega

theorem runs_at (l : List Int) (h : runOK l) : ∀ (i : Nat), i < l.length → ∀ m, l[i]? = some m → runsV l / p2 (runsS (l.take i)) = (p2 m - 1) + runsV (l.drop (i + 1)) * p2 (runS m) ∧ runsS (l.take (i + 1)) = runsS (l.take i) + runS m := by
  induction l with
  | nil => intro i hi; simp at hi
  | cons x l ih =>
    intro i hi m hm
    have h1 := h x (by simp)
    have hl : runOK l := fun x hx => h x (by simp [hx])
    have h2 := runS_bd h1.1 h1.2
    cases i with
    | zero =>
      simp at hm; subst hm
      simp [runsS, p2_zero, runsV]
    | succ i =>
      have hi' : i < l.length := by simpa using hi
      have hm' : l[i]? = some m := by simpa using hm
      obtain ⟨e1, e2⟩ := ih hl i hi' m hm'
      have ht : runOK (l.take i) := fun x hx => hl x (List.mem_of_mem_take hx)
      have hp := p2_pos (runS x)
      rw [List.take_succ_cons, List.take_succ_cons, runsS, runsS, List.drop_succ_cons, e2]
      refine ⟨?_, by omega⟩
      rw [p2_add (by omega) (runsS_bd _ ht).1, ← Int.ediv_ediv_of_nonneg (by omega), runsV]
      have h3 := run_lt h1.1 h1.2
      rw [Int.add_mul_ediv_right _ _ (by omega), Int.ediv_eq_zero_of_lt h3.1 h3.2, Int.zero_add, e1]
end Go.Proofs.Ytmnhepcnbdbhoaa.M06

namespace Go.Proofs.Ytmnhepcnbdbhoaa.MP
open Go.Proofs.Ytmnhepcnbdbhoaa.M01 Go.Proofs.Ytmnhepcnbdbhoaa.M02 Go.Proofs.Ytmnhepcnbdbhoaa.M06
set_option linter.unusedVariables false

/-- A piece is how many bits it has, and their number. -/
def pS : List (Int × Int) → Int
  | [] => 0
  | p :: l => p.1 + pS l
def pV : List (Int × Int) → Int
  | [] => 0
  | p :: l => p.2 + pV l * p2 p.1
def okP (m : Int) (l : List (Int × Int)) : Prop := ∀ p ∈ l, 0 ≤ p.1 ∧ p.1 ≤ m ∧ 0 ≤ p.2 ∧ p.2 < p2 p.1

theorem okP_take {m : Int} {l : List (Int × Int)} (h : okP m l) (i : Nat) : okP m (l.take i) := fun x hx => h x (List.mem_of_mem_take hx)
theorem okP_drop {m : Int} {l : List (Int × Int)} (h : okP m l) (i : Nat) : okP m (l.drop i) := fun x hx => h x (List.mem_of_mem_drop hx)
theorem okP_snoc {m : Int} {l : List (Int × Int)} {p : Int × Int} (h : okP m l) (hp : 0 ≤ p.1 ∧ p.1 ≤ m ∧ 0 ≤ p.2 ∧ p.2 < p2 p.1) : okP m (l ++ [p]) := by
  intro x hx
  rcases List.mem_append.1 hx with hx | hx
  · exact h x hx
  · simp at hx; subst hx; exact hp

theorem pS_bd {m : Int} (hm : 0 ≤ m) (l : List (Int × Int)) (h : okP m l) : 0 ≤ pS l ∧ pS l ≤ m * l.length := by
  induction l with
  | nil => simp [pS]
  | cons p l ih =>
    have h1 := h p (by simp)
    have h2 := ih (fun x hx => h x (by simp [hx]))
    rw [pS, List.length_cons]
    have : m * ((l.length + 1 : Nat) : Int) = m * l.length + m := by rw [Int.natCast_add, Int.mul_add]; simp
    omega

theorem pV_bd {m : Int} (hm : 0 ≤ m) (l : List (Int × Int)) (h : okP m l) : 0 ≤ pV l ∧ pV l < p2 (pS l) := by
  induction l with
  | nil => exact ⟨Int.le_refl _, by decide +kernel⟩
  | cons p l ih =>
    have h1 := h p (by simp)
    have hl : okP m l := fun x hx => h x (by simp [hx])
    have h2 := ih hl
    rw [pV, pS]
    have hp := p2_pos p.1
    have := Int.mul_nonneg h2.1 (show 0 ≤ p2 p.1 by omega)
    exact ⟨by omega, join_lt h1.1 (pS_bd hm l hl).1 h1.2.2.2 h2.2⟩

theorem pS_snoc (l : List (Int × Int)) (p : Int × Int) : pS (l ++ [p]) = pS l + p.1 := by
  induction l with
  | nil => simp [pS]
  | cons x l ih => rw [List.cons_append, pS, pS, ih]; omega

theorem pV_snoc {m : Int} (hm : 0 ≤ m) (l : List (Int × Int)) (p : Int × Int) (h : okP m l) : pV (l ++ [p]) = pV l + p.2 * p2 (pS l) := by
  induction l with
  | nil => simp [pV, pS, p2_zero]
  | cons x l ih =>
    have h1 := h x (by simp)
    have hl : okP m l := fun y hy => h y (by simp [hy])
    rw [List.cons_append, pV, pV, ih hl, pS, p2_add h1.1 (pS_bd hm l hl).1, Int.add_mul, Int.mul_assoc, Int.mul_comm (p2 (pS l))]; omega

theorem pS_split (l : List (Int × Int)) (i : Nat) : pS l = pS (l.take i) + pS (l.drop i) := by
  induction l generalizing i with
  | nil => simp [pS]
  | cons x l ih =>
    cases i with
    | zero => simp [pS]
    | succ i => rw [List.take_succ_cons, List.drop_succ_cons, pS, pS, ih i]; omega

theorem p_at {m : Int} (hm : 0 ≤ m) (l : List (Int × Int)) (h : okP m l) : ∀ (i : Nat), i < l.length → ∀ p, l[i]? = some p → pV l / p2 (pS (l.take i)) = p.2 + pV (l.drop (i + 1)) * p2 p.1 ∧ pS (l.take (i + 1)) = pS (l.take i) + p.1 := by
  induction l with
  | nil => intro i hi; simp at hi
  | cons x l ih =>
    intro i hi p hp
    have h1 := h x (by simp)
    have hl : okP m l := fun y hy => h y (by simp [hy])
    cases i with
    | zero =>
      simp at hp; subst hp
      simp [pS, p2_zero, pV]
    | succ i =>
      have hi' : i < l.length := by simpa using hi
      have hp' : l[i]? = some p := by simpa using hp
      obtain ⟨e1, e2⟩ := ih hl i hi' p hp'
      have ht : okP m (l.take i) := okP_take hl i
      have hq := p2_pos x.1
      rw [List.take_succ_cons, List.take_succ_cons, pS, pS, List.drop_succ_cons, e2]
      refine ⟨?_, by omega⟩
      rw [p2_add h1.1 (pS_bd hm _ ht).1, ← Int.ediv_ediv_of_nonneg (by omega), pV, Int.add_mul_ediv_right _ _ (by omega), Int.ediv_eq_zero_of_lt h1.2.2.1 h1.2.2.2, Int.zero_add, e1]

/-- Bits with pieces behind them. -/
def jN (n : Int) (l : List (Int × Int)) : Int := n + pS l
def jV (A n : Int) (l : List (Int × Int)) : Int := A + pV l * p2 n

theorem j_nil (A n : Int) : jN n [] = n ∧ jV A n [] = A := by simp [jN, jV, pS, pV]

theorem j_bd {m A n : Int} {l : List (Int × Int)} (hm : 0 ≤ m) (hn : 0 ≤ n) (h0 : 0 ≤ A) (h1 : A < p2 n) (hl : okP m l) : n ≤ jN n l ∧ jN n l ≤ n + m * l.length ∧ 0 ≤ jV A n l ∧ jV A n l < p2 (jN n l) := by
  have hS := pS_bd hm l hl
  have hV := pV_bd hm l hl
  have hp := p2_pos n
  have := Int.mul_nonneg hV.1 (show 0 ≤ p2 n by omega)
  unfold jN jV
  exact ⟨by omega, by omega, by omega, join_lt hn hS.1 h1 hV.2⟩

theorem j_snoc {m A n : Int} {l : List (Int × Int)} (hm : 0 ≤ m) (hn : 0 ≤ n) (hl : okP m l) (p : Int × Int) : jN n (l ++ [p]) = jN n l + p.1 ∧ jV A n (l ++ [p]) = jV A n l + p.2 * p2 (jN n l) := by
  have hS := pS_bd hm l hl
  unfold jN jV
  refine ⟨by rw [pS_snoc]; omega, ?_⟩
  rw [pV_snoc hm l p hl, p2_add hn hS.1, Int.add_mul, Int.mul_assoc, Int.mul_comm (p2 (pS l))]; omega

theorem j_at {m A n : Int} {l : List (Int × Int)} (hm : 0 ≤ m) (hn : 0 ≤ n) (h0 : 0 ≤ A) (h1 : A < p2 n) (hl : okP m l) {i : Nat} (hi : i < l.length) {p : Int × Int} (hp : l[i]? = some p) :
    jV A n l / p2 (jN n (l.take i)) = p.2 + pV (l.drop (i + 1)) * p2 p.1 ∧ jN n (l.take (i + 1)) = jN n (l.take i) + p.1 ∧ jN n (l.take (i + 1)) ≤ jN n l ∧ n ≤ jN n (l.take i) := by
  obtain ⟨e1, e2⟩ := p_at hm l hl i hi p hp
  have hS := pS_bd hm _ (okP_take hl i)
  have hq := p2_pos n
  have hsp := pS_split l (i + 1)
  have hSd := pS_bd hm _ (okP_drop hl (i + 1))
  unfold jN jV
  refine ⟨?_, by omega, by omega, by omega⟩
  rw [p2_add hn hS.1, ← Int.ediv_ediv_of_nonneg (by omega), Int.add_mul_ediv_right _ _ (by omega), Int.ediv_eq_zero_of_lt h0 h1, Int.zero_add, e1]

theorem j_low {m A n : Int} {l : List (Int × Int)} (hm : 0 ≤ m) (hn : 0 ≤ n) (h0 : 0 ≤ A) (h1 : A < p2 n) (hl : okP m l) : jV A n l % p2 n = A := by
  unfold jV
  rw [Int.add_mul_emod_self_right, Int.emod_eq_of_lt h0 h1]
end Go.Proofs.Ytmnhepcnbdbhoaa.MP

namespace Go.Proofs.Ytmnhepcnbdbhoaa.M07
open Go.Proofs.Ytmnhepcnbdbhoaa.M01 Go.Proofs.Ytmnhepcnbdbhoaa.M02 Go.Proofs.Ytmnhepcnbdbhoaa.M06
set_option linter.unusedVariables false

/-- The run of a number's code, how many bits are behind it, these, and the code. -/
def qP (v k : Int) : Int := min 48 (v / p2 k)
def bhS (q k : Int) : Int := if q = 48 then 32 else k
def cdS (v k : Int) : Int := runS (qP v k) + bhS (qP v k) k
def lwP (v k : Int) : Int := v % p2 (bhS (qP v k) k)
def cdV (v k : Int) : Int := (p2 (qP v k) - 1) + lwP v k * p2 (runS (qP v k))

theorem p2_32 : p2 32 = 4294967296 := by decide +kernel
theorem p2_24 : p2 24 = 16777216 := by decide +kernel

theorem qP_bd {v : Int} (k : Int) (h : 0 ≤ v) : 0 ≤ qP v k ∧ qP v k ≤ 48 := by
  have := Int.ediv_nonneg h (show 0 ≤ p2 k by have := p2_pos k; omega)
  unfold qP; omega
theorem bhS_bd {k : Int} (q : Int) (h0 : 0 ≤ k) (h1 : k ≤ 24) : 0 ≤ bhS q k ∧ bhS q k ≤ 32 ∧ k ≤ bhS q k := by unfold bhS; split <;> omega
theorem bhS_48 (k : Int) : bhS 48 k = 32 := rfl
theorem bhS_lt {q : Int} (k : Int) (h : q < 48) : bhS q k = k := by unfold bhS; rw [if_neg (by omega)]
theorem cdS_bd {v k : Int} (h : 0 ≤ v) (h0 : 0 ≤ k) (h1 : k ≤ 24) : k + 1 ≤ cdS v k ∧ cdS v k ≤ 80 ∧ runS (qP v k) ≤ cdS v k := by
  obtain ⟨q0, q1⟩ := qP_bd k h
  have := runS_bd q0 q1
  have := bhS_bd (qP v k) h0 h1
  unfold cdS
  by_cases e : qP v k = 48
  · rw [e, runS_48, bhS_48]; omega
  · rw [bhS_lt k (by omega), runS_lt (by omega)]; omega
theorem lw_bd (v k : Int) : 0 ≤ lwP v k ∧ lwP v k < p2 (bhS (qP v k) k) := emod_bd _ _
theorem cd_bd {v k : Int} (h : 0 ≤ v) (h0 : 0 ≤ k) (h1 : k ≤ 24) : 0 ≤ cdV v k ∧ cdV v k < p2 (cdS v k) := by
  obtain ⟨q0, q1⟩ := qP_bd k h
  have hr := run_lt q0 q1
  have hs := runS_bd q0 q1
  have hb := bhS_bd (qP v k) h0 h1
  have hl := lw_bd v k
  have hp := p2_pos (runS (qP v k))
  have := Int.mul_nonneg hl.1 (show 0 ≤ p2 (runS (qP v k)) by omega)
  unfold cdV cdS
  exact ⟨by omega, join_lt (by omega) hb.1 hr.2 hl.2⟩

/-- The number, out of its run and the bits behind. -/
theorem lw_val {v k : Int} (h : 0 ≤ v) (hv : v ≤ 4294967295) : (qP v k = 48 → lwP v k = v) ∧ (qP v k ≠ 48 → qP v k * p2 k + lwP v k = v ∧ qP v k = v / p2 k) := by
  have hp := p2_pos k
  refine ⟨fun e => ?_, fun e => ?_⟩
  · unfold lwP; rw [e, bhS_48, p2_32, Int.emod_eq_of_lt h (by omega)]
  · have hq : qP v k = v / p2 k := by unfold qP at e ⊢; omega
    have hb : bhS (qP v k) k = k := by unfold bhS; rw [if_neg e]
    refine ⟨?_, hq⟩
    unfold lwP; rw [hb, hq, Int.mul_comm]
    have := Int.emod_add_mul_ediv v (p2 k); omega

/-- Length's answer. -/
def rlE (k : Int) : Int := if k < 0 ∨ 24 < k then 2 else 0
def rlN (v k : Int) : Int := if k < 0 ∨ 24 < k then 0 else cdS v k
/-- Write's answers. -/
def rwE (xs : List Int) (n v k : Int) : Int := if okB xs n then (if k < 0 ∨ 24 < k then 2 else if 330000 < n + cdS v k then 18 else 0) else 8
def rwL (xs : List Int) (n v k : Int) : List Int := if rwE xs n v k = 0 then bl (n + cdS v k) (val xs + cdV v k * p2 n) else []
def rwN (xs : List Int) (n v k : Int) : Int := if rwE xs n v k = 0 then n + cdS v k else 0
/-- What is read of a number whose lowest bits begin with a code. -/
def cq (X : Int) : Int := (cnt X 48 : Nat)
def dcM (X k : Int) : Int := bhS (cq X) k
def dcG (X k : Int) : Int := X / p2 (runS (cq X)) % p2 (dcM X k)
def dcN (X k : Int) : Int := if cq X = 48 then dcG X k else cq X * p2 k + dcG X k
def dcS (X k : Int) : Int := runS (cq X) + dcM X k
/-- Read's answers. -/
def rrE (xs : List Int) (n p k : Int) : Int :=
  if okB xs n then (if k < 0 ∨ 24 < k then 2 else if rdE xs n p ≠ 0 then rdE xs n p else if n - rdX xs n p < dcM (val xs / p2 p) k then 24 else if qP (dcN (val xs / p2 p) k) k ≠ cq (val xs / p2 p) then 12 else 0) else 8
def rrN (xs : List Int) (n p k : Int) : Int := if rrE xs n p k = 0 then dcN (val xs / p2 p) k else 0
def rrX (xs : List Int) (n p k : Int) : Int := if rrE xs n p k = 0 then p + dcS (val xs / p2 p) k else 0

theorem cq_bd (X : Int) : 0 ≤ cq X ∧ cq X ≤ 48 := by
  have := cnt_le 48 X
  unfold cq; omega
theorem ons_cq (xs : List Int) (p : Int) : ons xs p = cq (val xs / p2 p) := rfl

/-- What Write does: the run, and then the bits behind it. -/
theorem rw_put {xs : List Int} {n v k : Int} (hb : isByte xs) (hok : okB xs n = true) (h : 0 ≤ v) (h0 : 0 ≤ k) (h1 : k ≤ 24) :
    (wrE xs n (qP v k) ≠ 0 → wrE xs n (qP v k) = 18 ∧ rwE xs n v k = 18) ∧
    (wrE xs n (qP v k) = 0 → putE (wrL xs n (qP v k)) (wrN xs n (qP v k)) (lwP v k) (bhS (qP v k) k) = rwE xs n v k ∧ putL (wrL xs n (qP v k)) (wrN xs n (qP v k)) (lwP v k) (bhS (qP v k) k) = rwL xs n v k ∧ putN (wrL xs n (qP v k)) (wrN xs n (qP v k)) (lwP v k) (bhS (qP v k) k) = rwN xs n v k) := by
  obtain ⟨q0, q1⟩ := qP_bd k h
  have hs := runS_bd q0 q1
  have hr := run_lt q0 q1
  have hB := bhS_bd (qP v k) h0 h1
  have hl := lw_bd v k
  have hc := cdS_bd h h0 h1
  obtain ⟨n0, n1, _, hlt⟩ := okB_iff.1 hok
  have hv := val_nonneg hb
  have eq1 : rwE xs n v k = if 330000 < n + cdS v k then 18 else 0 := by unfold rwE; rw [if_pos hok, if_neg (by omega)]
  have eq2 : wrE xs n (qP v k) = if 330000 < n + runS (qP v k) then 18 else 0 := by unfold wrE; rw [if_pos hok, if_neg (by omega)]
  refine ⟨fun he => ?_, fun he => ?_⟩
  · rw [eq2] at he ⊢
    have hg : 330000 < n + runS (qP v k) := by by_cases g : 330000 < n + runS (qP v k); exact g; rw [if_neg g] at he; exact absurd rfl he
    rw [if_pos hg, eq1, if_pos (by omega)]; exact ⟨rfl, rfl⟩
  · have hg : ¬ 330000 < n + runS (qP v k) := by intro g; rw [eq2, if_pos g] at he; omega
    have eL : wrL xs n (qP v k) = bl (n + runS (qP v k)) (val xs + (p2 (qP v k) - 1) * p2 n) := by rw [wrL, if_pos he]
    have eN : wrN xs n (qP v k) = n + runS (qP v k) := by rw [wrN, if_pos he]
    have hp := p2_pos n
    have hm := Int.mul_nonneg hr.1 (show 0 ≤ p2 n by omega)
    have hV : 0 ≤ val xs + (p2 (qP v k) - 1) * p2 n := by omega
    have hV1 : val xs + (p2 (qP v k) - 1) * p2 n < p2 (n + runS (qP v k)) := join_lt n0 (by omega) hlt hr.2
    have hok2 : okB (wrL xs n (qP v k)) (wrN xs n (qP v k)) = true := by rw [eL, eN]; exact ok_bl (by omega) (by omega) hV hV1
    have hval : val (wrL xs n (qP v k)) = val xs + (p2 (qP v k) - 1) * p2 n := by rw [eL]; exact val_bl (by omega) hV hV1
    have eS : n + runS (qP v k) + bhS (qP v k) k = n + cdS v k := by unfold cdS; omega
    have e : putE (wrL xs n (qP v k)) (wrN xs n (qP v k)) (lwP v k) (bhS (qP v k) k) = rwE xs n v k := by
      rw [putE, if_pos hok2, if_neg (by omega), if_neg (by omega), eN, eS, eq1]
    refine ⟨e, ?_, ?_⟩
    · rw [putL, rwL, e, eN, eS, hval]
      have eV : val xs + (p2 (qP v k) - 1) * p2 n + lwP v k * p2 (n + runS (qP v k)) = val xs + cdV v k * p2 n := by
        unfold cdV
        rw [p2_add n0 (by omega), Int.add_mul, Int.mul_assoc, Int.mul_comm (p2 n) (p2 (runS _))]; omega
      rw [eV]
    · rw [putN, rwN, e, eN, eS]

theorem mod_split (X : Int) {a b : Int} (ha : 0 ≤ a) (hb : 0 ≤ b) : X % p2 (a + b) = X % p2 a + X / p2 a % p2 b * p2 a := by
  have hp := p2_pos a
  have hq := p2_pos b
  rw [p2_add ha hb]
  have h1 := Int.emod_add_mul_ediv (X % (p2 a * p2 b)) (p2 a)
  rw [emod_ediv_mul X _ _ (by omega) (by omega), Int.emod_emod_of_dvd _ (Int.dvd_mul_right ..), Int.mul_comm (p2 a) (X / p2 a % p2 b)] at h1
  omega

theorem cq_low (X : Int) : X % p2 (runS (cq X)) = p2 (cq X) - 1 := by
  have h := cnt_low 48 X
  have hl := cnt_le 48 X
  unfold cq
  generalize cnt X 48 = c at *
  rw [show runS ((c : Nat) : Int) = ((min (c + 1) 48 : Nat) : Int) by unfold runS; split <;> omega]
  exact h

theorem dcG_bd (X k : Int) : 0 ≤ dcG X k ∧ dcG X k < p2 (dcM X k) := emod_bd _ _

/-- The run that is read is the one of the number, if it is less than the cap. -/
theorem dc_q {X k : Int} (h : cq X ≠ 48) : qP (dcN X k) k = cq X ∧ dcN X k / p2 k = cq X := by
  have hp := p2_pos k
  have hc := cq_bd X
  have hg := dcG_bd X k
  rw [show dcM X k = k by unfold dcM bhS; rw [if_neg h]] at hg
  have e : dcN X k / p2 k = cq X := by
    unfold dcN; rw [if_neg h, Int.add_comm, Int.add_mul_ediv_right _ _ (by omega), Int.ediv_eq_zero_of_lt hg.1 hg.2, Int.zero_add]
  exact ⟨by unfold qP; rw [e]; omega, e⟩

theorem dcN_bd {X k : Int} (h0 : 0 ≤ k) (h1 : k ≤ 24) : 0 ≤ dcN X k ∧ dcN X k ≤ 4294967295 ∧ (cq X ≠ 48 → dcN X k < 805306368) := by
  have hc := cq_bd X
  have hg := dcG_bd X k
  have hp := p2_pos k
  by_cases h : cq X = 48
  · rw [show dcM X k = 32 by unfold dcM bhS; rw [if_pos h], p2_32] at hg
    have : dcN X k = dcG X k := by unfold dcN; rw [if_pos h]
    exact ⟨by omega, by omega, fun g => absurd h g⟩
  · rw [show dcM X k = k by unfold dcM bhS; rw [if_neg h]] at hg
    have e : dcN X k = cq X * p2 k + dcG X k := by unfold dcN; rw [if_neg h]
    have h2 : p2 k ≤ 16777216 := by rw [← p2_24]; exact p2_le h1
    have h3 := Int.mul_nonneg hc.1 (show 0 ≤ p2 k by omega)
    have h4 : cq X * p2 k ≤ 47 * p2 k := Int.mul_le_mul_of_nonneg_right (by omega) (by omega)
    exact ⟨by omega, by omega, fun _ => by omega⟩

/-- What is read has just this code. -/
theorem dc_code {X k : Int} (h0 : 0 ≤ k) (h1 : k ≤ 24) (hq : qP (dcN X k) k = cq X) : cdS (dcN X k) k = dcS X k ∧ X % p2 (dcS X k) = cdV (dcN X k) k := by
  have hc := cq_bd X
  have hs := runS_bd hc.1 hc.2
  have hg := dcG_bd X k
  have hB := bhS_bd (cq X) h0 h1
  refine ⟨by unfold cdS dcS dcM; rw [hq], ?_⟩
  have hl : lwP (dcN X k) k = dcG X k := by
    unfold lwP; rw [hq]
    by_cases h : cq X = 48
    · have e : dcN X k = dcG X k := by unfold dcN; rw [if_pos h]
      rw [e]; exact Int.emod_eq_of_lt hg.1 hg.2
    · have e : dcN X k = cq X * p2 k + dcG X k := by unfold dcN; rw [if_neg h]
      have hb : bhS (cq X) k = k := by unfold bhS; rw [if_neg h]
      rw [show dcM X k = k from hb] at hg
      rw [e, hb, Int.add_comm, Int.add_mul_emod_self_right, Int.emod_eq_of_lt hg.1 hg.2]
  unfold dcS cdV
  rw [hq, hl, mod_split X (by omega) (show 0 ≤ dcM X k from hB.1), cq_low]; rfl

/-- A code, whatever follows, is read as its number. -/
theorem code_dc {v k : Int} (h : 0 ≤ v) (hv : v ≤ 4294967295) (h0 : 0 ≤ k) (h1 : k ≤ 24) (H : Int) :
    let X := cdV v k + H * p2 (cdS v k)
    cq X = qP v k ∧ dcN X k = v ∧ dcS X k = cdS v k ∧ dcM X k = bhS (qP v k) k := by
  intro X
  obtain ⟨q0, q1⟩ := qP_bd k h
  have hs := runS_bd q0 q1
  have hr := run_lt q0 q1
  have hB := bhS_bd (qP v k) h0 h1
  have hl := lw_bd v k
  have hp := p2_pos (runS (qP v k))
  have eX : X = (p2 (qP v k) - 1) + (lwP v k + H * p2 (bhS (qP v k) k)) * p2 (runS (qP v k)) := by
    show cdV v k + H * p2 (cdS v k) = _
    unfold cdV cdS
    rw [p2_add (by omega) hB.1, Int.add_mul, Int.mul_comm (p2 (runS _)), Int.mul_assoc]; omega
  have e1 : cq X = qP v k := by unfold cq; rw [eX]; exact cnt_runS q0 q1 _
  have e2 : dcM X k = bhS (qP v k) k := by unfold dcM; rw [e1]
  have e3 : dcG X k = lwP v k := by
    unfold dcG; rw [e1, e2, eX, Int.add_mul_ediv_right _ _ (by omega), Int.ediv_eq_zero_of_lt hr.1 hr.2, Int.zero_add, Int.add_mul_emod_self_right, Int.emod_eq_of_lt hl.1 hl.2]
  refine ⟨e1, ?_, by unfold dcS cdS; rw [e1, e2], e2⟩
  have hw := lw_val (k := k) h hv
  unfold dcN; rw [e1, e3]
  by_cases g : qP v k = 48
  · rw [if_pos g]; exact hw.1 g
  · rw [if_neg g]; exact (hw.2 g).1

/-- .. where bits stand so. -/
theorem rr_read {xs : List Int} {n p v k : Int} (hok : okB xs n = true) (hp : 0 ≤ p) (h : 0 ≤ v) (hv : v ≤ 4294967295) (h0 : 0 ≤ k) (h1 : k ≤ 24) {H : Int} (hX : val xs / p2 p = cdV v k + H * p2 (cdS v k)) (hn : p + cdS v k ≤ n) :
    rrE xs n p k = 0 ∧ rrN xs n p k = v ∧ rrX xs n p k = p + cdS v k := by
  obtain ⟨e1, e2, e3, e4⟩ := code_dc h hv h0 h1 H
  rw [← hX] at e1 e2 e3 e4
  obtain ⟨q0, q1⟩ := qP_bd k h
  have hs := runS_bd q0 q1
  have hB := bhS_bd (qP v k) h0 h1
  have hc := cdS_bd h h0 h1
  have hon : ons xs p = qP v k := e1
  have hS : cdS v k = runS (qP v k) + bhS (qP v k) k := rfl
  have hR : rdE xs n p = 0 := by
    rw [rdE, if_pos hok, if_neg (by omega), if_neg (by omega), if_neg (by rw [hon]; intro g; have := runS_lt g.1; omega)]
  have hRX : rdX xs n p = p + runS (qP v k) := by rw [rdX, if_pos hR, hon]
  have e : rrE xs n p k = 0 := by
    rw [rrE, if_pos hok, if_neg (by omega), if_neg (by rw [hR]; simp), if_neg (by rw [hRX, e4]; omega), if_neg (by rw [e1, e2]; simp)]
  exact ⟨e, by rw [rrN, if_pos e, e2], by rw [rrX, if_pos e, e3]⟩
end Go.Proofs.Ytmnhepcnbdbhoaa.M07

namespace Go.Proofs.Ytmnhepcnbdbhoaa.M07
open Go.Proofs.Ytmnhepcnbdbhoaa.M01 Go.Proofs.Ytmnhepcnbdbhoaa.M02 Go.Proofs.Ytmnhepcnbdbhoaa.M06 Go.Proofs.Ytmnhepcnbdbhoaa.MP
set_option linter.unusedVariables false

/-- The codes of numbers, each with a parameter. -/
def pcs (xs ks : List Int) : List (Int × Int) := List.zipWith (fun v k => (cdS v k, cdV v k)) xs ks
/-- The first parameters are some. -/
def okK (ks : List Int) (i : Nat) : Prop := ∀ j, j < i → 0 ≤ ks.getD j 0 ∧ ks.getD j 0 ≤ 24
def okU (xs : List Int) : Prop := ∀ x ∈ xs, 0 ≤ x ∧ x ≤ 4294967295

theorem getD_in {xs : List Int} {i : Nat} (h : i < xs.length) : xs.getD i 0 ∈ xs := by
  rw [List.getD_eq_getElem?_getD, List.getElem?_eq_getElem h]; exact List.getElem_mem h

theorem pcs_len {xs ks : List Int} (h : ks.length = xs.length) : (pcs xs ks).length = xs.length := by
  unfold pcs; rw [List.length_zipWith, h, Nat.min_self]

theorem pcs_at {xs ks : List Int} (h : ks.length = xs.length) {i : Nat} (hi : i < xs.length) : (pcs xs ks)[i]? = some (cdS (xs.getD i 0) (ks.getD i 0), cdV (xs.getD i 0) (ks.getD i 0)) := by
  unfold pcs
  rw [List.getElem?_zipWith, List.getD_eq_getElem?_getD, List.getD_eq_getElem?_getD, List.getElem?_eq_getElem hi, List.getElem?_eq_getElem (show i < ks.length by omega)]; rfl

theorem pcs_snoc {xs ks : List Int} (h : ks.length = xs.length) {i : Nat} (hi : i < xs.length) : (pcs xs ks).take (i + 1) = (pcs xs ks).take i ++ [(cdS (xs.getD i 0) (ks.getD i 0), cdV (xs.getD i 0) (ks.getD i 0))] := by
  rw [List.take_add_one, pcs_at h hi]; rfl

theorem pcs_ok {xs ks : List Int} (h : ks.length = xs.length) (hu : okU xs) {i : Nat} (hi : i ≤ xs.length) (hk : okK ks i) : okP 80 ((pcs xs ks).take i) := by
  induction i with
  | zero => intro x hx; simp at hx
  | succ i ih =>
    rw [pcs_snoc h (by omega)]
    have hv := hu _ (getD_in (show i < xs.length by omega))
    have hkk := hk i (by omega)
    have hs := cdS_bd hv.1 hkk.1 hkk.2
    have hb := cd_bd hv.1 hkk.1 hkk.2
    exact okP_snoc (ih (by omega) (fun j hj => hk j (by omega))) ⟨by omega, hs.2.1, hb.1, hb.2⟩

/-- A code behind them. -/
theorem pk_write {A n v k : Int} {l : List (Int × Int)} (hn : 0 ≤ n) (hn1 : n ≤ 2000) (h0 : 0 ≤ A) (h1 : A < p2 n) (hl : okP 80 l) (hlen : l.length ≤ 2000) (hv : 0 ≤ v) (hk0 : 0 ≤ k) (hk1 : k ≤ 24) :
    rwE (bl (jN n l) (jV A n l)) (jN n l) v k = 0 ∧ rwL (bl (jN n l) (jV A n l)) (jN n l) v k = bl (jN n (l ++ [(cdS v k, cdV v k)])) (jV A n (l ++ [(cdS v k, cdV v k)])) ∧ rwN (bl (jN n l) (jV A n l)) (jN n l) v k = jN n (l ++ [(cdS v k, cdV v k)]) := by
  obtain ⟨a, b, c, d⟩ := j_bd (by omega) hn h0 h1 hl
  have hs := cdS_bd hv hk0 hk1
  have hok : okB (bl (jN n l) (jV A n l)) (jN n l) = true := ok_bl (by omega) (by omega) c d
  have hval : val (bl (jN n l) (jV A n l)) = jV A n l := val_bl (by omega) c d
  obtain ⟨e1, e2⟩ := j_snoc (A := A) (by omega) hn hl (cdS v k, cdV v k)
  have e : rwE (bl (jN n l) (jV A n l)) (jN n l) v k = 0 := by rw [rwE, if_pos hok, if_neg (by omega), if_neg (by omega)]
  exact ⟨e, by rw [rwL, if_pos e, hval, e1, e2], by rw [rwN, if_pos e, e1]⟩

/-- The code that stands there. -/
theorem pk_read {A n v k : Int} {l : List (Int × Int)} {i : Nat} (hn : 0 ≤ n) (hn1 : n ≤ 2000) (h0 : 0 ≤ A) (h1 : A < p2 n) (hl : okP 80 l) (hlen : l.length ≤ 2000) (hi : i < l.length) (hp : l[i]? = some (cdS v k, cdV v k)) (hv : 0 ≤ v) (hv1 : v ≤ 4294967295) (hk0 : 0 ≤ k) (hk1 : k ≤ 24) :
    rrE (bl (jN n l) (jV A n l)) (jN n l) (jN n (l.take i)) k = 0 ∧ rrN (bl (jN n l) (jV A n l)) (jN n l) (jN n (l.take i)) k = v ∧ rrX (bl (jN n l) (jV A n l)) (jN n l) (jN n (l.take i)) k = jN n (l.take (i + 1)) := by
  obtain ⟨a, b, c, d⟩ := j_bd (by omega) hn h0 h1 hl
  have hok : okB (bl (jN n l) (jV A n l)) (jN n l) = true := ok_bl (by omega) (by omega) c d
  have hval : val (bl (jN n l) (jV A n l)) = jV A n l := val_bl (by omega) c d
  obtain ⟨e1, e2, e3, e4⟩ := j_at (by omega) hn h0 h1 hl hi hp
  have h := rr_read (xs := bl (jN n l) (jV A n l)) (n := jN n l) (p := jN n (l.take i)) hok (by omega) hv hv1 hk0 hk1 (H := pV (l.drop (i + 1))) (by rw [hval]; exact e1) (by simp only at e2; omega)
  simp only at e2
  rw [e2]; exact h
end Go.Proofs.Ytmnhepcnbdbhoaa.M07

namespace Go.Proofs.Ytmnhepcnbdbhoaa.M08
open Go.Proofs.Ytmnhepcnbdbhoaa.M01 Go.Proofs.Ytmnhepcnbdbhoaa.M02 Go.Proofs.Ytmnhepcnbdbhoaa.M06 Go.Proofs.Ytmnhepcnbdbhoaa.M07 Go.Proofs.Ytmnhepcnbdbhoaa.MP
set_option linter.unusedVariables false

/-- A state: both K, both sums. -/
structure D4 where
  a : Int
  b : Int
  s : Int
  t : Int

theorem D4.ext' {d e : D4} (h1 : d.a = e.a) (h2 : d.b = e.b) (h3 : d.s = e.s) (h4 : d.t = e.t) : d = e := by
  cases d; cases e; simp_all

def zD : D4 := ⟨0, 0, 0, 0⟩
def stD : D4 := ⟨10, 10, 16384, 16384⟩
/-- What the types of its fields allow. -/
def isD (d : D4) : Prop := (-9223372036854775808 ≤ d.a ∧ d.a ≤ 9223372036854775807) ∧ (-9223372036854775808 ≤ d.b ∧ d.b ≤ 9223372036854775807) ∧ (0 ≤ d.s ∧ d.s ≤ 18446744073709551615) ∧ (0 ≤ d.t ∧ d.t ≤ 18446744073709551615)
/-- Valid. -/
def okD (d : D4) : Bool := decide (0 ≤ d.a ∧ d.a ≤ 24 ∧ 0 ≤ d.b ∧ d.b ≤ 24 ∧ d.s ≤ 68719476735 ∧ d.t ≤ 68719476735)
theorem okD_iff {d : D4} : okD d = true ↔ (0 ≤ d.a ∧ d.a ≤ 24 ∧ 0 ≤ d.b ∧ d.b ≤ 24 ∧ d.s ≤ 68719476735 ∧ d.t ≤ 68719476735) := by unfold okD; exact decide_eq_true_iff

/-- The valid state that differs least. -/
def nrD (d : D4) : D4 := ⟨min (max d.a 0) 24, min (max d.b 0) 24, min d.s 68719476735, min d.t 68719476735⟩
theorem nrD_ok {d : D4} (h : okD d = true) : nrD d = d := by
  have h := okD_iff.1 h
  exact D4.ext' (by show min (max d.a 0) 24 = d.a; omega) (by show min (max d.b 0) 24 = d.b; omega) (by show min d.s 68719476735 = d.s; omega) (by show min d.t 68719476735 = d.t; omega)

/-- A pair learns. -/
def lS (s v : Int) : Int := s - s / 16 + v
def lK (k s : Int) : Int := if 0 < k ∧ s < p2 (k + 4) then k - 1 else if k < 24 ∧ p2 (k + 5) < s then k + 1 else k
/-- A state learns. -/
def learnD (d : D4) (v : Int) : D4 :=
  ⟨lK d.a (lS d.s v), if v < p2 d.a then d.b else lK d.b (lS d.t (v - p2 d.a)), lS d.s v, if v < p2 d.a then d.t else lS d.t (v - p2 d.a)⟩

def isU (v : Int) : Prop := 0 ≤ v ∧ v ≤ 4294967295

theorem lS_bd {s v : Int} (h0 : 0 ≤ s) (h1 : s ≤ 68719476735) (hv : isU v) : 0 ≤ lS s v ∧ lS s v ≤ 68719476735 := by
  obtain ⟨v0, v1⟩ := hv
  unfold lS; omega
theorem lK_bd {k : Int} (s : Int) (h0 : 0 ≤ k) (h1 : k ≤ 24) : 0 ≤ lK k s ∧ lK k s ≤ 24 ∧ k - 1 ≤ lK k s ∧ lK k s ≤ k + 1 := by
  unfold lK; split
  · omega
  · split <;> omega
theorem p2_24le {k : Int} (h1 : k ≤ 24) : p2 k ≤ 16777216 := by rw [← p2_24]; exact p2_le h1

/-- What is left of a number on the second level. -/
theorem left_bd {v : Int} {d : D4} (hv : isU v) (h : ¬ v < p2 d.a) : isU (v - p2 d.a) := by
  have := p2_pos d.a
  unfold isU at *; omega

theorem learn_ok {d : D4} {v : Int} (hd : isD d) (h : okD d = true) (hv : isU v) : okD (learnD d v) = true ∧ isD (learnD d v) := by
  obtain ⟨a0, a1, b0, b1, s1, t1⟩ := okD_iff.1 h
  obtain ⟨_, _, ⟨s0, _⟩, ⟨t0, _⟩⟩ := hd
  have e1 := lS_bd s0 s1 hv
  have e2 := lK_bd (lS d.s v) a0 a1
  have g : (0 ≤ (learnD d v).b ∧ (learnD d v).b ≤ 24) ∧ 0 ≤ (learnD d v).t ∧ (learnD d v).t ≤ 68719476735 := by
    unfold learnD
    by_cases hl : v < p2 d.a
    · simp only [if_pos hl]; exact ⟨⟨b0, b1⟩, t0, t1⟩
    · simp only [if_neg hl]
      have e3 := lS_bd t0 t1 (left_bd hv hl)
      have e4 := lK_bd (lS d.t (v - p2 d.a)) b0 b1
      exact ⟨⟨e4.1, e4.2.1⟩, e3⟩
  have ga : (learnD d v).a = lK d.a (lS d.s v) := rfl
  have gs : (learnD d v).s = lS d.s v := rfl
  exact ⟨okD_iff.2 (by omega), by unfold isD; omega⟩

/-- Learn's answers, and those of Check and Length. -/
def chD (d : D4) : Int := if okD d then 0 else 8
def lnD (d : D4) (v : Int) : D4 := if okD d then learnD d v else zD
def duS (d : D4) (v : Int) : Int := if v < p2 d.a then 1 + d.a else 1 + cdS (v - p2 d.a) d.b
def dlN (d : D4) (v : Int) : Int := if okD d then duS d v else 0
/-- The code. -/
def duV (d : D4) (v : Int) : Int := if v < p2 d.a then v * 2 else 1 + cdV (v - p2 d.a) d.b * 2
/-- Write's answers. -/
def dwE (xs : List Int) (n : Int) (d : D4) (v : Int) : Int := if okB xs n = true ∧ okD d = true then (if 330000 < n + duS d v then 18 else 0) else 8
def dwL (xs : List Int) (n : Int) (d : D4) (v : Int) : List Int := if dwE xs n d v = 0 then bl (n + duS d v) (val xs + duV d v * p2 n) else []
def dwN (xs : List Int) (n : Int) (d : D4) (v : Int) : Int := if dwE xs n d v = 0 then n + duS d v else 0
def dwD (xs : List Int) (n : Int) (d : D4) (v : Int) : D4 := if dwE xs n d v = 0 then learnD d v else zD
/-- What is read of a number whose lowest bits begin with a code. -/
def dnN (X : Int) (d : D4) : Int := if X % 2 = 0 then X / 2 % p2 d.a else dcN (X / 2) d.b + p2 d.a
def dnS (X : Int) (d : D4) : Int := if X % 2 = 0 then 1 + d.a else 1 + dcS (X / 2) d.b
/-- Read's answers. -/
def drE (xs : List Int) (n p : Int) (d : D4) : Int :=
  if okB xs n = true ∧ okD d = true then
    (if p < 0 then 2 else if n ≤ p then 24 else if val xs / p2 p % 2 = 0 then (if n - p - 1 < d.a then 24 else 0) else if rrE xs n (p + 1) d.b ≠ 0 then rrE xs n (p + 1) d.b else if 4294967295 < rrN xs n (p + 1) d.b + p2 d.a then 12 else 0)
  else 8
def drN (xs : List Int) (n p : Int) (d : D4) : Int := if drE xs n p d = 0 then dnN (val xs / p2 p) d else 0
def drX (xs : List Int) (n p : Int) (d : D4) : Int := if drE xs n p d = 0 then p + dnS (val xs / p2 p) d else 0
def drD (xs : List Int) (n p : Int) (d : D4) : D4 := if drE xs n p d = 0 then learnD d (dnN (val xs / p2 p) d) else zD

theorem p2_1 : p2 1 = 2 := by decide +kernel

theorem duS_bd {d : D4} {v : Int} (h : okD d = true) (hv : isU v) : 1 ≤ duS d v ∧ duS d v ≤ 81 ∧ duS d v ≤ 1 + d.a + 80 ∧ (v < p2 d.a → duS d v = 1 + d.a) := by
  obtain ⟨a0, a1, b0, b1, s1, t1⟩ := okD_iff.1 h
  unfold duS
  by_cases hl : v < p2 d.a
  · simp only [if_pos hl]
    exact ⟨by omega, by omega, by omega, fun _ => trivial⟩
  · simp only [if_neg hl]
    have := cdS_bd (left_bd hv hl).1 b0 b1
    refine ⟨by omega, by omega, by omega, fun g => absurd g hl⟩
theorem duV_bd {d : D4} {v : Int} (h : okD d = true) (hv : isU v) : 0 ≤ duV d v ∧ duV d v < p2 (duS d v) := by
  obtain ⟨a0, a1, b0, b1, s1, t1⟩ := okD_iff.1 h
  unfold duS duV
  by_cases hl : v < p2 d.a
  · simp only [if_pos hl]
    rw [p2_add (by omega) a0, p2_1]
    unfold isU at hv; omega
  · simp only [if_neg hl]
    have hc := cdS_bd (left_bd hv hl).1 b0 b1
    have hb := cd_bd (left_bd hv hl).1 b0 b1
    rw [p2_add (by omega) (by omega), p2_1]
    omega

/-- The value of the bits one further. -/
theorem next_val {A p : Int} (hp : 0 ≤ p) : A / p2 (p + 1) = A / p2 p / 2 := by
  rw [p2_add hp (by omega), p2_1, ← Int.ediv_ediv_of_nonneg (by have := p2_pos p; omega)]

/-- A code, whatever follows, is read as its number. -/
theorem code_dn {d : D4} {v : Int} (h : okD d = true) (hv : isU v) (H : Int) :
    let X := duV d v + H * p2 (duS d v)
    (v < p2 d.a → X % 2 = 0) ∧ (¬ v < p2 d.a → X % 2 = 1 ∧ X / 2 = cdV (v - p2 d.a) d.b + H * p2 (cdS (v - p2 d.a) d.b)) ∧ dnN X d = v ∧ dnS X d = duS d v := by
  intro X
  obtain ⟨a0, a1, b0, b1, s1, t1⟩ := okD_iff.1 h
  by_cases hl : v < p2 d.a
  · have eX : X = (v + H * p2 d.a) * 2 := by
      show duV d v + H * p2 (duS d v) = _
      unfold duS duV
      simp only [if_pos hl]
      rw [p2_add (by omega) a0, p2_1, Int.add_mul, Int.mul_comm 2 (p2 d.a), Int.mul_assoc]
    have e0 : X % 2 = 0 := by rw [eX]; omega
    have e1 : X / 2 = v + H * p2 d.a := by rw [eX]; omega
    have hp := p2_pos d.a
    refine ⟨fun _ => e0, fun g => absurd hl g, ?_, ?_⟩
    · unfold dnN; rw [if_pos e0, e1, Int.add_mul_emod_self_right, Int.emod_eq_of_lt hv.1 hl]
    · unfold dnS duS; rw [if_pos e0, if_pos hl]
  · have hL := left_bd hv hl
    have hc := cdS_bd hL.1 b0 b1
    have eX : X = 1 + (cdV (v - p2 d.a) d.b + H * p2 (cdS (v - p2 d.a) d.b)) * 2 := by
      show duV d v + H * p2 (duS d v) = _
      unfold duS duV
      simp only [if_neg hl]
      rw [p2_add (by omega) (by omega), p2_1, Int.add_mul, Int.mul_comm 2 (p2 _), Int.mul_assoc]; omega
    have e0 : X % 2 = 1 := by rw [eX]; omega
    have e1 : X / 2 = cdV (v - p2 d.a) d.b + H * p2 (cdS (v - p2 d.a) d.b) := by rw [eX]; omega
    obtain ⟨r1, r2, r3, r4⟩ := code_dc hL.1 hL.2 b0 b1 H
    rw [← e1] at r1 r2 r3 r4
    refine ⟨fun g => absurd g hl, fun _ => ⟨e0, e1⟩, ?_, ?_⟩
    · unfold dnN; rw [if_neg (by omega), r2]; omega
    · unfold dnS duS; rw [if_neg (by omega), if_neg hl, r3]

/-- .. where bits stand so. -/
theorem dr_read {xs : List Int} {n p v : Int} {d : D4} (hok : okB xs n = true) (hd : okD d = true) (hp : 0 ≤ p) (hv : isU v) {H : Int} (hX : val xs / p2 p = duV d v + H * p2 (duS d v)) (hn : p + duS d v ≤ n) :
    drE xs n p d = 0 ∧ drN xs n p d = v ∧ drX xs n p d = p + duS d v ∧ drD xs n p d = learnD d v := by
  obtain ⟨a0, a1, b0, b1, s1, t1⟩ := okD_iff.1 hd
  have hS := duS_bd hd hv
  obtain ⟨e1, e2, e3, e4⟩ := code_dn hd hv H
  rw [← hX] at e1 e2 e3 e4
  have e : drE xs n p d = 0 := by
    unfold drE
    rw [if_pos ⟨hok, hd⟩, if_neg (by omega), if_neg (by omega)]
    by_cases hl : v < p2 d.a
    · have := hS.2.2.2 hl
      rw [if_pos (e1 hl), if_neg (by omega)]
    · obtain ⟨g0, g1⟩ := e2 hl
      have hL := left_bd hv hl
      have hSS : duS d v = 1 + cdS (v - p2 d.a) d.b := by unfold duS; rw [if_neg hl]
      obtain ⟨r1, r2, r3⟩ := rr_read (p := p + 1) (v := v - p2 d.a) (k := d.b) (H := H) hok (by omega) hL.1 hL.2 b0 b1 (by rw [next_val hp]; exact g1) (by omega)
      unfold isU at hv
      rw [if_neg (by omega), if_neg (by rw [r1]; simp), if_neg (by rw [r2]; omega)]
  exact ⟨e, by rw [drN, if_pos e, e3], by rw [drX, if_pos e, e4], by rw [drD, if_pos e, e3]⟩

/-- What is read has just this code. -/
theorem dr_once {xs : List Int} {n p : Int} {d : D4} (hb : isByte xs) (h : drE xs n p d = 0) :
    okB xs n = true ∧ okD d = true ∧ 0 ≤ p ∧ isU (drN xs n p d) ∧ drX xs n p d = p + duS d (drN xs n p d) ∧ p + duS d (drN xs n p d) ≤ n ∧ val xs / p2 p % p2 (duS d (drN xs n p d)) = duV d (drN xs n p d) ∧ drD xs n p d = learnD d (drN xs n p d) := by
  have hh := h
  unfold drE at h
  by_cases hq : okB xs n = true ∧ okD d = true
  case neg => rw [if_neg hq] at h; omega
  rw [if_pos hq] at h
  obtain ⟨hok, hd⟩ := hq
  obtain ⟨a0, a1, b0, b1, s1, t1⟩ := okD_iff.1 hd
  by_cases hp : p < 0
  · rw [if_pos hp] at h; omega
  rw [if_neg hp] at h
  by_cases hn : n ≤ p
  · rw [if_pos hn] at h; omega
  rw [if_neg hn] at h
  have eN : drN xs n p d = dnN (val xs / p2 p) d := by rw [drN, if_pos hh]
  have eX : drX xs n p d = p + dnS (val xs / p2 p) d := by rw [drX, if_pos hh]
  have eD : drD xs n p d = learnD d (dnN (val xs / p2 p) d) := by rw [drD, if_pos hh]
  rw [eN, eX, eD]
  by_cases h0 : val xs / p2 p % 2 = 0
  · rw [if_pos h0] at h
    by_cases hk : n - p - 1 < d.a
    · rw [if_pos hk] at h; omega
    have hm := emod_bd (val xs / p2 p / 2) d.a
    have e1 : dnN (val xs / p2 p) d = val xs / p2 p / 2 % p2 d.a := by unfold dnN; rw [if_pos h0]
    have e2 : dnS (val xs / p2 p) d = 1 + d.a := by unfold dnS; rw [if_pos h0]
    have hle := p2_24le a1
    have e3 : duS d (dnN (val xs / p2 p) d) = 1 + d.a := by unfold duS; rw [if_pos (by rw [e1]; exact hm.2)]
    have e4 : duV d (dnN (val xs / p2 p) d) = dnN (val xs / p2 p) d * 2 := by unfold duV; rw [if_pos (by rw [e1]; exact hm.2)]
    refine ⟨hok, hd, by omega, by unfold isU; omega, by rw [e3, e2], by omega, ?_, rfl⟩
    rw [e3, e4, e1, Int.add_comm 1 d.a, Int.add_comm d.a 1, mod_split _ (by omega) a0, p2_1, h0]; omega
  · rw [if_neg h0] at h
    by_cases hr : rrE xs n (p + 1) d.b = 0
    case neg => rw [if_pos hr] at h; exact absurd h hr
    rw [if_neg (by rw [hr]; simp)] at h
    by_cases hg : 4294967295 < rrN xs n (p + 1) d.b + p2 d.a
    · rw [if_pos hg] at h; omega
    have eR : rrN xs n (p + 1) d.b = dcN (val xs / p2 p / 2) d.b := by rw [rrN, if_pos hr, next_val (by omega)]
    rw [eR] at hg
    have hb0 := dcN_bd (X := val xs / p2 p / 2) b0 b1
    have hpa := p2_pos d.a
    have e1 : dnN (val xs / p2 p) d = dcN (val xs / p2 p / 2) d.b + p2 d.a := by unfold dnN; rw [if_neg h0]
    have e2 : dnS (val xs / p2 p) d = 1 + dcS (val xs / p2 p / 2) d.b := by unfold dnS; rw [if_neg h0]
    -- the code of what is left
    have hrr := hr
    unfold rrE at hr
    rw [if_pos hok, if_neg (by omega)] at hr
    rw [next_val (show 0 ≤ p by omega)] at hr
    by_cases hR : rdE xs n (p + 1) = 0
    case neg => rw [if_pos hR] at hr; exact absurd hr hR
    rw [if_neg (by rw [hR]; simp)] at hr
    by_cases hs : n - rdX xs n (p + 1) < dcM (val xs / p2 p / 2) d.b
    · rw [if_pos hs] at hr; omega
    rw [if_neg hs] at hr
    have hqq : qP (dcN (val xs / p2 p / 2) d.b) d.b = cq (val xs / p2 p / 2) := by
      by_cases g : qP (dcN (val xs / p2 p / 2) d.b) d.b = cq (val xs / p2 p / 2)
      · exact g
      · rw [if_pos g] at hr; omega
    have eRX : rdX xs n (p + 1) = p + 1 + runS (cq (val xs / p2 p / 2)) := by
      rw [rdX, if_pos hR, ons_cq, next_val (show 0 ≤ p by omega)]
    obtain ⟨c1, c2⟩ := dc_code b0 b1 hqq
    have eS : dcS (val xs / p2 p / 2) d.b = runS (cq (val xs / p2 p / 2)) + dcM (val xs / p2 p / 2) d.b := rfl
    have hcs := cdS_bd hb0.1 b0 b1
    have e3 : duS d (dnN (val xs / p2 p) d) = 1 + dcS (val xs / p2 p / 2) d.b := by
      unfold duS; rw [e1, if_neg (by omega), ← c1, show dcN (val xs / p2 p / 2) d.b + p2 d.a - p2 d.a = dcN (val xs / p2 p / 2) d.b by omega]
    have e4 : duV d (dnN (val xs / p2 p) d) = 1 + cdV (dcN (val xs / p2 p / 2) d.b) d.b * 2 := by
      unfold duV; rw [e1, if_neg (by omega), show dcN (val xs / p2 p / 2) d.b + p2 d.a - p2 d.a = dcN (val xs / p2 p / 2) d.b by omega]
    refine ⟨hok, hd, by omega, by unfold isU; omega, by rw [e3, e2], by rw [e3]; omega, ?_, rfl⟩
    rw [e3, e4, mod_split _ (by omega) (by omega), p2_1, c2]; omega

end Go.Proofs.Ytmnhepcnbdbhoaa.M08

namespace Go.Proofs.Ytmnhepcnbdbhoaa.M08
open Go.Proofs.Ytmnhepcnbdbhoaa.M01 Go.Proofs.Ytmnhepcnbdbhoaa.M02 Go.Proofs.Ytmnhepcnbdbhoaa.M06 Go.Proofs.Ytmnhepcnbdbhoaa.M07 Go.Proofs.Ytmnhepcnbdbhoaa.MP
set_option linter.unusedVariables false

/-- The state behind numbers, and their codes. -/
def stI (d : D4) : List Int → D4
  | [] => d
  | v :: l => stI (learnD d v) l
def pcd (d : D4) : List Int → List (Int × Int)
  | [] => []
  | v :: l => (duS d v, duV d v) :: pcd (learnD d v) l
def okV (xs : List Int) : Prop := ∀ x ∈ xs, isU x

theorem stI_snoc (d : D4) (l : List Int) (v : Int) : stI d (l ++ [v]) = learnD (stI d l) v := by
  induction l generalizing d with
  | nil => rfl
  | cons x l ih => rw [List.cons_append, stI, ih, stI]
theorem pcd_snoc (d : D4) (l : List Int) (v : Int) : pcd d (l ++ [v]) = pcd d l ++ [(duS (stI d l) v, duV (stI d l) v)] := by
  induction l generalizing d with
  | nil => rfl
  | cons x l ih => rw [List.cons_append, pcd, ih, pcd, stI, List.cons_append]
theorem pcd_len (d : D4) (l : List Int) : (pcd d l).length = l.length := by
  induction l generalizing d with
  | nil => rfl
  | cons x l ih => rw [pcd, List.length_cons, ih, List.length_cons]
theorem pcd_take (d : D4) (l : List Int) (i : Nat) : (pcd d l).take i = pcd d (l.take i) := by
  induction l generalizing d i with
  | nil => simp [pcd]
  | cons x l ih =>
    cases i with
    | zero => rfl
    | succ i => rw [pcd, List.take_succ_cons, List.take_succ_cons, pcd, ih]
theorem take_snoc {l : List Int} {i : Nat} (h : i < l.length) : l.take (i + 1) = l.take i ++ [l.getD i 0] := by
  rw [List.take_add_one, List.getD_eq_getElem?_getD, List.getElem?_eq_getElem h]; rfl
theorem pcd_at {d : D4} {l : List Int} {i : Nat} (h : i < l.length) : (pcd d l)[i]? = some (duS (stI d (l.take i)) (l.getD i 0), duV (stI d (l.take i)) (l.getD i 0)) := by
  have e := pcd_take d l (i + 1)
  rw [take_snoc h, pcd_snoc, ← pcd_take, List.take_add_one] at e
  have hl : i < (pcd d l).length := by rw [pcd_len]; exact h
  rw [List.getElem?_eq_getElem hl] at e ⊢
  have := List.append_cancel_left e
  simpa using this

theorem stI_ok {d : D4} {l : List Int} (hd : isD d) (h : okD d = true) (hl : okV l) : okD (stI d l) = true ∧ isD (stI d l) := by
  induction l generalizing d with
  | nil => exact ⟨h, hd⟩
  | cons x l ih =>
    obtain ⟨e1, e2⟩ := learn_ok hd h (hl x (by simp))
    exact ih e2 e1 (fun y hy => hl y (by simp [hy]))
theorem pcd_ok {d : D4} {l : List Int} (hd : isD d) (h : okD d = true) (hl : okV l) : okP 81 (pcd d l) := by
  induction l generalizing d with
  | nil => intro x hx; simp [pcd] at hx
  | cons x l ih =>
    have hx := hl x (by simp)
    obtain ⟨e1, e2⟩ := learn_ok hd h hx
    have hs := duS_bd h hx
    have hb := duV_bd h hx
    intro y hy
    rw [pcd] at hy
    rcases List.mem_cons.1 hy with rfl | hy
    · exact ⟨by simp only; omega, hs.2.1, hb.1, hb.2⟩
    · exact ih e2 e1 (fun z hz => hl z (by simp [hz])) y hy
theorem okV_take {l : List Int} (h : okV l) (i : Nat) : okV (l.take i) := fun x hx => h x (List.mem_of_mem_take hx)

/-- A code behind them. -/
theorem pd_write {A n v : Int} {s : D4} {l : List (Int × Int)} (hn : 0 ≤ n) (hn1 : n ≤ 2000) (h0 : 0 ≤ A) (h1 : A < p2 n) (hl : okP 81 l) (hlen : l.length ≤ 2000) (hv : isU v) (h : okD s = true) :
    dwE (bl (jN n l) (jV A n l)) (jN n l) s v = 0 ∧ dwL (bl (jN n l) (jV A n l)) (jN n l) s v = bl (jN n (l ++ [(duS s v, duV s v)])) (jV A n (l ++ [(duS s v, duV s v)])) ∧ dwN (bl (jN n l) (jV A n l)) (jN n l) s v = jN n (l ++ [(duS s v, duV s v)]) ∧ dwD (bl (jN n l) (jV A n l)) (jN n l) s v = learnD s v ∧ jN n (l ++ [(duS s v, duV s v)]) = jN n l + duS s v := by
  obtain ⟨a, b, c, d⟩ := j_bd (by omega) hn h0 h1 hl
  have hs := duS_bd h hv
  have hok : okB (bl (jN n l) (jV A n l)) (jN n l) = true := ok_bl (by omega) (by omega) c d
  have hval : val (bl (jN n l) (jV A n l)) = jV A n l := val_bl (by omega) c d
  obtain ⟨e1, e2⟩ := j_snoc (A := A) (by omega) hn hl (duS s v, duV s v)
  have e : dwE (bl (jN n l) (jV A n l)) (jN n l) s v = 0 := by unfold dwE; rw [if_pos ⟨hok, h⟩, if_neg (by omega)]
  exact ⟨e, by unfold dwL; rw [if_pos e, hval, e1, e2], by unfold dwN; rw [if_pos e, e1], by unfold dwD; rw [if_pos e], e1⟩

/-- The code that stands there. -/
theorem pd_read {A n v : Int} {s : D4} {l : List (Int × Int)} {i : Nat} (hn : 0 ≤ n) (hn1 : n ≤ 2000) (h0 : 0 ≤ A) (h1 : A < p2 n) (hl : okP 81 l) (hlen : l.length ≤ 2000) (hi : i < l.length) (hp : l[i]? = some (duS s v, duV s v)) (hv : isU v) (h : okD s = true) :
    drE (bl (jN n l) (jV A n l)) (jN n l) (jN n (l.take i)) s = 0 ∧ drN (bl (jN n l) (jV A n l)) (jN n l) (jN n (l.take i)) s = v ∧ drX (bl (jN n l) (jV A n l)) (jN n l) (jN n (l.take i)) s = jN n (l.take (i + 1)) ∧ drD (bl (jN n l) (jV A n l)) (jN n l) (jN n (l.take i)) s = learnD s v := by
  obtain ⟨a, b, c, d⟩ := j_bd (by omega) hn h0 h1 hl
  have hok : okB (bl (jN n l) (jV A n l)) (jN n l) = true := ok_bl (by omega) (by omega) c d
  have hval : val (bl (jN n l) (jV A n l)) = jV A n l := val_bl (by omega) c d
  obtain ⟨e1, e2, e3, e4⟩ := j_at (by omega) hn h0 h1 hl hi hp
  simp only at e1 e2
  have hh := dr_read (xs := bl (jN n l) (jV A n l)) (n := jN n l) (p := jN n (l.take i)) (v := v) (d := s) hok h (by omega) hv (H := pV (l.drop (i + 1))) (by rw [hval]; exact e1) (by omega)
  rw [e2]; exact hh
end Go.Proofs.Ytmnhepcnbdbhoaa.M08

namespace Go.Proofs.Ytmnhepcnbdbhoaa.M09
open Go.Proofs.Ytmnhepcnbdbhoaa.M01 Go.Proofs.Ytmnhepcnbdbhoaa.M02 Go.Proofs.Ytmnhepcnbdbhoaa.M06 Go.Proofs.Ytmnhepcnbdbhoaa.M07 Go.Proofs.Ytmnhepcnbdbhoaa.M08 Go.Proofs.Ytmnhepcnbdbhoaa.MP
set_option linter.unusedVariables false

/-- Encode's and After's answers. -/
def enE (l : List Int) : Int := if 4000 < (l.length : Int) then 4 else 0
def enN (l : List Int) : Int := if enE l = 0 then jN 0 (pcd stD l) else 0
def enL (l : List Int) : List Int := if enE l = 0 then bl (jN 0 (pcd stD l)) (jV 0 0 (pcd stD l)) else []
def afD (l : List Int) : D4 := if enE l = 0 then stI stD l else zD

/-- Reading k numbers from p on in a state: the first error, the numbers ahead of it, where, and the state behind. -/
def rdE (xs : List Int) (n : Int) : Nat → Int → D4 → Int
  | 0, _, _ => 0
  | k + 1, p, d => if drE xs n p d = 0 then rdE xs n k (drX xs n p d) (drD xs n p d) else drE xs n p d
def rdL (xs : List Int) (n : Int) : Nat → Int → D4 → List Int
  | 0, _, _ => []
  | k + 1, p, d => drN xs n p d :: rdL xs n k (drX xs n p d) (drD xs n p d)
def rdP (xs : List Int) (n : Int) : Nat → Int → D4 → Int
  | 0, p, _ => p
  | k + 1, p, d => rdP xs n k (drX xs n p d) (drD xs n p d)

/-- Decode's answers. -/
def deE (xs : List Int) (n m : Int) : Int := if okB xs n = true then (if m < 0 then 2 else if 4000 < m then 4 else rdE xs n m.toNat 0 stD) else 8
def deL (xs : List Int) (n m : Int) : List Int := if deE xs n m = 0 then rdL xs n m.toNat 0 stD else []
def deX (xs : List Int) (n m : Int) : Int := if deE xs n m = 0 then rdP xs n m.toNat 0 stD else 0

theorem okD_st : okD stD = true := by decide +kernel
theorem isD_st' : isD stD := by unfold stD isD; decide

theorem rd_len (xs : List Int) (n : Int) (k : Nat) (p : Int) (d : D4) : (rdL xs n k p d).length = k := by
  induction k generalizing p d with
  | zero => rfl
  | succ k ih => rw [rdL, List.length_cons, ih]

/-- What was coded is read, whatever stands behind. -/
theorem rd_code {xs : List Int} {n : Int} (hok : okB xs n = true) (l : List Int) : ∀ (p : Int) (d : D4) (H : Int), okD d = true → isD d → 0 ≤ p → okV l → val xs / p2 p = pV (pcd d l) + H * p2 (pS (pcd d l)) → p + pS (pcd d l) ≤ n →
    rdE xs n l.length p d = 0 ∧ rdL xs n l.length p d = l ∧ rdP xs n l.length p d = p + pS (pcd d l) := by
  induction l with
  | nil => intro p d H _ _ _ _ _ _; exact ⟨rfl, rfl, by simp [rdP, pcd, pS]⟩
  | cons v l ih =>
    intro p d H hd hi hp hl hX hn
    have hv := hl v (by simp)
    have hl' : okV l := fun x hx => hl x (by simp [hx])
    obtain ⟨t1, t2⟩ := learn_ok hi hd hv
    have hpo := pcd_ok t2 t1 hl'
    have hs := duS_bd hd hv
    have hb := duV_bd hd hv
    have hS := pS_bd (m := 81) (by omega) _ hpo
    rw [pcd, pV, pS] at hX
    rw [pcd, pS] at hn
    simp only at hX hn
    have hX2 : val xs / p2 p = duV d v + (pV (pcd (learnD d v) l) + H * p2 (pS (pcd (learnD d v) l))) * p2 (duS d v) := by
      rw [hX, p2_add (by omega) hS.1, Int.add_mul, Int.mul_comm (p2 (duS d v)), Int.mul_assoc]; omega
    obtain ⟨r1, r2, r3, r4⟩ := dr_read hok hd hp hv hX2 (by omega)
    have hnext : val xs / p2 (p + duS d v) = pV (pcd (learnD d v) l) + H * p2 (pS (pcd (learnD d v) l)) := by
      have hq := p2_pos p
      have hq2 := p2_pos (duS d v)
      rw [p2_add hp (by omega), ← Int.ediv_ediv_of_nonneg (by omega), hX2, Int.add_mul_ediv_right _ _ (by omega), Int.ediv_eq_zero_of_lt hb.1 hb.2, Int.zero_add]
    obtain ⟨e1, e2, e3⟩ := ih (p + duS d v) (learnD d v) H t1 t2 (by omega) hl' hnext (by omega)
    refine ⟨?_, ?_, ?_⟩
    · rw [List.length_cons, rdE, if_pos r1, r3, r4]; exact e1
    · rw [List.length_cons, rdL, r2, r3, r4, e2]
    · rw [List.length_cons, rdP, r3, r4, e3, pcd, pS]; simp only; omega

/-- What is read has just this code. -/
theorem rd_once {xs : List Int} {n : Int} (hby : isByte xs) (k : Nat) : ∀ (p : Int) (d : D4), okD d = true → isD d → 0 ≤ p → p ≤ n → rdE xs n k p d = 0 →
    okV (rdL xs n k p d) ∧ rdP xs n k p d = p + pS (pcd d (rdL xs n k p d)) ∧ rdP xs n k p d ≤ n ∧ val xs / p2 p % p2 (pS (pcd d (rdL xs n k p d))) = pV (pcd d (rdL xs n k p d)) := by
  induction k with
  | zero => intro p d _ _ _ hpn _; exact ⟨fun x hx => by simp [rdL] at hx, by simp [rdP, rdL, pcd, pS], hpn, by simp [rdL, pcd, pS, pV, p2_zero, Int.emod_one]⟩
  | succ k ih =>
    intro p d hd hi hp hpn h
    rw [rdE] at h
    by_cases h0 : drE xs n p d = 0
    case neg => rw [if_neg h0] at h; exact absurd h h0
    rw [if_pos h0] at h
    obtain ⟨o1, o2, o3, o4, o5, o6, o7, o8⟩ := dr_once hby h0
    obtain ⟨t1, t2⟩ := learn_ok hi hd o4
    have hs := duS_bd hd o4
    have hb := duV_bd hd o4
    rw [rdL, rdP]
    rw [o5, o8] at h ⊢
    obtain ⟨a1, a2, a3, a4⟩ := ih (p + duS d (drN xs n p d)) (learnD d (drN xs n p d)) t1 t2 (by omega) (by omega) h
    have hpo := pcd_ok t2 t1 a1
    have hS := pS_bd (m := 81) (by omega) _ hpo
    refine ⟨fun x hx => ?_, ?_, a3, ?_⟩
    · rcases List.mem_cons.1 hx with rfl | hx
      · exact o4
      · exact a1 x hx
    · rw [a2, pcd, pS]; simp only; omega
    · rw [pcd, pS, pV]
      simp only
      generalize pcd (learnD d (drN xs n p d)) (rdL xs n k (p + duS d (drN xs n p d)) (learnD d (drN xs n p d))) = P at *
      generalize drN xs n p d = v at *
      have e := mod_split (val xs / p2 p) (show 0 ≤ duS d v by omega) hS.1
      have hq := p2_pos p
      rw [e, o7]
      have e2 : val xs / p2 p / p2 (duS d v) = val xs / p2 (p + duS d v) := by rw [p2_add hp (by omega), Int.ediv_ediv_of_nonneg (by omega)]
      rw [e2, a4]

/-- One code for each list. -/
theorem code_bd {l : List Int} (hl : okV l) (hlen : l.length ≤ 4000) : okP 81 (pcd stD l) ∧ 0 ≤ jN 0 (pcd stD l) ∧ jN 0 (pcd stD l) ≤ 81 * l.length ∧ 0 ≤ jV 0 0 (pcd stD l) ∧ jV 0 0 (pcd stD l) < p2 (jN 0 (pcd stD l)) ∧ okB (bl (jN 0 (pcd stD l)) (jV 0 0 (pcd stD l))) (jN 0 (pcd stD l)) = true ∧ val (bl (jN 0 (pcd stD l)) (jV 0 0 (pcd stD l))) = jV 0 0 (pcd stD l) ∧ jN 0 (pcd stD l) = pS (pcd stD l) ∧ jV 0 0 (pcd stD l) = pV (pcd stD l) := by
  have hpo := pcd_ok isD_st' okD_st hl
  obtain ⟨a, b, c, d⟩ := j_bd (m := 81) (A := 0) (n := 0) (by omega) (by omega) (by omega) (by decide +kernel) hpo
  rw [pcd_len] at b
  exact ⟨hpo, a, by omega, c, d, ok_bl (by omega) (by omega) c d, val_bl (by omega) c d, by unfold jN; omega, by unfold jV; rw [p2_zero]; omega⟩

/-- A code of a list, and bits behind: the list is read. -/
theorem de_code {xs : List Int} {n H : Int} {l : List Int} (hl : okV l) (hlen : l.length ≤ 4000) (hok : okB xs n = true) (hv : val xs = jV 0 0 (pcd stD l) + H * p2 (jN 0 (pcd stD l))) (hn : jN 0 (pcd stD l) ≤ n) :
    deE xs n l.length = 0 ∧ deL xs n l.length = l ∧ deX xs n l.length = jN 0 (pcd stD l) := by
  obtain ⟨hpo, b1, b2, b3, b4, b5, b6, b7, b8⟩ := code_bd hl hlen
  obtain ⟨e1, e2, e3⟩ := rd_code hok l 0 stD H okD_st isD_st' (by omega) hl (by rw [p2_zero, Int.ediv_one, hv, b7, b8]) (by omega)
  have e : deE xs n l.length = 0 := by rw [deE, if_pos hok, if_neg (by omega), if_neg (by omega)]; exact e1
  exact ⟨e, by rw [deL, if_pos e]; exact e2, by rw [deX, if_pos e]; rw [show ((l.length : Int)).toNat = l.length from rfl, e3, b7]; omega⟩

/-- What is decoded has just the bits that were read as its code. -/
theorem de_once {xs : List Int} {n m : Int} (hby : isByte xs) (h : deE xs n m = 0) :
    0 ≤ m ∧ m ≤ 4000 ∧ okB xs n = true ∧ okV (deL xs n m) ∧ ((deL xs n m).length : Int) = m ∧ deX xs n m = jN 0 (pcd stD (deL xs n m)) ∧ deX xs n m ≤ n ∧ val xs % p2 (deX xs n m) = jV 0 0 (pcd stD (deL xs n m)) := by
  have hh := h
  unfold deE at h
  by_cases hok : okB xs n = true
  case neg => rw [if_neg hok] at h; omega
  rw [if_pos hok] at h
  by_cases h0 : m < 0
  · rw [if_pos h0] at h; omega
  rw [if_neg h0] at h
  by_cases h1 : 4000 < m
  · rw [if_pos h1] at h; omega
  rw [if_neg h1] at h
  have hn := (okB_iff.1 hok).1
  obtain ⟨a1, a2, a3, a4⟩ := rd_once hby m.toNat 0 stD okD_st isD_st' (by omega) hn h
  have eL : deL xs n m = rdL xs n m.toNat 0 stD := by rw [deL, if_pos hh]
  have eX : deX xs n m = rdP xs n m.toNat 0 stD := by rw [deX, if_pos hh]
  have hlen := rd_len xs n m.toNat 0 stD
  rw [← eL] at a1 a2 a4 hlen
  rw [← eX] at a2 a3
  obtain ⟨_, _, _, _, _, _, _, b7, b8⟩ := code_bd a1 (by omega)
  rw [p2_zero, Int.ediv_one] at a4
  refine ⟨by omega, by omega, hok, a1, by omega, by rw [a2, b7]; omega, a3, ?_⟩
  rw [b8, ← a4, a2, Int.zero_add]

/-- A code behind the others. -/
theorem pd_write9 {v : Int} {l : List Int} (hl : okV l) (hlen : l.length + 1 ≤ 4000) (hv : isU v) :
    let P := pcd stD l
    let Q := pcd stD (l ++ [v])
    let s := stI stD l
    dwE (bl (jN 0 P) (jV 0 0 P)) (jN 0 P) s v = 0 ∧ dwL (bl (jN 0 P) (jV 0 0 P)) (jN 0 P) s v = bl (jN 0 Q) (jV 0 0 Q) ∧ dwN (bl (jN 0 P) (jV 0 0 P)) (jN 0 P) s v = jN 0 Q ∧ dwD (bl (jN 0 P) (jV 0 0 P)) (jN 0 P) s v = stI stD (l ++ [v]) := by
  intro P Q s
  obtain ⟨hpo, b1, b2, b3, b4, b5, b6, b7, b8⟩ := code_bd hl (by omega)
  obtain ⟨s1, s2⟩ := stI_ok isD_st' okD_st hl
  have hs := duS_bd s1 hv
  have eQ : Q = P ++ [(duS s v, duV s v)] := pcd_snoc stD l v
  obtain ⟨e1, e2⟩ := j_snoc (A := 0) (m := 81) (n := 0) (by omega) (by omega) hpo (duS s v, duV s v)
  have hss : duS s v ≤ 81 := hs.2.1
  have hP : jN 0 P ≤ 81 * l.length := b2
  have e : dwE (bl (jN 0 P) (jV 0 0 P)) (jN 0 P) s v = 0 := by unfold dwE; rw [if_pos ⟨b5, s1⟩, if_neg (by omega)]
  exact ⟨e, by unfold dwL; rw [if_pos e, b6, eQ, e1, e2], by unfold dwN; rw [if_pos e, eQ, e1], by unfold dwD; rw [if_pos e, stI_snoc]⟩
end Go.Proofs.Ytmnhepcnbdbhoaa.M09

namespace Go.Proofs.Ytmnhepcnbdbhoaa.M09
open Go.Proofs.Ytmnhepcnbdbhoaa.M01 Go.Proofs.Ytmnhepcnbdbhoaa.M02 Go.Proofs.Ytmnhepcnbdbhoaa.M06 Go.Proofs.Ytmnhepcnbdbhoaa.M07 Go.Proofs.Ytmnhepcnbdbhoaa.M08 Go.Proofs.Ytmnhepcnbdbhoaa.MP
set_option linter.unusedVariables false

theorem isU_zero : isU 0 := by unfold isU; omega
theorem learn_zero (d : D4) : learnD d 0 = ⟨lK d.a (lS d.s 0), d.b, lS d.s 0, d.t⟩ := by
  have h : (0 : Int) < p2 d.a := by have := p2_pos d.a; omega
  unfold learnD; rw [if_pos h, if_pos h]
def zs (k : Nat) : List Int := List.replicate k 0
theorem zs_okV (k : Nat) : okV (zs k) := fun x hx => by rw [(List.mem_replicate.1 hx).2]; exact isU_zero
theorem zs_succ (k : Nat) : zs (k + 1) = zs k ++ [0] := by unfold zs; rw [List.replicate_succ']
theorem stI_append (d : D4) (l m : List Int) : stI d (l ++ m) = stI (stI d l) m := by
  induction l generalizing d with
  | nil => rfl
  | cons x l ih => rw [List.cons_append, stI, ih, stI]
/-- The state behind zeros. -/
theorem st_zeros {d : D4} (h : okD d = true) (hi : isD d) (k : Nat) : (stI d (zs k)).b = d.b ∧ (stI d (zs k)).t = d.t ∧ (stI d (zs k)).s ≤ d.s ∧ 0 ≤ (stI d (zs k)).s := by
  induction k with
  | zero => exact ⟨rfl, rfl, Int.le_refl _, hi.2.2.1.1⟩
  | succ k ih =>
    obtain ⟨a, b, c, e⟩ := ih
    rw [zs_succ, stI_snoc, learn_zero]
    simp only
    exact ⟨a, b, by unfold lS; omega, by unfold lS; omega⟩
/-- What is left of the greatest Sum0 behind k zeros. -/
def fS : Nat → Int
  | 0 => 68719476735
  | k + 1 => fS k - fS k / 16
theorem fS_bd (k : Nat) {d : D4} (h : okD d = true) (hi : isD d) : (stI d (zs k)).s ≤ fS k := by
  induction k with
  | zero => exact (okD_iff.1 h).2.2.2.2.1
  | succ k ih =>
    have h0 := (st_zeros h hi k).2.2.2
    rw [zs_succ, stI_snoc, learn_zero, fS]
    simp only
    unfold lS
    omega
theorem fS_470 : fS 470 ≤ 15 := by decide +kernel
theorem lK_low {k s : Int} (h0 : 0 ≤ k) (h1 : k ≤ 24) (hs0 : 0 ≤ s) (hs : s ≤ 15) : lK k s = (if 0 < k then k - 1 else 0) := by
  have h16 : p2 (k + 4) = p2 k * 16 := by rw [p2_add h0 (by omega)]; rfl
  have h32 : p2 (k + 5) = p2 k * 32 := by rw [p2_add h0 (by omega)]; rfl
  have hp := p2_pos k
  unfold lK
  by_cases hk : 0 < k
  · rw [if_pos ⟨hk, by omega⟩, if_pos hk]
  · rw [if_neg (by omega), if_neg (by omega), if_neg hk]; omega
theorem low_zeros {d : D4} (h : okD d = true) (hi : isD d) (j : Nat) (hs : d.s ≤ 15) : (stI d (zs j)).a ≤ max 0 (d.a - j) ∧ 0 ≤ (stI d (zs j)).a := by
  obtain ⟨a0, a1, _, _, _, _⟩ := okD_iff.1 h
  induction j with
  | zero => exact ⟨by simp [zs, stI]; omega, a0⟩
  | succ j ih =>
    obtain ⟨_, _, e1, e2⟩ := st_zeros h hi j
    have hk := okD_iff.1 (stI_ok hi h (zs_okV j)).1
    rw [zs_succ, stI_snoc, learn_zero]
    simp only
    have e3 : lS (stI d (zs j)).s 0 ≤ 15 := by unfold lS; omega
    have e4 : 0 ≤ lS (stI d (zs j)).s 0 := by unfold lS; omega
    rw [lK_low hk.1 hk.2.1 e4 e3]
    by_cases hz : 0 < (stI d (zs j)).a
    · rw [if_pos hz]; omega
    · rw [if_neg hz]; omega
theorem zs_add (i j : Nat) : zs (i + j) = zs i ++ zs j := by unfold zs; rw [List.replicate_append_replicate]
/-- Behind 500 zeros K0 is 0. -/
theorem zeros_500 {d : D4} (h : okD d = true) (hi : isD d) {k : Nat} (hk : 500 ≤ k) : (stI d (zs k)).a = 0 := by
  obtain ⟨m, rfl⟩ : ∃ m, k = 470 + m := ⟨k - 470, by omega⟩
  rw [zs_add, stI_append]
  have hs : (stI d (zs 470)).s ≤ 15 := Int.le_trans (fS_bd 470 h hi) fS_470
  obtain ⟨t1, t2⟩ := stI_ok hi h (zs_okV 470)
  have h2 := low_zeros t1 t2 m hs
  have h3 := (okD_iff.1 t1).2.1
  omega
/-- A list of zeros has at most 11 bits for each of them. -/
theorem zeros_inv (k : Nat) : (stI stD (zs k)).a ≤ 10 ∧ (stI stD (zs k)).s ≤ p2 ((stI stD (zs k)).a + 5) := by
  induction k with
  | zero => exact ⟨by decide, by decide +kernel⟩
  | succ k ih =>
    obtain ⟨i1, i2⟩ := ih
    have hk := okD_iff.1 (stI_ok isD_st' okD_st (zs_okV k)).1
    obtain ⟨_, _, _, e2⟩ := st_zeros okD_st isD_st' k
    rw [zs_succ, stI_snoc, learn_zero]
    simp only
    generalize (stI stD (zs k)).a = a at *
    generalize (stI stD (zs k)).s = s at *
    have hl : lS s 0 ≤ s := by unfold lS; omega
    unfold lK
    by_cases h1 : 0 < a ∧ lS s 0 < p2 (a + 4)
    · rw [if_pos h1]
      refine ⟨by omega, ?_⟩
      rw [show a - 1 + 5 = a + 4 by omega]; omega
    · rw [if_neg h1, if_neg (by omega)]
      exact ⟨i1, by omega⟩
theorem zeros_len (k : Nat) : pS (pcd stD (zs k)) ≤ 11 * k := by
  induction k with
  | zero => simp [zs, pcd, pS]
  | succ k ih =>
    obtain ⟨i1, _⟩ := zeros_inv k
    rw [zs_succ, pcd_snoc, pS_snoc]
    simp only
    have e : duS (stI stD (zs k)) 0 = 1 + (stI stD (zs k)).a := by unfold duS; rw [if_pos (by have := p2_pos (stI stD (zs k)).a; omega)]
    rw [e]; omega
end Go.Proofs.Ytmnhepcnbdbhoaa.M09

namespace Go.Proofs.Ytmnhepcnbdbhoaa.M09
open Go.Proofs.Ytmnhepcnbdbhoaa.M01 Go.Proofs.Ytmnhepcnbdbhoaa.M02 Go.Proofs.Ytmnhepcnbdbhoaa.M06 Go.Proofs.Ytmnhepcnbdbhoaa.M07 Go.Proofs.Ytmnhepcnbdbhoaa.M08 Go.Proofs.Ytmnhepcnbdbhoaa.MP
set_option linter.unusedVariables false

theorem pS_app (P Q : List (Int × Int)) : pS (P ++ Q) = pS P + pS Q := by
  induction P with
  | nil => simp [pS]
  | cons x P ih => rw [List.cons_append, pS, pS, ih]; omega
theorem pV_app {m : Int} (hm : 0 ≤ m) (P Q : List (Int × Int)) (h : okP m P) : pV (P ++ Q) = pV P + pV Q * p2 (pS P) := by
  induction P with
  | nil => simp [pV, pS, p2_zero]
  | cons x P ih =>
    have h1 := h x (by simp)
    have hP : okP m P := fun y hy => h y (by simp [hy])
    rw [List.cons_append, pV, pV, ih hP, pS, p2_add h1.1 (pS_bd hm P hP).1, Int.add_mul, Int.mul_assoc, Int.mul_comm (p2 (pS P))]; omega
theorem pcd_app (d : D4) (l m : List Int) : pcd d (l ++ m) = pcd d l ++ pcd (stI d l) m := by
  induction l generalizing d with
  | nil => rfl
  | cons x l ih => rw [List.cons_append, pcd, ih, pcd, stI, List.cons_append]
theorem okV_app {l m : List Int} (h : okV l) (g : okV m) : okV (l ++ m) := fun x hx => by
  rcases List.mem_append.1 hx with hx | hx
  · exact h x hx
  · exact g x hx
theorem okV_drop {l : List Int} (h : okV l) (i : Nat) : okV (l.drop i) := fun x hx => h x (List.mem_of_mem_drop hx)

/-- How many bits the codes of numbers have from a state on, their number, and their bytes. -/
def cN (d : D4) (l : List Int) : Int := pS (pcd d l)
def cV (d : D4) (l : List Int) : Int := pV (pcd d l)
def cL (d : D4) (l : List Int) : List Int := bl (cN d l) (cV d l)

theorem c_nil (d : D4) : cN d [] = 0 ∧ cV d [] = 0 ∧ cL d [] = [] := ⟨rfl, rfl, by unfold cL cN cV pcd pS pV; decide +kernel⟩

theorem c_bd {d : D4} {l : List Int} (hi : isD d) (h : okD d = true) (hl : okV l) (hlen : l.length ≤ 4000) :
    0 ≤ cN d l ∧ cN d l ≤ 81 * l.length ∧ 0 ≤ cV d l ∧ cV d l < p2 (cN d l) ∧ okB (cL d l) (cN d l) = true ∧ val (cL d l) = cV d l := by
  have hpo := pcd_ok hi h hl
  have hS := pS_bd (m := 81) (by omega) _ hpo
  have hV := pV_bd (m := 81) (by omega) _ hpo
  rw [pcd_len] at hS
  exact ⟨hS.1, hS.2, hV.1, hV.2, ok_bl hS.1 (by show pS (pcd d l) ≤ 330000; omega) hV.1 hV.2, val_bl hS.1 hV.1 hV.2⟩

/-- One number more. -/
theorem c_write {d : D4} {l : List Int} {v : Int} (hi : isD d) (h : okD d = true) (hl : okV l) (hlen : l.length + 1 ≤ 4000) (hv : isU v) :
    dwE (cL d l) (cN d l) (stI d l) v = 0 ∧ dwL (cL d l) (cN d l) (stI d l) v = cL d (l ++ [v]) ∧ dwN (cL d l) (cN d l) (stI d l) v = cN d (l ++ [v]) ∧ dwD (cL d l) (cN d l) (stI d l) v = stI d (l ++ [v]) ∧
      cN d (l ++ [v]) = cN d l + duS (stI d l) v ∧ cV d (l ++ [v]) = cV d l + duV (stI d l) v * p2 (cN d l) := by
  obtain ⟨b1, b2, b3, b4, b5, b6⟩ := c_bd hi h hl (by omega)
  obtain ⟨s1, s2⟩ := stI_ok hi h hl
  have hs := duS_bd s1 hv
  have e1 : cN d (l ++ [v]) = cN d l + duS (stI d l) v := by unfold cN; rw [pcd_snoc, pS_snoc]
  have e2 : cV d (l ++ [v]) = cV d l + duV (stI d l) v * p2 (cN d l) := by unfold cV cN; rw [pcd_snoc, pV_snoc (m := 81) (by omega) _ _ (pcd_ok hi h hl)]
  have e : dwE (cL d l) (cN d l) (stI d l) v = 0 := by unfold dwE; rw [if_pos ⟨b5, s1⟩, if_neg (by omega)]
  exact ⟨e, by unfold dwL; rw [if_pos e, b6, ← e1, ← e2]; rfl, by unfold dwN; rw [if_pos e, e1], by unfold dwD; rw [if_pos e, stI_snoc], e1, e2⟩

/-- Two lists, one behind the other. -/
theorem c_join {d : D4} {l m : List Int} (hi : isD d) (h : okD d = true) (hl : okV l) (hm : okV m) (hlen : l.length + m.length ≤ 4000) :
    joE (cL d l) (cN d l) (cL (stI d l) m) (cN (stI d l) m) = 0 ∧ joL (cL d l) (cN d l) (cL (stI d l) m) (cN (stI d l) m) = cL d (l ++ m) ∧ joN (cL d l) (cN d l) (cL (stI d l) m) (cN (stI d l) m) = cN d (l ++ m) := by
  obtain ⟨b1, b2, b3, b4, b5, b6⟩ := c_bd hi h hl (by omega)
  obtain ⟨s1, s2⟩ := stI_ok hi h hl
  obtain ⟨g1, g2, g3, g4, g5, g6⟩ := c_bd s2 s1 hm (by omega)
  have e1 : cN d (l ++ m) = cN d l + cN (stI d l) m := by unfold cN; rw [pcd_app, pS_app]
  have e2 : cV d (l ++ m) = cV d l + cV (stI d l) m * p2 (cN d l) := by unfold cV cN; rw [pcd_app, pV_app (m := 81) (by omega) _ _ (pcd_ok hi h hl)]
  have e : joE (cL d l) (cN d l) (cL (stI d l) m) (cN (stI d l) m) = 0 := by unfold joE; rw [if_pos b5, if_pos g5, if_neg (by omega)]
  exact ⟨e, by unfold joL; rw [if_pos e, b6, g6, ← e1, ← e2]; rfl, by unfold joN; rw [if_pos e, e1]⟩

/-- From the first state on: what Encode answers. -/
theorem c_en {l : List Int} (h : l.length ≤ 4000) : enE l = 0 ∧ enN l = cN stD l ∧ enL l = cL stD l ∧ afD l = stI stD l := by
  have e : enE l = 0 := by unfold enE; rw [if_neg (by omega)]
  have e1 : jN 0 (pcd stD l) = cN stD l := by unfold jN cN; omega
  have e2 : jV 0 0 (pcd stD l) = cV stD l := by unfold jV cV; rw [p2_zero]; omega
  exact ⟨e, by rw [enN, if_pos e, e1], by rw [enL, if_pos e, e1, e2]; rfl, by rw [afD, if_pos e]⟩
theorem c_en_many {l : List Int} (h : 4000 < l.length) : enE l = 4 ∧ enN l = 0 ∧ enL l = [] ∧ afD l = zD := by
  have e : enE l = 4 := by unfold enE; rw [if_pos (by omega)]
  exact ⟨e, by rw [enN, if_neg (by omega)], by rw [enL, if_neg (by omega)], by rw [afD, if_neg (by omega)]⟩
end Go.Proofs.Ytmnhepcnbdbhoaa.M09

namespace Go.Proofs.Ytmnhepcnbdbhoaa.M09
open Go.Proofs.Ytmnhepcnbdbhoaa.M01 Go.Proofs.Ytmnhepcnbdbhoaa.M02 Go.Proofs.Ytmnhepcnbdbhoaa.M06 Go.Proofs.Ytmnhepcnbdbhoaa.M07 Go.Proofs.Ytmnhepcnbdbhoaa.M08 Go.Proofs.Ytmnhepcnbdbhoaa.MP
set_option linter.unusedVariables false

/-- The state behind k numbers that were read. -/
def rdT (xs : List Int) (n : Int) : Nat → Int → D4 → D4
  | 0, _, d => d
  | k + 1, p, d => rdT xs n k (drX xs n p d) (drD xs n p d)

theorem rdP_snoc (xs : List Int) (n : Int) (k : Nat) : ∀ p d, rdP xs n (k + 1) p d = drX xs n (rdP xs n k p d) (rdT xs n k p d) := by
  induction k with
  | zero => intro p d; rfl
  | succ k ih => intro p d; rw [rdP, ih, rdP, rdT]
theorem rdT_snoc (xs : List Int) (n : Int) (k : Nat) : ∀ p d, rdT xs n (k + 1) p d = drD xs n (rdP xs n k p d) (rdT xs n k p d) := by
  induction k with
  | zero => intro p d; rfl
  | succ k ih => intro p d; rw [rdT, ih, rdP, rdT]
theorem rdL_snoc (xs : List Int) (n : Int) (k : Nat) : ∀ p d, rdL xs n (k + 1) p d = rdL xs n k p d ++ [drN xs n (rdP xs n k p d) (rdT xs n k p d)] := by
  induction k with
  | zero => intro p d; rfl
  | succ k ih => intro p d; rw [rdL, ih, rdL, rdP, rdT, List.cons_append]
theorem rdE_snoc (xs : List Int) (n : Int) (k : Nat) : ∀ p d, rdE xs n k p d = 0 → rdE xs n (k + 1) p d = drE xs n (rdP xs n k p d) (rdT xs n k p d) := by
  induction k with
  | zero =>
    intro p d _
    rw [rdE]
    by_cases h : drE xs n p d = 0
    · rw [if_pos h]; exact h.symm
    · rw [if_neg h]; rfl
  | succ k ih =>
    intro p d h
    rw [rdE] at h
    by_cases h0 : drE xs n p d = 0
    · rw [if_pos h0] at h
      rw [rdE, if_pos h0, ih _ _ h, rdP, rdT]
    · rw [if_neg h0] at h; exact absurd h h0
theorem rdE_stop (xs : List Int) (n : Int) (k : Nat) : ∀ (j : Nat) p d, rdE xs n k p d ≠ 0 → rdE xs n (k + j) p d = rdE xs n k p d := by
  induction k with
  | zero => intro j p d h; exact absurd rfl h
  | succ k ih =>
    intro j p d h
    rw [rdE] at h
    rw [show k + 1 + j = (k + j) + 1 by omega, rdE, rdE]
    by_cases h0 : drE xs n p d = 0
    · rw [if_pos h0] at h
      rw [if_pos h0, if_pos h0, ih j _ _ h]
    · rw [if_neg h0, if_neg h0]

theorem rd_state {xs : List Int} {n : Int} (hby : isByte xs) (k : Nat) : ∀ p d, okD d = true → isD d → 0 ≤ p → p ≤ n → rdE xs n k p d = 0 → okD (rdT xs n k p d) = true ∧ isD (rdT xs n k p d) ∧ 0 ≤ rdP xs n k p d ∧ rdP xs n k p d ≤ n := by
  induction k with
  | zero => intro p d hd hi h0 h1 _; exact ⟨hd, hi, h0, h1⟩
  | succ k ih =>
    intro p d hd hi h0 h1 h
    rw [rdE] at h
    by_cases hz : drE xs n p d = 0
    · rw [if_pos hz] at h
      obtain ⟨o1, o2, o3, o4, o5, o6, o7, o8⟩ := dr_once hby hz
      obtain ⟨t1, t2⟩ := learn_ok hi hd o4
      have hs := duS_bd hd o4
      rw [rdT, rdP]
      rw [o5, o8] at h ⊢
      exact ih _ _ t1 t2 (by omega) (by omega) h
    · rw [if_neg hz] at h; exact absurd h hz

/-- A number that is read, or none. -/
theorem drN_isU {xs : List Int} {n p : Int} {d : D4} (hb : isByte xs) : isU (drN xs n p d) := by
  by_cases h : drE xs n p d = 0
  · exact (dr_once hb h).2.2.2.1
  · rw [drN, if_neg h]; unfold isU; omega
theorem rdL_okV {xs : List Int} {n : Int} (hb : isByte xs) (k : Nat) : ∀ p d, okV (rdL xs n k p d) := by
  induction k with
  | zero => intro p d x hx; simp [rdL] at hx
  | succ k ih =>
    intro p d x hx
    rw [rdL] at hx
    rcases List.mem_cons.1 hx with rfl | hx
    · exact drN_isU hb
    · exact ih _ _ x hx
theorem okV_wf {l : List Int} (h : okV l) : ∀ x ∈ l, (Lit.int .u32 x).wf = true := by
  intro x hx
  have := h x hx
  unfold isU at this
  exact M05.wf_u32 this.1 this.2

/-- The answers, where the bits are valid and m is no error. -/
theorem de_ok {xs : List Int} {n m : Int} (hok : okB xs n = true) (h0 : 0 ≤ m) (h1 : m ≤ 4000) : deE xs n m = rdE xs n m.toNat 0 stD := by
  rw [deE, if_pos hok, if_neg (by omega), if_neg (by omega)]
theorem de_stop {xs : List Int} {n m : Int} (hok : okB xs n = true) (h0 : 0 ≤ m) (h1 : m ≤ 4000) {k : Nat} (hk : (k : Int) < m) (hE : rdE xs n k 0 stD = 0) (hne : drE xs n (rdP xs n k 0 stD) (rdT xs n k 0 stD) ≠ 0) :
    deE xs n m = drE xs n (rdP xs n k 0 stD) (rdT xs n k 0 stD) ∧ deL xs n m = [] ∧ deX xs n m = 0 := by
  have e1 := rdE_snoc xs n k 0 stD hE
  have e2 := rdE_stop xs n (k + 1) (m.toNat - (k + 1)) 0 stD (by rw [e1]; exact hne)
  rw [show k + 1 + (m.toNat - (k + 1)) = m.toNat by omega, e1] at e2
  have e : deE xs n m = drE xs n (rdP xs n k 0 stD) (rdT xs n k 0 stD) := by rw [de_ok hok h0 h1, e2]
  exact ⟨e, by rw [deL, if_neg (by rw [e]; exact hne)], by rw [deX, if_neg (by rw [e]; exact hne)]⟩
theorem de_all {xs : List Int} {n m : Int} (hok : okB xs n = true) (h0 : 0 ≤ m) (h1 : m ≤ 4000) {k : Nat} (hk : (k : Int) = m) (hE : rdE xs n k 0 stD = 0) :
    deE xs n m = 0 ∧ deL xs n m = rdL xs n k 0 stD ∧ deX xs n m = rdP xs n k 0 stD := by
  obtain rfl : k = m.toNat := by omega
  have e : deE xs n m = 0 := by rw [de_ok hok h0 h1, hE]
  exact ⟨e, by rw [deL, if_pos e], by rw [deX, if_pos e]⟩
theorem de_none {xs : List Int} {n m : Int} (h : deE xs n m ≠ 0) : deL xs n m = [] ∧ deX xs n m = 0 := ⟨by rw [deL, if_neg h], by rw [deX, if_neg h]⟩
end Go.Proofs.Ytmnhepcnbdbhoaa.M09

namespace Go.Proofs.Ytmnhepcnbdbhoaa.M10
open Go.Proofs.Ytmnhepcnbdbhoaa.M01 Go.Proofs.Ytmnhepcnbdbhoaa.M02 Go.Proofs.Ytmnhepcnbdbhoaa.M06 Go.Proofs.Ytmnhepcnbdbhoaa.M07 Go.Proofs.Ytmnhepcnbdbhoaa.M08
set_option linter.unusedVariables false

theorem mid_same {X Y a r m : Int} (h : X % p2 a = Y % p2 a) (hr : 0 ≤ r) (hm : 0 ≤ m) (ha : r + m ≤ a) : X / p2 r % p2 m = Y / p2 r % p2 m := by
  have hp := p2_pos r
  have hq := p2_pos m
  have e : p2 a = p2 (r + m) * p2 (a - (r + m)) := by rw [← p2_add (by omega) (by omega)]; congr 1; omega
  have h2 : X % p2 (r + m) = Y % p2 (r + m) := by
    have h3 : X % p2 a % p2 (r + m) = Y % p2 a % p2 (r + m) := by rw [h]
    rw [e, Int.emod_emod_of_dvd _ (Int.dvd_mul_right ..), Int.emod_emod_of_dvd _ (Int.dvd_mul_right ..)] at h3
    exact h3
  rw [p2_add hr hm] at h2
  rw [← emod_ediv_mul X _ _ (by omega) (by omega), ← emod_ediv_mul Y _ _ (by omega) (by omega), h2]
theorem low_same {X Y a m : Int} (h : X % p2 a = Y % p2 a) (hm : 0 ≤ m) (ha : m ≤ a) : X % p2 m = Y % p2 m := by
  have := mid_same h (Int.le_refl 0) hm (by omega)
  rwa [p2_zero, Int.ediv_one, Int.ediv_one] at this

theorem cq_same {X Y a : Int} (h : X % p2 a = Y % p2 a) (ha : runS (cq X) ≤ a) : cq Y = cq X := by
  have hc := cq_bd X
  have hs := runS_bd hc.1 hc.2
  have h1 := low_same h (show 0 ≤ runS (cq X) by omega) ha
  rw [cq_low] at h1
  have h2 := Int.emod_add_mul_ediv Y (p2 (runS (cq X)))
  rw [← h1, Int.mul_comm] at h2
  have := cnt_runS hc.1 hc.2 (Y / p2 (runS (cq X)))
  rw [h2] at this
  exact this

/-- Bits with others behind them. -/
def extB (xs : List Int) (n : Int) (ys : List Int) (m : Int) : Prop := okB xs n = true ∧ okB ys m = true ∧ n ≤ m ∧ val ys % p2 n = val xs ∧ isByte xs

theorem ext_same {xs ys : List Int} {n m p : Int} (h : extB xs n ys m) (hp : 0 ≤ p) (hpn : p ≤ n) : val xs / p2 p % p2 (n - p) = val ys / p2 p % p2 (n - p) := by
  obtain ⟨h1, h2, h3, h4, h5⟩ := h
  refine mid_same (a := n) ?_ hp (by omega) (by omega)
  have := okB_iff.1 h1
  rw [h4, Int.emod_eq_of_lt (val_nonneg h5) this.2.2.2]

theorem rr_ext {xs ys : List Int} {n m p k : Int} (h : extB xs n ys m) (hp : 0 ≤ p) (h0 : 0 ≤ k) (h1 : k ≤ 24) (hE : rrE xs n p k = 0 ∨ rrE xs n p k = 12) :
    rrE ys m p k = rrE xs n p k ∧ dcN (val ys / p2 p) k = dcN (val xs / p2 p) k ∧ dcS (val ys / p2 p) k = dcS (val xs / p2 p) k ∧ p + dcS (val xs / p2 p) k ≤ n := by
  have hh := h
  obtain ⟨hx, hy, hnm, hv, hb⟩ := hh
  have hR : rdE xs n p = 0 := by
    by_cases g : rdE xs n p = 0
    · exact g
    · exfalso
      have e : rrE xs n p k = rdE xs n p := by rw [rrE, if_pos hx, if_neg (by omega), if_pos g]
      rw [e] at hE
      rw [rdE, if_pos hx, if_neg (by omega)] at hE g
      by_cases g1 : n ≤ p
      · rw [if_pos g1] at hE; omega
      · rw [if_neg g1] at hE g
        by_cases g2 : ons xs p < 48 ∧ n ≤ p + ons xs p
        · rw [if_pos g2] at hE; omega
        · rw [if_neg g2] at g; exact g rfl
  have hpn : p < n := by
    by_cases g : p < n
    · exact g
    · rw [rdE, if_pos hx, if_neg (by omega), if_pos (by omega)] at hR; omega
  have hin := ons_in hb hx hp (by omega)
  have hob := ons_bd xs p
  have hrun : p + runS (ons xs p) ≤ n := by
    by_cases g : ons xs p = 48
    · rw [g, runS_48]; omega
    · rw [runS_lt (by omega)]
      by_cases g2 : n ≤ p + ons xs p
      · rw [rdE, if_pos hx, if_neg (by omega), if_neg (by omega), if_pos ⟨by omega, g2⟩] at hR; omega
      · omega
  have hRX : rdX xs n p = p + runS (ons xs p) := by rw [rdX, if_pos hR]
  rw [ons_cq] at hrun hRX
  have hXY := ext_same h hp (by omega)
  have hcq : cq (val ys / p2 p) = cq (val xs / p2 p) := cq_same hXY (by omega)
  have hsh : ¬ n - rdX xs n p < dcM (val xs / p2 p) k := by
    intro g
    rw [rrE, if_pos hx, if_neg (by omega), if_neg (by rw [hR]; simp), if_pos g] at hE; omega
  have hcb := cq_bd (val xs / p2 p)
  have hrs := runS_bd hcb.1 hcb.2
  have hdm := bhS_bd (cq (val xs / p2 p)) h0 h1
  have hM : dcM (val ys / p2 p) k = dcM (val xs / p2 p) k := by unfold dcM; rw [hcq]
  have hMb : 0 ≤ dcM (val xs / p2 p) k := hdm.1
  have hG : dcG (val ys / p2 p) k = dcG (val xs / p2 p) k := by
    unfold dcG
    rw [hM, hcq]
    exact (mid_same hXY (by omega) hMb (by omega)).symm
  have hN : dcN (val ys / p2 p) k = dcN (val xs / p2 p) k := by unfold dcN; rw [hcq, hG]
  have hS : dcS (val ys / p2 p) k = dcS (val xs / p2 p) k := by unfold dcS; rw [hcq, hM]
  have hRy : rdE ys m p = 0 := by
    rw [rdE, if_pos hy, if_neg (by omega), if_neg (by omega), if_neg ?_]
    rw [ons_cq, hcq, ← ons_cq]
    intro g
    have := runS_lt g.1
    rw [ons_cq] at this g
    omega
  have hRXy : rdX ys m p = rdX xs n p := by rw [hRX, rdX, if_pos hRy, ons_cq, hcq]
  refine ⟨?_, hN, hS, by unfold dcS; omega⟩
  have e1 : rrE xs n p k = if qP (dcN (val xs / p2 p) k) k ≠ cq (val xs / p2 p) then 12 else 0 := by
    rw [rrE, if_pos hx, if_neg (by omega), if_neg (by rw [hR]; simp), if_neg hsh]
  have e2 : rrE ys m p k = if qP (dcN (val ys / p2 p) k) k ≠ cq (val ys / p2 p) then 12 else 0 := by
    rw [rrE, if_pos hy, if_neg (by omega), if_neg (by rw [hRy]; simp), if_neg (by rw [hRXy, hM]; omega)]
  rw [e1, e2, hN, hcq]

/-- A number that is read of the first bits, or a wrong code there. -/
theorem dr_ext {xs ys : List Int} {n m p : Int} {d : D4} (h : extB xs n ys m) (hd : okD d = true) (hp : 0 ≤ p) (hE : drE xs n p d = 0 ∨ drE xs n p d = 12) :
    drE ys m p d = drE xs n p d ∧ drN ys m p d = drN xs n p d ∧ drX ys m p d = drX xs n p d ∧ drD ys m p d = drD xs n p d := by
  have hh := h
  obtain ⟨hx, hy, hnm, hv, hb⟩ := hh
  obtain ⟨a0, a1, b0, b1, _, _⟩ := okD_iff.1 hd
  have hpn : p < n := by
    by_cases g : p < n
    · exact g
    · rw [drE, if_pos (And.intro hx hd), if_neg (by omega), if_pos (by omega)] at hE; omega
  have hXY := ext_same h hp (by omega)
  have hbit : val ys / p2 p % 2 = val xs / p2 p % 2 := by
    have := low_same hXY (show (0 : Int) ≤ 1 by omega) (by omega)
    rw [p2_1] at this; exact this.symm
  have key : drE ys m p d = drE xs n p d ∧ dnN (val ys / p2 p) d = dnN (val xs / p2 p) d ∧ dnS (val ys / p2 p) d = dnS (val xs / p2 p) d := by
    by_cases h0 : val xs / p2 p % 2 = 0
    · have hs : ¬ n - p - 1 < d.a := by
        intro g
        rw [drE, if_pos (And.intro hx hd), if_neg (by omega), if_neg (by omega), if_pos h0, if_pos g] at hE; omega
      refine ⟨?_, ?_, ?_⟩
      · have e1 : drE xs n p d = 0 := by rw [drE, if_pos (And.intro hx hd), if_neg (by omega), if_neg (by omega), if_pos h0, if_neg hs]
        have e2 : drE ys m p d = 0 := by rw [drE, if_pos (And.intro hy hd), if_neg (by omega), if_neg (by omega), hbit, if_pos h0, if_neg (by omega)]
        rw [e1, e2]
      · unfold dnN
        rw [hbit, if_pos h0, if_pos h0]
        have := mid_same hXY (show (0 : Int) ≤ 1 by omega) a0 (by omega)
        rw [p2_1] at this; exact this.symm
      · unfold dnS; rw [hbit, if_pos h0, if_pos h0]
    · have e1 : drE xs n p d = if rrE xs n (p + 1) d.b ≠ 0 then rrE xs n (p + 1) d.b else if 4294967295 < rrN xs n (p + 1) d.b + p2 d.a then 12 else 0 := by
        rw [drE, if_pos (And.intro hx hd), if_neg (by omega), if_neg (by omega), if_neg h0]
      have e2 : drE ys m p d = if rrE ys m (p + 1) d.b ≠ 0 then rrE ys m (p + 1) d.b else if 4294967295 < rrN ys m (p + 1) d.b + p2 d.a then 12 else 0 := by
        rw [drE, if_pos (And.intro hy hd), if_neg (by omega), if_neg (by omega), hbit, if_neg h0]
      have hr : rrE xs n (p + 1) d.b = 0 ∨ rrE xs n (p + 1) d.b = 12 := by
        by_cases g : rrE xs n (p + 1) d.b = 0
        · exact .inl g
        · rw [e1, if_pos g] at hE; rcases hE with q | q
          · exact absurd q g
          · exact .inr q
      obtain ⟨r1, r2, r3, r4⟩ := rr_ext h (show 0 ≤ p + 1 by omega) b0 b1 hr
      have r5 : rrN ys m (p + 1) d.b = rrN xs n (p + 1) d.b := by rw [rrN, rrN, r1, r2]
      rw [next_val hp, next_val hp] at r2 r3
      refine ⟨by rw [e1, e2, r1, r5], ?_, ?_⟩
      · unfold dnN; rw [hbit, if_neg h0, if_neg h0, r2]
      · unfold dnS; rw [hbit, if_neg h0, if_neg h0, r3]
  obtain ⟨k1, k2, k3⟩ := key
  exact ⟨k1, by rw [drN, drN, k1, k2], by rw [drX, drX, k1, k3], by rw [drD, drD, k1, k2]⟩

/-- Too few bits: at most 80. -/
theorem dr_few {xs : List Int} {n p : Int} {d : D4} (hx : okB xs n = true) (hd : okD d = true) (hp : 0 ≤ p) (hE : drE xs n p d = 24) : n - p ≤ 80 := by
  obtain ⟨a0, a1, b0, b1, _, _⟩ := okD_iff.1 hd
  by_cases h0 : n ≤ p
  · omega
  rw [drE, if_pos (And.intro hx hd), if_neg (by omega), if_neg h0] at hE
  by_cases h1 : val xs / p2 p % 2 = 0
  · rw [if_pos h1] at hE
    by_cases h2 : n - p - 1 < d.a
    · omega
    · rw [if_neg h2] at hE; omega
  rw [if_neg h1] at hE
  by_cases h3 : rrE xs n (p + 1) d.b = 0
  · rw [if_neg (by rw [h3]; simp)] at hE
    split at hE <;> omega
  rw [if_pos h3] at hE
  have hob := ons_bd xs (p + 1)
  have hrs := runS_bd hob.1 hob.2
  rw [rrE, if_pos hx, if_neg (by omega)] at hE
  by_cases h4 : rdE xs n (p + 1) = 0
  · rw [if_neg (by rw [h4]; simp)] at hE
    have hRX : rdX xs n (p + 1) = p + 1 + runS (ons xs (p + 1)) := by rw [rdX, if_pos h4]
    have hdm := bhS_bd (cq (val xs / p2 (p + 1))) b0 b1
    have hM : dcM (val xs / p2 (p + 1)) d.b ≤ 32 := hdm.2.1
    by_cases h5 : n - rdX xs n (p + 1) < dcM (val xs / p2 (p + 1)) d.b
    · omega
    · rw [if_neg h5] at hE
      split at hE <;> omega
  · rw [rdE, if_pos hx, if_neg (by omega)] at h4
    by_cases h6 : n ≤ p + 1
    · omega
    · rw [if_neg h6] at h4
      by_cases h7 : ons xs (p + 1) < 48 ∧ n ≤ p + 1 + ons xs (p + 1)
      · omega
      · rw [if_neg h7] at h4; exact absurd rfl h4
end Go.Proofs.Ytmnhepcnbdbhoaa.M10

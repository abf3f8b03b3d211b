/- Plain facts on bits: a list of bytes as one number, cut and joined. No Go here. -/
import Derived.Test.YtbhoodhcipegbaaMath01
import Derived.Laws.BitsLemmas
namespace Go.Proofs.Ytbhoodhcipegbaa.M02
open Go.Proofs.Ytbhoodhcipegbaa.M01

/-- How many bytes n bits have. -/
def sz (n : Int) : Nat := ((n + 7) / 8).toNat
/-- The bytes of the n bits of V. -/
def bl (n V : Int) : List Int := digs V (sz n)
/-- Bits that are valid. -/
def okB (xs : List Int) (n : Int) : Bool := decide (0 ≤ n ∧ n ≤ 330000 ∧ (xs.length : Int) = (n + 7) / 8 ∧ val xs < 2 ^ n.toNat)
def p2 (n : Int) : Int := 2 ^ n.toNat

theorem p2_pos (n : Int) : 1 ≤ p2 n := by
  have : (0 : Int) < 2 ^ n.toNat := Int.pow_pos (by omega)
  unfold p2; omega
theorem two_pos (k : Nat) : 1 ≤ (2 : Int) ^ k := by
  have : (0 : Int) < 2 ^ k := Int.pow_pos (by omega)
  omega
theorem p2_add {n m : Int} (hn : 0 ≤ n) (hm : 0 ≤ m) : p2 (n + m) = p2 n * p2 m := by
  unfold p2; rw [show (n + m).toNat = n.toNat + m.toNat by omega, Int.pow_add]
theorem p2_le {n m : Int} (h : n ≤ m) : p2 n ≤ p2 m := by
  unfold p2
  obtain ⟨k, hk⟩ : ∃ k, m.toNat = n.toNat + k := ⟨m.toNat - n.toNat, by omega⟩
  rw [hk, Int.pow_add]
  have h1 := two_pos n.toNat
  have h2 := Int.mul_le_mul_of_nonneg_left (two_pos k) (show 0 ≤ (2 : Int) ^ n.toNat by omega)
  rw [Int.mul_one] at h2; exact h2
theorem p2_pw (j : Nat) : p2 (8 * (j : Int)) = pw j := by
  unfold p2 pw; rw [show (8 * (j : Int)).toNat = 8 * j by omega, Int.pow_mul]; rfl
theorem p2_zero : p2 0 = 1 := rfl
theorem p2_8 : p2 8 = 256 := by decide +kernel
theorem p2_64 : p2 64 = 18446744073709551616 := by decide +kernel
theorem p2_split {n : Int} (hn : 0 ≤ n) : p2 n = pw (n / 8).toNat * p2 (n % 8) := by
  have := p2_add (show 0 ≤ 8 * ((n / 8).toNat : Int) by omega) (show 0 ≤ n % 8 by omega)
  rw [p2_pw] at this
  rw [← this]; congr 1; omega
theorem p2_small (s : Int) (h0 : 0 ≤ s) (h1 : s ≤ 8) : (s = 0 ∧ p2 s = 1) ∨ (s = 1 ∧ p2 s = 2) ∨ (s = 2 ∧ p2 s = 4) ∨ (s = 3 ∧ p2 s = 8) ∨ (s = 4 ∧ p2 s = 16) ∨ (s = 5 ∧ p2 s = 32) ∨ (s = 6 ∧ p2 s = 64) ∨ (s = 7 ∧ p2 s = 128) ∨ (s = 8 ∧ p2 s = 256) := by
  rcases (show s = 0 ∨ s = 1 ∨ s = 2 ∨ s = 3 ∨ s = 4 ∨ s = 5 ∨ s = 6 ∨ s = 7 ∨ s = 8 by omega) with rfl | rfl | rfl | rfl | rfl | rfl | rfl | rfl | rfl <;> simp [p2]

theorem okB_iff {xs : List Int} {n : Int} : okB xs n = true ↔ 0 ≤ n ∧ n ≤ 330000 ∧ (xs.length : Int) = (n + 7) / 8 ∧ val xs < p2 n := by
  unfold okB p2; rw [decide_eq_true_iff]

theorem sz_nat {n : Int} (h : 0 ≤ n) : (sz n : Int) = (n + 7) / 8 := by unfold sz; omega
theorem sz_le {n m : Int} (h : n ≤ m) : sz n ≤ sz m := by unfold sz; omega

theorem bl_length (n V : Int) : (bl n V).length = sz n := digs_length _ _
theorem bl_byte (n V : Int) : isByte (bl n V) := digs_byte _ _

/-- What is valid is the bytes of its number. -/
theorem ok_eq {xs : List Int} {n : Int} (hb : isByte xs) (h : okB xs n = true) : xs = bl n (val xs) := by
  obtain ⟨h0, _, hl, _⟩ := okB_iff.1 h
  unfold bl
  rw [show sz n = xs.length by have := sz_nat h0; omega, digs_val xs hb]

theorem p2_sz {n : Int} (h : 0 ≤ n) : p2 n ≤ pw (sz n) := by
  rw [← p2_pw]; exact p2_le (by have := sz_nat h; omega)

theorem val_bl {n V : Int} (hn : 0 ≤ n) (h0 : 0 ≤ V) (h1 : V < p2 n) : val (bl n V) = V := by
  unfold bl; exact val_digs_fit V _ h0 (by have := p2_sz hn; omega)

theorem ok_bl {n V : Int} (hn : 0 ≤ n) (hm : n ≤ 330000) (h0 : 0 ≤ V) (h1 : V < p2 n) : okB (bl n V) n = true :=
  okB_iff.2 ⟨hn, hm, by rw [bl_length]; exact sz_nat hn, by rw [val_bl hn h0 h1]; exact h1⟩

theorem val_at {xs : List Int} (hb : isByte xs) {j : Nat} (hj : j < xs.length) : val xs / pw j % 256 = xs.getD j 0 := by
  rw [← digs_getD (val xs) xs.length j hj, digs_val xs hb]

theorem val_past {xs : List Int} (hb : isByte xs) {j : Nat} (hj : xs.length ≤ j) : val xs / pw j = 0 := by
  apply Int.ediv_eq_zero_of_lt (val_nonneg hb)
  have := val_lt hb
  have := pw_le hj
  omega

theorem div_p2 (A : Int) {n : Int} (hn : 0 ≤ n) : A / p2 n = A / pw (n / 8).toNat / p2 (n % 8) := by
  rw [p2_split hn, ← Int.ediv_ediv_of_nonneg (by have := pw_pos (n / 8).toNat; omega)]

/-- The bit with an index. -/
theorem val_bit {xs : List Int} (hb : isByte xs) {i : Int} (h0 : 0 ≤ i) (hi : i < 8 * xs.length) :
    xs.getD (i / 8).toNat 0 / p2 (i % 8) % 2 = val xs / p2 i % 2 := by
  have h1 := val_at hb (show (i / 8).toNat < xs.length by omega)
  rw [div_p2 _ h0]
  rcases p2_small (i % 8) (by omega) (by omega) with ⟨_, e⟩ | ⟨_, e⟩ | ⟨_, e⟩ | ⟨_, e⟩ | ⟨_, e⟩ | ⟨_, e⟩ | ⟨_, e⟩ | ⟨_, e⟩ | ⟨_, e⟩ <;> rw [e] <;> omega

/-- Whether the bits behind the last one are 0 is seen at the last byte. -/
theorem ok_last {xs : List Int} {n : Int} (hb : isByte xs) (h0 : 0 ≤ n) (hl : (xs.length : Int) = (n + 7) / 8) :
    val xs < p2 n ↔ (n % 8 = 0 ∨ xs.getD (n / 8).toNat 0 / p2 (n % 8) = 0) := by
  have hlt := val_lt hb
  have hnn := val_nonneg hb
  by_cases h8 : n % 8 = 0
  · have : p2 n = pw xs.length := by rw [← p2_pw]; congr 1; omega
    rw [this]; exact ⟨fun _ => .inl h8, fun _ => hlt⟩
  · have hj : xs.length = (n / 8).toNat + 1 := by omega
    have h1 := val_at hb (show (n / 8).toNat < xs.length by omega)
    have h2 := val_past hb (show xs.length ≤ (n / 8).toNat + 1 by omega)
    rw [pw_succ, Int.mul_comm, ← Int.ediv_ediv_of_nonneg (by have := pw_pos (n / 8).toNat; omega)] at h2
    have e := div_p2 (val xs) h0
    have hp := p2_pos n
    have h3 : val xs / pw (n / 8).toNat = xs.getD (n / 8).toNat 0 := by omega
    rw [h3] at e
    rw [← e]
    constructor
    · intro h; exact .inr (Int.ediv_eq_zero_of_lt hnn h)
    · rintro (h | h)
      · exact absurd h h8
      · by_cases hq : val xs < p2 n
        · exact hq
        · have := Int.ediv_pos_of_pos_of_dvd (a := p2 n) (b := p2 n) (by omega) (by omega) (Int.dvd_refl _)
          have h4 := Int.ediv_le_ediv (show 0 < p2 n by omega) (show p2 n ≤ val xs by omega)
          rw [Int.ediv_self (by omega)] at h4
          omega

theorem mod_p2_succ (A : Int) {i : Int} (h : 0 ≤ i) : A % p2 (i + 1) = A % p2 i + A / p2 i % 2 * p2 i := by
  rw [p2_add h (by omega), show p2 1 = 2 from rfl]
  have h1 := Int.emod_add_mul_ediv A (p2 i)
  have h2 := Int.emod_add_mul_ediv (A / p2 i) 2
  have hp := p2_pos i
  have h3 : A = (A % p2 i + A / p2 i % 2 * p2 i) + (p2 i * 2) * (A / p2 i / 2) := by
    have : p2 i * (A / p2 i) = A / p2 i % 2 * p2 i + p2 i * 2 * (A / p2 i / 2) := by
      rw [Int.mul_comm (A / p2 i % 2), Int.mul_assoc, ← Int.mul_add, h2]
    omega
  have hr0 := Int.emod_nonneg A (show p2 i ≠ 0 by omega)
  have hr1 := Int.emod_lt_of_pos A (show 0 < p2 i by omega)
  have hq : A / p2 i % 2 = 0 ∨ A / p2 i % 2 = 1 := by omega
  conv => lhs; rw [h3]
  rw [Int.add_mul_emod_self_left]
  apply Int.emod_eq_of_lt
  · rcases hq with e | e <;> rw [e] <;> omega
  · rcases hq with e | e <;> rw [e] <;> omega

/-- Bytes behind a place. -/
theorem digs_split (L H : Int) (j m : Nat) (h0 : 0 ≤ L) (h1 : L < pw j) : digs (L + H * pw j) (j + m) = digs L j ++ digs H m := by
  induction j generalizing L with
  | zero =>
    have : L = 0 := by rw [pw_zero] at h1; omega
    subst this; simp [digs, pw_zero]
  | succ j ih =>
    rw [show j + 1 + m = (j + m) + 1 by omega]
    simp only [digs, List.cons_append]
    rw [pw_succ] at h1 ⊢
    have e : L + H * (256 * pw j) = L + 256 * (H * pw j) := by rw [Int.mul_left_comm]
    have e2 : (L + H * (256 * pw j)) / 256 = L / 256 + H * pw j := by rw [e]; omega
    rw [e2, ih (L / 256) (by omega) (by omega)]
    rw [e]; congr 1; omega

theorem digs_zero (m : Nat) : digs 0 m = List.replicate m 0 := by
  induction m with
  | zero => rfl
  | succ m ih => rw [digs, List.replicate_succ, ← ih]; rfl

/-- The round of what is put behind: a byte x from the bit s of the byte j on, where all from there on is 0. -/
theorem row_put (L y x s : Int) (j m : Nat) (h0 : 0 ≤ L) (h1 : L < pw j) (hs0 : 0 ≤ s) (hs : s < 8) (hy0 : 0 ≤ y) (hy : y < p2 s) (hx0 : 0 ≤ x) (hx : x < 256)
    (hfit : L + (y + x * p2 s) * pw j < pw (j + m)) (hm : 0 < m) :
    (digs (L + y * pw j) (j + m)).getD j 0 = y ∧ (x / p2 (8 - s) ≠ 0 → 1 < m) ∧ y + x * p2 s % 256 < 256 ∧
    digs (L + (y + x * p2 s) * pw j) (j + m) = (if x / p2 (8 - s) = 0 then (digs (L + y * pw j) (j + m)).set j (y + x * p2 s % 256) else ((digs (L + y * pw j) (j + m)).set j (y + x * p2 s % 256)).set (j + 1) (x / p2 (8 - s))) := by
  have hp := pw_pos j
  have e1 : x * p2 s = 256 * (x / p2 (8 - s)) + x * p2 s % 256 ∧ y + x * p2 s % 256 < 256 ∧ y < 256 ∧ x / p2 (8 - s) < 256 ∧ 0 ≤ x / p2 (8 - s) ∧ 0 ≤ x * p2 s % 256 := by
    rcases (show s = 0 ∨ s = 1 ∨ s = 2 ∨ s = 3 ∨ s = 4 ∨ s = 5 ∨ s = 6 ∨ s = 7 by omega) with rfl | rfl | rfl | rfl | rfl | rfl | rfl | rfl <;> simp [p2] at hy ⊢ <;> omega
  obtain ⟨e1, e2, e3, e4, e5, e6⟩ := e1
  generalize x / p2 (8 - s) = q at *
  generalize hr : x * p2 s % 256 = r at *
  rw [e1] at hfit ⊢
  clear hr e1
  obtain ⟨m, rfl⟩ : ∃ k, m = k + 1 := ⟨m - 1, by omega⟩
  rw [digs_split L y j (m + 1) h0 h1, digs_split L _ j (m + 1) h0 h1]
  have d1 : digs y (m + 1) = y :: List.replicate m 0 := by
    rw [digs, show y / 256 = 0 by omega, digs_zero, show y % 256 = y by omega]
  have d2 : digs (y + (256 * q + r)) (m + 1) = (y + r) :: digs q m := by
    rw [digs]; congr 1
    · omega
    · congr 1; omega
  have hmq : q ≠ 0 → 1 < m + 1 := by
    intro hq
    rcases Nat.eq_zero_or_pos m with rfl | hm'
    · exfalso
      rw [pw_succ j] at hfit
      have : 256 * pw j ≤ (y + (256 * q + r)) * pw j := Int.mul_le_mul_of_nonneg_right (by omega) (by omega)
      omega
    · omega
  refine ⟨?_, hmq, e2, ?_⟩
  · rw [d1, List.getD_eq_getElem?_getD, List.getElem?_append_right (by rw [digs_length]; omega), digs_length]; simp
  · rw [d1, d2]
    have hl : (digs L j).length = j := digs_length _ _
    by_cases hq : q = 0
    · rw [if_pos hq, hq, digs_zero, List.set_append_right _ _ (by omega), hl]; simp
    · rw [if_neg hq]
      obtain ⟨m, rfl⟩ : ∃ k, m = k + 1 := ⟨m - 1, by have := hmq hq; omega⟩
      rw [List.set_append_right _ _ (by omega), List.set_append_right _ _ (by omega), hl, digs, show q / 256 = 0 by omega, show q % 256 = q by omega, digs_zero]
      simp [List.replicate_succ]

theorem pw_add (i j : Nat) : pw (i + j) = pw i * pw j := by unfold pw; exact Int.pow_add ..

theorem div_at (A : Int) {n : Int} (hn : 0 ≤ n) (i : Nat) : A / p2 n / pw i = A / pw ((n / 8).toNat + i) / p2 (n % 8) := by
  have h1 := pw_pos (n / 8).toNat
  have h2 := p2_pos (n % 8)
  have h3 := pw_pos i
  rw [div_p2 A hn, pw_add, Int.ediv_ediv_of_nonneg (show 0 ≤ p2 (n % 8) by omega), ← Int.ediv_ediv_of_nonneg (show 0 ≤ pw (n / 8).toNat by omega), Int.mul_comm (p2 (n % 8)), Int.ediv_ediv_of_nonneg (show 0 ≤ pw i by omega)]

/-- Eight bits from an index on, out of one byte or two. -/
theorem eight_eq {xs : List Int} (hb : isByte xs) {n : Int} (hn : 0 ≤ n) (i : Nat) (hj : (n / 8).toNat + i < xs.length) :
    val xs / p2 n / pw i % 256 = xs.getD ((n / 8).toNat + i) 0 / p2 (n % 8) + (if (n / 8).toNat + i + 1 < xs.length then xs.getD ((n / 8).toNat + i + 1) 0 * p2 (8 - n % 8) % 256 else 0) := by
  rw [div_at _ hn]
  generalize hJ : (n / 8).toNat + i = J at *
  have h1 := val_at hb hj
  have h2 : val xs / pw J / 256 % 256 = (if J + 1 < xs.length then xs.getD (J + 1) 0 else 0) ∧ (¬ J + 1 < xs.length → val xs / pw J / 256 = 0) := by
    have e : val xs / pw J / 256 = val xs / pw (J + 1) := by rw [pw_succ, Int.mul_comm, Int.ediv_ediv_of_nonneg (by have := pw_pos J; omega)]
    rw [e]
    by_cases h : J + 1 < xs.length
    · rw [if_pos h]; exact ⟨val_at hb h, fun h' => absurd h h'⟩
    · rw [if_neg h, val_past hb (by omega)]; exact ⟨rfl, fun _ => rfl⟩
  obtain ⟨h2, h3⟩ := h2
  generalize xs.getD J 0 = y at *
  generalize xs.getD (J + 1) 0 = z at *
  by_cases h : J + 1 < xs.length
  · rw [if_pos h] at h2 ⊢
    rcases (show n % 8 = 0 ∨ n % 8 = 1 ∨ n % 8 = 2 ∨ n % 8 = 3 ∨ n % 8 = 4 ∨ n % 8 = 5 ∨ n % 8 = 6 ∨ n % 8 = 7 by omega) with e | e | e | e | e | e | e | e <;> rw [e] <;> simp [p2] <;> omega
  · rw [if_neg h] at h2 ⊢
    have h3 := h3 h
    rcases (show n % 8 = 0 ∨ n % 8 = 1 ∨ n % 8 = 2 ∨ n % 8 = 3 ∨ n % 8 = 4 ∨ n % 8 = 5 ∨ n % 8 = 6 ∨ n % 8 = 7 by omega) with e | e | e | e | e | e | e | e <;> rw [e] <;> simp [p2] <;> omega

theorem getD_drop (xs : List Int) (d i : Nat) : (xs.drop d).getD i 0 = xs.getD (d + i) 0 := by
  rw [List.getD_eq_getElem?_getD, List.getD_eq_getElem?_getD, List.getElem?_drop]

theorem mod_pw_succ (X : Int) (i : Nat) : X % pw (i + 1) = X % pw i + X / pw i % 256 * pw i := by
  have hp := pw_pos i
  have h1 := Int.emod_add_mul_ediv X (pw i)
  have h2 := Int.emod_add_mul_ediv (X / pw i) 256
  have hr0 := Int.emod_nonneg X (show pw i ≠ 0 by omega)
  have hr1 := Int.emod_lt_of_pos X (show 0 < pw i by omega)
  have h3 : X = (X % pw i + X / pw i % 256 * pw i) + pw (i + 1) * (X / pw i / 256) := by
    have : pw i * (X / pw i) = X / pw i % 256 * pw i + pw (i + 1) * (X / pw i / 256) := by
      rw [pw_succ, Int.mul_comm 256, Int.mul_comm (X / pw i % 256), Int.mul_assoc, ← Int.mul_add, h2]
    omega
  have h4 : 0 ≤ X / pw i % 256 * pw i := Int.mul_nonneg (by omega) (by omega)
  have h5 : (X / pw i % 256 + 1) * pw i ≤ 256 * pw i := Int.mul_le_mul_of_nonneg_right (by omega) (by omega)
  rw [Int.add_mul, Int.one_mul] at h5
  conv => lhs; rw [h3]
  rw [Int.add_mul_emod_self_left]
  apply Int.emod_eq_of_lt (by omega)
  rw [pw_succ]; omega

theorem join_lt {V X n m : Int} (hn : 0 ≤ n) (hm : 0 ≤ m) (hV : V < p2 n) (hX : X < p2 m) : V + X * p2 n < p2 (n + m) := by
  have hp := p2_pos n
  have h : (X + 1) * p2 n ≤ p2 m * p2 n := Int.mul_le_mul_of_nonneg_right (by omega) (by omega)
  rw [p2_add hn hm, Int.mul_comm (p2 n)]
  rw [Int.add_mul, Int.one_mul] at h
  omega

theorem mod_pw_lt (X : Int) (i : Nat) : 0 ≤ X % pw i ∧ X % pw i < pw i := by
  have hp := pw_pos i
  exact ⟨Int.emod_nonneg X (by omega), Int.emod_lt_of_pos X (by omega)⟩

theorem mod_pw_le {X : Int} (h : 0 ≤ X) (i : Nat) : X % pw i ≤ X := by
  have hp := pw_pos i
  have h1 := Int.emod_add_mul_ediv X (pw i)
  have h2 : 0 ≤ pw i * (X / pw i) := Int.mul_nonneg (by omega) (Int.ediv_nonneg h (by omega))
  omega

/-- A round of what puts bits behind others. -/
theorem behind_round (V n m X x : Int) (L i d : Nat) (hn : 0 ≤ n) (hd : (n / 8).toNat = d) (hV0 : 0 ≤ V) (hV : V < p2 n) (hm : 0 ≤ m) (hX0 : 0 ≤ X) (hX : X < p2 m) (hL : n + m ≤ 8 * (L : Int)) (hi : 8 * (i : Int) < m) (hx : X / pw i % 256 = x) :
    ∃ y, (digs (V + X % pw i * p2 n) L).getD (d + i) 0 = y ∧ 0 ≤ y ∧ y < p2 (n % 8) ∧ 0 ≤ x ∧ x < 256 ∧ d + i < L ∧ (x / p2 (8 - n % 8) ≠ 0 → d + i + 1 < L) ∧ y + x * p2 (n % 8) % 256 < 256 ∧
      digs (V + X % pw (i + 1) * p2 n) L = (if x / p2 (8 - n % 8) = 0 then (digs (V + X % pw i * p2 n) L).set (d + i) (y + x * p2 (n % 8) % 256) else ((digs (V + X % pw i * p2 n) L).set (d + i) (y + x * p2 (n % 8) % 256)).set (d + i + 1) (x / p2 (8 - n % 8))) := by
  have hp := pw_pos i
  have hpn := p2_pos n
  have hpj := pw_pos (d + i)
  have hps := p2_pos (n % 8)
  obtain ⟨e0, e1⟩ := mod_pw_lt X i
  have hj : d + i < L := by omega
  obtain ⟨k, rfl⟩ : ∃ k, L = d + i + k := ⟨L - (d + i), by omega⟩
  have hsplit : p2 n * pw i = p2 (n % 8) * pw (d + i) := by
    rw [p2_split hn, hd, pw_add, Int.mul_comm (pw d), Int.mul_assoc]
  have hA : V + X % pw i * p2 n < p2 (n % 8) * pw (d + i) := by
    rw [← hsplit]
    have h : (X % pw i + 1) * p2 n ≤ pw i * p2 n := Int.mul_le_mul_of_nonneg_right (by omega) (by omega)
    rw [Int.add_mul, Int.one_mul, Int.mul_comm (pw i)] at h
    omega
  have hA0 : 0 ≤ V + X % pw i * p2 n := by have := Int.mul_nonneg e0 (show 0 ≤ p2 n by omega); omega
  have hA' : V + X % pw (i + 1) * p2 n = V + X % pw i * p2 n + x * p2 (n % 8) * pw (d + i) := by
    rw [mod_pw_succ, hx, Int.add_mul, Int.mul_assoc x (pw i), Int.mul_comm (pw i), hsplit, Int.mul_assoc]; omega
  have hfit : V + X % pw (i + 1) * p2 n < pw (d + i + k) := by
    have h1 := Int.mul_le_mul_of_nonneg_right (mod_pw_le hX0 (i + 1)) (show 0 ≤ p2 n by omega)
    have h2 := join_lt hn hm hV hX
    have h3 : p2 (n + m) ≤ pw (d + i + k) := by rw [← p2_pw]; exact p2_le hL
    omega
  rw [hA'] at hfit ⊢
  generalize hAe : V + X % pw i * p2 n = A at *
  have hdm := Int.emod_add_mul_ediv A (pw (d + i))
  have hm0 := Int.emod_nonneg A (show pw (d + i) ≠ 0 by omega)
  have hm1 := Int.emod_lt_of_pos A (show 0 < pw (d + i) by omega)
  have hy0 : 0 ≤ A / pw (d + i) := Int.ediv_nonneg hA0 (by omega)
  have hy : A / pw (d + i) < p2 (n % 8) := by
    apply Int.ediv_lt_of_lt_mul (by omega) hA
  rw [Int.mul_comm] at hdm
  generalize A / pw (d + i) = y at *
  generalize A % pw (d + i) = L0 at *
  have hA2 : A + x * p2 (n % 8) * pw (d + i) = L0 + (y + x * p2 (n % 8)) * pw (d + i) := by rw [Int.add_mul]; omega
  rw [hA2] at hfit ⊢
  have h := row_put L0 y x (n % 8) (d + i) k hm0 hm1 (by omega) (by omega) hy0 hy (by omega) (by omega) hfit (by omega)
  rw [hdm] at h
  obtain ⟨h1, h2, h3, h4⟩ := h
  exact ⟨y, h1, hy0, hy, by omega, by omega, hj, fun h => by have := h2 h; omega, h3, h4⟩

/-- Check's answer. -/
def chkE (xs : List Int) (n : Int) : Int := if okB xs n then 0 else 8
/-- What Put answers. -/
def putE (xs : List Int) (n v m : Int) : Int := if okB xs n then (if m < 0 ∨ 64 < m then 2 else if p2 m ≤ v then 16 else if 330000 < n + m then 18 else 0) else 8
def putL (xs : List Int) (n v m : Int) : List Int := if putE xs n v m = 0 then bl (n + m) (val xs + v * p2 n) else []
def putN (xs : List Int) (n v m : Int) : Int := if putE xs n v m = 0 then n + m else 0
/-- What Get answers. -/
def getE (xs : List Int) (n at_ m : Int) : Int := if okB xs n then (if m < 0 ∨ 64 < m ∨ at_ < 0 then 2 else if n - at_ < m then 24 else 0) else 8
def getN (xs : List Int) (n at_ m : Int) : Int := if getE xs n at_ m = 0 then val xs / p2 at_ % p2 m else 0
/-- What Join answers. -/
def joE (xs : List Int) (n : Int) (ys : List Int) (m : Int) : Int := if okB xs n then (if okB ys m then (if 330000 < n + m then 18 else 0) else 8) else 8
def joL (xs : List Int) (n : Int) (ys : List Int) (m : Int) : List Int := if joE xs n ys m = 0 then bl (n + m) (val xs + val ys * p2 n) else []
def joN (xs : List Int) (n : Int) (ys : List Int) (m : Int) : Int := if joE xs n ys m = 0 then n + m else 0
/-- What Cut answers. -/
def cuE (xs : List Int) (n f t : Int) : Int := if okB xs n then (if f < 0 ∨ n < t ∨ t < f then 2 else 0) else 8
def cuL (xs : List Int) (n f t : Int) : List Int := if cuE xs n f t = 0 then bl (t - f) (val xs / p2 f % p2 (t - f)) else []
def cuN (xs : List Int) (n f t : Int) : Int := if cuE xs n f t = 0 then t - f else 0
/-- What Align answers. -/
def alL (xs : List Int) (n : Int) : List Int := if chkE xs n = 0 then xs else []
def alN (xs : List Int) (n : Int) : Int := if chkE xs n = 0 then 8 * xs.length else 0
/-- What Of answers. -/
def ofL (xs : List Int) : List Int := if xs.length ≤ 41250 then xs else []
def ofN (xs : List Int) : Int := if xs.length ≤ 41250 then 8 * xs.length else 0
def ofE (xs : List Int) : Int := if xs.length ≤ 41250 then 0 else 4

theorem emod_ediv_mul (Y a b : Int) (ha : 0 < a) (hb : 0 < b) : Y % (a * b) / a = Y / a % b := by
  have h1 := Int.emod_add_mul_ediv Y a
  have h2 := Int.emod_add_mul_ediv (Y / a) b
  have r0 := Int.emod_nonneg Y (show a ≠ 0 by omega)
  have r1 := Int.emod_lt_of_pos Y ha
  have s0 := Int.emod_nonneg (Y / a) (show b ≠ 0 by omega)
  have s1 := Int.emod_lt_of_pos (Y / a) hb
  have hY : Y = (Y % a + a * (Y / a % b)) + a * b * (Y / a / b) := by
    have : a * (Y / a) = a * (Y / a % b) + a * b * (Y / a / b) := by rw [Int.mul_assoc, ← Int.mul_add, h2]
    omega
  have t0 : 0 ≤ a * (Y / a % b) := Int.mul_nonneg (by omega) s0
  have t1 : a * (Y / a % b + 1) ≤ a * b := Int.mul_le_mul_of_nonneg_left (by omega) (by omega)
  rw [Int.mul_add, Int.mul_one] at t1
  conv => lhs; rw [hY]
  rw [Int.add_mul_emod_self_left, Int.emod_eq_of_lt (by omega) (by omega), Int.add_mul_ediv_left _ _ (by omega), Int.ediv_eq_zero_of_lt r0 r1, Int.zero_add]

theorem cut_byte (Y n : Int) (i : Nat) (h : 8 * (i : Int) < n) : Y % p2 n / pw i % 256 = Y / pw i % 256 % p2 (min (n - 8 * i) 64) := by
  have hp := pw_pos i
  have e : p2 n = pw i * p2 (n - 8 * i) := by
    rw [← p2_pw, ← p2_add (by omega) (by omega)]; congr 1; omega
  rw [e, emod_ediv_mul Y _ _ (by omega) (by have := p2_pos (n - 8 * i); omega)]
  generalize Y / pw i = Z
  by_cases h8 : n - 8 * i < 8
  · rw [show min (n - 8 * (i : Int)) 64 = n - 8 * i by omega]
    rcases (show n - 8 * (i : Int) = 1 ∨ n - 8 * (i : Int) = 2 ∨ n - 8 * (i : Int) = 3 ∨ n - 8 * (i : Int) = 4 ∨ n - 8 * (i : Int) = 5 ∨ n - 8 * (i : Int) = 6 ∨ n - 8 * (i : Int) = 7 by omega) with e | e | e | e | e | e | e <;> rw [e] <;> simp [p2] <;> omega
  · have h1 : 256 ≤ p2 (min (n - 8 * (i : Int)) 64) := by rw [← p2_8]; exact p2_le (by omega)
    have e2 : p2 (n - 8 * i) = 256 * p2 (n - 8 * i - 8) := by rw [← p2_8, ← p2_add (by omega) (by omega)]; congr 1; omega
    rw [Int.emod_eq_of_lt (show 0 ≤ Z % 256 by omega) (by omega), e2]
    exact Int.emod_emod_of_dvd _ (Int.dvd_mul_right ..)

theorem high_bits {V v n m : Int} (h0 : 0 ≤ V) (h1 : V < p2 n) (hv0 : 0 ≤ v) (hv : v < p2 m) : (V + v * p2 n) / p2 n % p2 m = v := by
  have hp := p2_pos n
  rw [Int.add_mul_ediv_right _ _ (by omega), Int.ediv_eq_zero_of_lt h0 h1, Int.zero_add, Int.emod_eq_of_lt hv0 hv]

theorem low_bits {V v n a m : Int} (ha : 0 ≤ a) (hm : 0 ≤ m) (h : a + m ≤ n) : (V + v * p2 n) / p2 a % p2 m = V / p2 a % p2 m := by
  have hp := p2_pos a
  have e : p2 n = p2 m * p2 (n - a - m) * p2 a := by
    rw [← p2_add hm (by omega), ← p2_add (by omega) ha]; congr 1; omega
  rw [e, ← Int.mul_assoc, Int.add_mul_ediv_right _ _ (by omega), Int.mul_left_comm, Int.add_mul_emod_self_left]

theorem emod_bd (V : Int) (n : Int) : 0 ≤ V % p2 n ∧ V % p2 n < p2 n := by
  have hp := p2_pos n
  exact ⟨Int.emod_nonneg _ (by omega), Int.emod_lt_of_pos _ (by omega)⟩

theorem p2_le64 {n : Int} (h : n ≤ 64) : p2 n ≤ 18446744073709551616 := by rw [← p2_64]; exact p2_le h
end Go.Proofs.Ytbhoodhcipegbaa.M02

/- The checksum with the highest bit first: steps of a state on natural numbers, and what follows from their being linear. No Go here. -/
import Derived.WalkKit
import Derived.Test.YtdblcfajejhbaaaKit
import Derived.Test.YtdblcfajejhbaaaMath03
namespace Go.Proofs.Ytdblcfajejhbaaa.M04
open Go.RowKit Go.Proofs.Ytdblcfajejhbaaa.M03
set_option linter.unusedVariables false

theorem xor_u64 {a b : Int} (ha : 0 ≤ a) (ha2 : a < 18446744073709551616) (hb : 0 ≤ b) (hb2 : b < 18446744073709551616) : bits .xor .u64 a b = ((a.toNat ^^^ b.toNat : Nat) : Int) := by
  have hx : a.toNat ^^^ b.toNat < 2 ^ 64 := Nat.xor_lt_two_pow (by omega) (by omega)
  have h1 : (BitVec.ofInt 64 a).toNat = a.toNat := by
    rw [BitVec.toNat_ofInt]; omega
  have h2 : (BitVec.ofInt 64 b).toNat = b.toNat := by
    rw [BitVec.toNat_ofInt]; omega
  show IntKind.u64.wrap ((BitVec.ofInt 64 a ^^^ BitVec.ofInt 64 b).toNat : Int) = _
  rw [BitVec.toNat_xor, h1, h2]
  simp [IntKind.wrap, IntKind.bits, IntKind.signed]
  omega

abbrev PO : Nat := 4823603603198064275

/-- A step with a bit 0. -/
def st (s : Nat) : Nat := (2 * s % 2 ^ 64) ^^^ (if s / 2 ^ 63 % 2 = 1 then PO else 0)

theorem st_high {s : Nat} (h : s < 2 ^ 64) (h2 : 2 ^ 63 ≤ s) : st s = (2 * s % 2 ^ 64) ^^^ PO := by unfold st; rw [if_pos (by omega)]
theorem st_low {s : Nat} (h : s < 2 ^ 63) : st s = 2 * s := by unfold st; rw [if_neg (by omega), Nat.xor_zero]; omega

theorem mod_xor (a b n : Nat) : (a ^^^ b) % 2 ^ n = a % 2 ^ n ^^^ b % 2 ^ n := by
  apply Nat.eq_of_testBit_eq; intro i
  rw [Nat.testBit_mod_two_pow, Nat.testBit_xor, Nat.testBit_xor, Nat.testBit_mod_two_pow, Nat.testBit_mod_two_pow]
  by_cases h : i < n <;> simp [h]
theorem div_xor (a b n : Nat) : (a ^^^ b) / 2 ^ n = a / 2 ^ n ^^^ b / 2 ^ n := by
  apply Nat.eq_of_testBit_eq; intro i
  rw [Nat.testBit_div_two_pow, Nat.testBit_xor, Nat.testBit_xor, Nat.testBit_div_two_pow, Nat.testBit_div_two_pow]

theorem st_xor (a b : Nat) : st (a ^^^ b) = st a ^^^ st b := by
  unfold st
  have e : 2 * (a ^^^ b) = 2 * a ^^^ 2 * b := by have := mul_xor 1 a b; simpa using this
  rw [e, mod_xor, div_xor, xor_mod2]
  generalize 2 * a % 2 ^ 64 = A
  generalize 2 * b % 2 ^ 64 = B
  rcases Nat.mod_two_eq_zero_or_one (a / 2 ^ 63) with ha | ha <;> rcases Nat.mod_two_eq_zero_or_one (b / 2 ^ 63) with hb | hb <;> rw [ha, hb] <;> simp
  · rw [Nat.xor_assoc]
  · rw [Nat.xor_assoc, Nat.xor_assoc, Nat.xor_comm PO]
  · rw [Nat.xor_assoc, ← Nat.xor_assoc PO, Nat.xor_comm PO, Nat.xor_assoc, Nat.xor_self, Nat.xor_zero]

def sts : Nat → Nat → Nat
  | 0, s => s
  | n + 1, s => sts n (st s)

theorem sts_xor (n a b : Nat) : sts n (a ^^^ b) = sts n a ^^^ sts n b := by
  induction n generalizing a b with
  | zero => rfl
  | succ n ih => show sts n (st (a ^^^ b)) = _; rw [st_xor, ih]; rfl

theorem sts_add (m n s : Nat) : sts (m + n) s = sts n (sts m s) := by
  induction m generalizing s with
  | zero => rw [Nat.zero_add]; rfl
  | succ m ih => rw [Nat.succ_add]; show sts (m + n) (st s) = _; rw [ih]; rfl

theorem sts_end (n s : Nat) : sts (n + 1) s = st (sts n s) := by rw [sts_add]; rfl

theorem st_lt (s : Nat) : st s < 2 ^ 64 := by
  unfold st
  refine Nat.xor_lt_two_pow (Nat.mod_lt _ (by decide)) ?_
  split <;> decide

theorem sts_lt (n : Nat) : ∀ {s : Nat}, s < 2 ^ 64 → sts n s < 2 ^ 64 := by
  induction n with
  | zero => exact fun h => h
  | succ n ih => exact fun h => ih (st_lt _)

theorem st_ne {s : Nat} (h : s < 2 ^ 64) (h0 : s ≠ 0) : st s ≠ 0 := by
  by_cases h2 : 2 ^ 63 ≤ s
  · rw [st_high h h2]
    have hP : PO = 4823603603198064275 := rfl
    exact xor_ne (by omega)
  · rw [st_low (by omega)]; omega

theorem sts_ne (n : Nat) : ∀ {s : Nat}, s < 2 ^ 64 → s ≠ 0 → sts n s ≠ 0 := by
  induction n with
  | zero => exact fun _ h => h
  | succ n ih => exact fun h h0 => ih (st_lt _) (st_ne h h0)

theorem sts_zero (n : Nat) : sts n 0 = 0 := by
  induction n with
  | zero => rfl
  | succ n ih => exact ih

/-- Steps that only move bits. -/
theorem sts_low (n : Nat) : ∀ {c : Nat}, 2 ^ n * c < 2 ^ 64 → sts n c = 2 ^ n * c := by
  induction n with
  | zero => intro c _; simp [sts]
  | succ n ih =>
    intro c h
    have e : 2 ^ (n + 1) * c = 2 ^ n * (2 * c) := by rw [Nat.pow_succ, Nat.mul_assoc]
    have p : 0 < 2 ^ n := Nat.two_pow_pos n
    have h2 : 2 * c < 2 ^ 64 := by
      refine Nat.lt_of_le_of_lt ?_ (e ▸ h)
      exact Nat.le_mul_of_pos_left _ p
    show sts n (st c) = _
    rw [st_low (by omega), ih (by rw [← e]; exact h), e]

/-- The state behind a byte. -/
def beh (s x : Nat) : Nat := sts 8 (s ^^^ 2 ^ 56 * x)

theorem split_bit (x n : Nat) : x % 2 ^ (n + 1) = x % 2 ^ n ^^^ 2 ^ n * (x / 2 ^ n % 2) := by
  apply Nat.eq_of_testBit_eq
  intro j
  rw [Nat.testBit_xor, Nat.testBit_mod_two_pow, Nat.testBit_mod_two_pow, Nat.testBit_two_pow_mul, show x / 2 ^ n % 2 = x / 2 ^ n % 2 ^ 1 by omega, Nat.testBit_mod_two_pow, Nat.testBit_div_two_pow]
  rcases Nat.lt_trichotomy j n with h | h | h
  · simp [h, show j < n + 1 by omega, show ¬ n ≤ j by omega]
  · subst h; simp
  · simp [show ¬ j < n by omega, show ¬ j < n + 1 by omega, show ¬ j - n < 1 by omega]

/-- The steps with the bits of a byte one by one, the highest of the lowest n first. -/
def bitsH : Nat → Nat → Nat → Nat
  | 0, s, _ => s
  | n + 1, s, x => bitsH n (st (s ^^^ 2 ^ 63 * (x / 2 ^ n % 2))) x

theorem bitsH_eq (n : Nat) : n ≤ 64 → ∀ s x : Nat, bitsH n s x = sts n (s ^^^ 2 ^ (64 - n) * (x % 2 ^ n)) := by
  induction n with
  | zero => intro _ s x; simp [bitsH, sts, Nat.mod_one]
  | succ n ih =>
    intro h s x
    show bitsH n (st (s ^^^ 2 ^ 63 * (x / 2 ^ n % 2))) x = sts n (st (s ^^^ 2 ^ (64 - (n + 1)) * (x % 2 ^ (n + 1))))
    have hm : x % 2 ^ n < 2 ^ n := Nat.mod_lt _ (Nat.two_pow_pos n)
    have hp : 2 ^ (64 - (n + 1)) * 2 ^ n = 2 ^ 63 := by rw [← Nat.pow_add]; congr 1; omega
    have hlt : 2 ^ (64 - (n + 1)) * (x % 2 ^ n) < 2 ^ 63 := by
      rw [← hp]; exact Nat.mul_lt_mul_of_pos_left hm (Nat.two_pow_pos _)
    have h2 : 2 * (2 ^ (64 - (n + 1)) * (x % 2 ^ n)) = 2 ^ (64 - n) * (x % 2 ^ n) := by
      rw [← Nat.mul_assoc, show 64 - n = (64 - (n + 1)) + 1 by omega, Nat.pow_succ, Nat.mul_comm _ 2]
    rw [ih (by omega), split_bit, mul_xor, ← Nat.mul_assoc, hp]
    congr 1
    rw [Nat.xor_comm (2 ^ (64 - (n + 1)) * (x % 2 ^ n)), ← Nat.xor_assoc, st_xor (s ^^^ _), st_low hlt, h2]

theorem beh_bits {s x : Nat} (h : x < 256) : bitsH 8 s x = beh s x := by
  rw [bitsH_eq 8 (by omega), show x % 2 ^ 8 = x by omega]; rfl

def crcN (s : Nat) (xs : List Int) : Nat := xs.foldl (fun s x => beh s x.toNat) s

theorem crcN_append (s : Nat) (xs ys : List Int) : crcN s (xs ++ ys) = crcN (crcN s xs) ys := by unfold crcN; rw [List.foldl_append]

theorem beh_lt {s x : Nat} (h : s < 2 ^ 64) (hx : x < 256) : beh s x < 2 ^ 64 := by
  unfold beh
  exact sts_lt 8 (Nat.xor_lt_two_pow h (by omega))

theorem crcN_lt (xs : List Int) (hx : ∀ x ∈ xs, (Lit.int .u8 x).wf = true) : ∀ {s : Nat}, s < 2 ^ 64 → crcN s xs < 2 ^ 64 := by
  induction xs with
  | nil => exact fun h => h
  | cons x xs ih =>
    intro s h
    refine ih (fun y hy => hx y (by simp [hy])) ?_
    have := Go.Proofs.Ytdblcfajejhbaaa.Kit.bd_u8 (hx x (by simp))
    exact beh_lt h (by omega)

theorem beh_xor (s t x y : Nat) : beh (s ^^^ t) (x ^^^ y) = beh s x ^^^ beh t y := by
  unfold beh
  rw [mul_xor, ← sts_xor]
  congr 1
  ac_rfl

/-- The changes of two strings together. -/
theorem crc_xor {xs ys zs : List Int} {s t : Nat} (h1 : xs.length = ys.length) (h2 : zs.length = xs.length) (h : ∀ i, i < xs.length → (zs.getD i 0).toNat = (xs.getD i 0).toNat ^^^ (ys.getD i 0).toNat) :
    crcN (s ^^^ t) zs = crcN s xs ^^^ crcN t ys := by
  induction xs generalizing ys zs s t with
  | nil =>
    obtain rfl := List.eq_nil_of_length_eq_zero h2
    obtain rfl := List.eq_nil_of_length_eq_zero h1.symm
    rfl
  | cons x xs ih =>
    cases ys with
    | nil => simp at h1
    | cons y ys =>
      cases zs with
      | nil => simp at h2
      | cons z zs =>
        have h0 := h 0 (by simp)
        simp only [List.getD_cons_zero] at h0
        have hr := ih (ys := ys) (zs := zs) (s := beh s x.toNat) (t := beh t y.toNat) (by simpa using h1) (by simpa using h2) (fun i hi => by
          have := h (i + 1) (by simp; omega)
          simpa using this)
        show crcN (beh (s ^^^ t) z.toNat) zs = crcN (beh s x.toNat) xs ^^^ crcN (beh t y.toNat) ys
        rw [h0, beh_xor, hr]

theorem crc_zeros (n : Nat) : crcN 0 (List.replicate n (0 : Int)) = 0 := by
  induction n with
  | zero => rfl
  | succ n ih =>
    rw [List.replicate_succ]
    show crcN (beh 0 (0 : Int).toNat) (List.replicate n 0) = 0
    rw [show beh 0 (0 : Int).toNat = 0 from sts_zero 8, ih]

theorem crc_state (s : Nat) (xs : List Int) : crcN s xs = crcN s (List.replicate xs.length 0) ^^^ crcN 0 xs := by
  have := crc_xor (xs := List.replicate xs.length (0 : Int)) (ys := xs) (zs := xs) (s := s) (t := 0) (by simp) (by simp) (fun i hi => by
    rw [show (List.replicate xs.length (0 : Int)).getD i 0 = 0 by
      rw [List.getD_eq_getElem?_getD, List.getElem?_replicate]; split <;> rfl]
    simp)
  rwa [Nat.xor_zero] at this

theorem crcN_zeros_sts (n s : Nat) : crcN s (List.replicate n (0 : Int)) = sts (8 * n) s := by
  induction n generalizing s with
  | zero => rfl
  | succ n ih =>
    rw [List.replicate_succ]
    show crcN (beh s (0 : Int).toNat) (List.replicate n 0) = _
    rw [ih, show 8 * (n + 1) = 8 + 8 * n by omega, sts_add]
    unfold beh
    simp

/-- A byte that is changed. -/
theorem crc_set {xs : List Int} {j : Nat} (hj : j < xs.length) (y : Int) (m s : Nat) (h : y.toNat = (xs.getD j 0).toNat ^^^ m) :
    crcN s (xs.set j y) = crcN s xs ^^^ sts (8 * (xs.length - j)) (2 ^ 56 * m) := by
  induction xs generalizing j s with
  | nil => simp at hj
  | cons x xs ih =>
    cases j with
    | zero =>
      simp only [List.getD_cons_zero] at h
      show crcN (beh s y.toNat) xs = crcN (beh s x.toNat) xs ^^^ _
      have hb : beh s y.toNat = beh s x.toNat ^^^ beh 0 m := by
        rw [h, ← beh_xor, Nat.xor_zero]
      rw [hb, crc_state (beh s x.toNat ^^^ beh 0 m), crc_state (beh s x.toNat), crcN_zeros_sts, crcN_zeros_sts, sts_xor, show (x :: xs).length - 0 = xs.length + 1 by simp, show 8 * (xs.length + 1) = 8 + 8 * xs.length by omega, sts_add]
      rw [show sts 8 (2 ^ 56 * m) = beh 0 m by unfold beh; rw [Nat.zero_xor]]
      ac_rfl
    | succ j =>
      have := ih (j := j) (by simpa using hj) (beh s x.toNat) (by simpa using h)
      show crcN (beh s x.toNat) (xs.set j y) = crcN (beh s x.toNat) xs ^^^ _
      rw [this, List.length_cons, show xs.length + 1 - (j + 1) = xs.length - j by omega]

/-- The bits of a change from the lowest on, as they lie in a state from the highest on: the first k. -/
def rv (c : Nat) : Nat → Nat
  | 0 => 0
  | k + 1 => if c / 2 ^ k % 2 = 1 then rv c k ^^^ 2 ^ (63 - k) else rv c k

theorem rv_lt (c k : Nat) : rv c k < 2 ^ 64 := by
  induction k with
  | zero => show 0 < 2 ^ 64; decide
  | succ k ih =>
    show (if _ then _ else _) < _
    split
    · exact Nat.xor_lt_two_pow ih (Nat.pow_lt_pow_right (by omega) (by omega))
    · exact ih

theorem rv_bit (c k : Nat) : k ≤ 64 → ∀ i, i < 64 - k → (rv c k).testBit i = false := by
  induction k with
  | zero => intro _ i _; exact Nat.zero_testBit i
  | succ k ih =>
    intro hk i hi
    show Nat.testBit (if _ then _ else _) i = false
    split
    · rw [Nat.testBit_xor, ih (by omega) i (by omega), Nat.testBit_two_pow]
      simp; omega
    · exact ih (by omega) i (by omega)

theorem rv_zero (c k : Nat) : k ≤ 64 → (rv c k = 0 ↔ c % 2 ^ k = 0) := by
  induction k with
  | zero => intro _; simp [rv, Nat.mod_one]
  | succ k ih =>
    intro hk
    have hm := mod_bit c k
    by_cases h : c / 2 ^ k % 2 = 1
    · rw [if_pos h] at hm
      have hp : c % 2 ^ k < 2 ^ k := Nat.mod_lt _ (Nat.two_pow_pos k)
      have h1 : c % 2 ^ (k + 1) ≠ 0 := by rw [hm]; exact xor_ne (by omega)
      have h2 : rv c (k + 1) ≠ 0 := by
        show (if _ then _ else _) ≠ _
        rw [if_pos h]
        refine xor_ne fun he => ?_
        have hb := rv_bit c k (by omega) (63 - k) (by omega)
        rw [he, Nat.testBit_two_pow_self] at hb
        cases hb
      exact ⟨fun h3 => absurd h3 h2, fun h3 => absurd h3 h1⟩
    · rw [if_neg h] at hm
      rw [hm, ← ih (by omega)]
      show (if _ then _ else _) = _ ↔ _
      rw [if_neg h]

/-- One bit more that is changed. -/
theorem crc_bit {xs : List Int} {at_ k j s : Nat} (hk : k < 64) (hin : at_ + k < 8 * xs.length) (hj : j = (at_ + k) / 8) (y : Int) (h : y.toNat = (xs.getD j 0).toNat ^^^ 128 / 2 ^ ((at_ + k) % 8)) :
    crcN s (xs.set j y) = crcN s xs ^^^ sts (8 * xs.length - at_) (2 ^ (63 - k)) := by
  rw [crc_set (by omega) y _ s h]
  congr 1
  obtain ⟨r, hr⟩ : ∃ r, (at_ + k) % 8 = r := ⟨_, rfl⟩
  have hr8 : r < 8 := by omega
  rw [hr]
  have e1 : sts r (2 ^ 56 * (128 / 2 ^ r)) = 2 ^ 63 := by
    have : ∀ r : Nat, r < 8 → 2 ^ r * (2 ^ 56 * (128 / 2 ^ r)) = 2 ^ 63 := by decide
    rw [sts_low r (by rw [this r hr8]; decide), this r hr8]
  have e2 : sts k (2 ^ (63 - k)) = 2 ^ 63 := by
    have : 2 ^ k * 2 ^ (63 - k) = 2 ^ 63 := by rw [← Nat.pow_add]; congr 1; omega
    rw [sts_low k (by rw [this]; decide), this]
  rw [show 8 * (xs.length - j) = r + (8 * xs.length - (at_ + k)) by omega, sts_add, e1, show 8 * xs.length - at_ = k + (8 * xs.length - (at_ + k)) by omega, sts_add, e2]

/-- A burst: the sums differ if the change isn't 0. -/
theorem crc_burst {xs ys : List Int} {s c k n : Nat} (hk : k ≤ 64) (h : crcN s ys = crcN s xs ^^^ sts n (rv c k)) : crcN s xs = crcN s ys ↔ c % 2 ^ k = 0 := by
  rw [h, ← rv_zero c k hk]
  constructor
  · intro h2
    refine Classical.byContradiction fun h0 => sts_ne n (rv_lt c k) h0 ?_
    have h3 : crcN s xs ^^^ crcN s xs = crcN s xs ^^^ (crcN s xs ^^^ sts n (rv c k)) := by rw [← h2]
    rw [Nat.xor_self, ← Nat.xor_assoc, Nat.xor_self, Nat.zero_xor] at h3
    exact h3.symm
  · intro h0
    rw [h0, sts_zero, Nat.xor_zero]

/-- The table's way. -/
theorem beh_table {s x : Nat} (hs : s < 2 ^ 64) : beh s x = 2 ^ 8 * (s % 2 ^ 56) ^^^ sts 8 (2 ^ 56 * ((s / 2 ^ 56) ^^^ x)) := by
  unfold beh
  have e : s = s % 2 ^ 56 ^^^ 2 ^ 56 * (s / 2 ^ 56) := by
    apply Nat.eq_of_testBit_eq
    intro i
    rw [Nat.testBit_xor, Nat.testBit_two_pow_mul, Nat.testBit_div_two_pow, Nat.testBit_mod_two_pow]
    by_cases h : 56 ≤ i
    · simp [h, show ¬ i < 56 by omega]
    · simp [h, show i < 56 by omega]
  conv => lhs; rw [e]
  rw [Nat.xor_assoc, ← mul_xor, sts_xor, sts_low 8 (by omega)]
end Go.Proofs.Ytdblcfajejhbaaa.M04

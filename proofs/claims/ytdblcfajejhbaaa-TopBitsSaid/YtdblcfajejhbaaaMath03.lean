/- The checksums: steps of a state on natural numbers, and what follows from their being linear. No Go here. -/
import Derived.WalkKit
import Derived.Test.YtdblcfajejhbaaaKit
import Derived.Laws.Bits64
import Derived.Laws.BitsLemmas
namespace Go.Proofs.Ytdblcfajejhbaaa.M03
open Go.RowKit
set_option linter.unusedVariables false

theorem xor_u32 {a b : Int} (ha : 0 ≤ a) (ha2 : a < 4294967296) (hb : 0 ≤ b) (hb2 : b < 4294967296) : bits .xor .u32 a b = ((a.toNat ^^^ b.toNat : Nat) : Int) := by
  have hx : a.toNat ^^^ b.toNat < 2 ^ 32 := Nat.xor_lt_two_pow (by omega) (by omega)
  have h1 : (BitVec.ofInt 32 a).toNat = a.toNat := by
    rw [BitVec.toNat_ofInt]; omega
  have h2 : (BitVec.ofInt 32 b).toNat = b.toNat := by
    rw [BitVec.toNat_ofInt]; omega
  show IntKind.u32.wrap ((BitVec.ofInt 32 a ^^^ BitVec.ofInt 32 b).toNat : Int) = _
  rw [BitVec.toNat_xor, h1, h2]
  simp [IntKind.wrap, IntKind.bits, IntKind.signed]
  omega

theorem xor_u8 {a b : Int} (ha : 0 ≤ a) (ha2 : a < 256) (hb : 0 ≤ b) (hb2 : b < 256) : bits .xor .u8 a b = ((a.toNat ^^^ b.toNat : Nat) : Int) := by
  have hx : a.toNat ^^^ b.toNat < 2 ^ 8 := Nat.xor_lt_two_pow (by omega) (by omega)
  have h1 : (BitVec.ofInt 8 a).toNat = a.toNat := by
    rw [BitVec.toNat_ofInt]; omega
  have h2 : (BitVec.ofInt 8 b).toNat = b.toNat := by
    rw [BitVec.toNat_ofInt]; omega
  show IntKind.u8.wrap ((BitVec.ofInt 8 a ^^^ BitVec.ofInt 8 b).toNat : Int) = _
  rw [BitVec.toNat_xor, h1, h2]
  simp [IntKind.wrap, IntKind.bits, IntKind.signed]
  omega

theorem xor_ones {n S : Nat} (h : S < 2 ^ n) : (2 ^ n - 1) ^^^ S = 2 ^ n - 1 - S := by
  apply Nat.eq_of_testBit_eq
  intro i
  rw [Nat.testBit_xor, Nat.testBit_two_pow_sub_one, show 2 ^ n - 1 - S = 2 ^ n - (S + 1) by omega, Nat.testBit_two_pow_sub_succ h]
  by_cases hi : i < n
  · simp [hi]
  · simp [hi, Nat.testBit_lt_two_pow (Nat.lt_of_lt_of_le h (Nat.pow_le_pow_right (by omega) (by omega : n ≤ i)))]

theorem not_u32 {S : Int} (h : 0 ≤ S) (h2 : S < 4294967296) : bits .xor .u32 IntKind.u32.max S = 4294967295 - S := by
  rw [show IntKind.u32.max = 4294967295 by decide, xor_u32 (by omega) (by omega) h h2, show (4294967295 : Int).toNat = 2 ^ 32 - 1 by decide, xor_ones (by omega)]
  omega

section gen
variable (PO : Nat)

/-- A step with a bit 0. -/
def st (s : Nat) : Nat := if s % 2 = 1 then s / 2 ^^^ PO else s / 2

def sts : Nat → Nat → Nat
  | 0, s => s
  | n + 1, s => sts n (st PO s)

theorem xor_mod2 (a b : Nat) : (a ^^^ b) % 2 = (a % 2 + b % 2) % 2 := by
  have h := Nat.testBit_xor a b 0
  rw [Nat.testBit_zero, Nat.testBit_zero, Nat.testBit_zero] at h
  rcases Nat.mod_two_eq_zero_or_one a with ha | ha <;> rcases Nat.mod_two_eq_zero_or_one b with hb | hb <;> rcases Nat.mod_two_eq_zero_or_one (a ^^^ b) with hc | hc <;> simp [ha, hb, hc] at h ⊢

theorem st_xor (a b : Nat) : st PO (a ^^^ b) = st PO a ^^^ st PO b := by
  unfold st
  rw [xor_mod2, Nat.xor_div_two]
  rcases Nat.mod_two_eq_zero_or_one a with ha | ha <;> rcases Nat.mod_two_eq_zero_or_one b with hb | hb <;> rw [ha, hb] <;> simp
  · rw [Nat.xor_assoc]
  · rw [Nat.xor_assoc, Nat.xor_assoc, Nat.xor_comm PO]
  · rw [Nat.xor_assoc, ← Nat.xor_assoc PO, Nat.xor_comm PO, Nat.xor_assoc, Nat.xor_self, Nat.xor_zero]

theorem st_two (c : Nat) : st PO (2 * c) = c := by unfold st; rw [if_neg (by omega)]; omega

theorem sts_xor (n a b : Nat) : sts PO n (a ^^^ b) = sts PO n a ^^^ sts PO n b := by
  induction n generalizing a b with
  | zero => rfl
  | succ n ih => show sts PO n (st PO (a ^^^ b)) = _; rw [st_xor, ih]; rfl

theorem sts_add (m n s : Nat) : sts PO (m + n) s = sts PO n (sts PO m s) := by
  induction m generalizing s with
  | zero => rw [Nat.zero_add]; rfl
  | succ m ih => rw [Nat.succ_add]; show sts PO (m + n) (st PO s) = _; rw [ih]; rfl

theorem sts_pow (n c : Nat) : sts PO n (2 ^ n * c) = c := by
  induction n generalizing c with
  | zero => simp [sts]
  | succ n ih => show sts PO n (st PO (2 ^ (n + 1) * c)) = _; rw [Nat.pow_succ, Nat.mul_comm (2 ^ n) 2, Nat.mul_assoc, st_two, ih]

theorem st_lt {s k : Nat} (hk : 0 < k) (hP : PO < 2 ^ k) (h : s < 2 ^ k) : st PO s < 2 ^ k := by
  unfold st
  split
  · exact Nat.xor_lt_two_pow (by omega) hP
  · omega

theorem sts_lt {k : Nat} (hk : 0 < k) (hP : PO < 2 ^ k) (n : Nat) : ∀ {s : Nat}, s < 2 ^ k → sts PO n s < 2 ^ k := by
  induction n with
  | zero => exact fun h => h
  | succ n ih => exact fun h => ih (st_lt PO hk hP h)

theorem xor_ne {a b : Nat} (h : a ≠ b) : a ^^^ b ≠ 0 := fun h2 => h (by
  have : (a ^^^ b) ^^^ b = 0 ^^^ b := by rw [h2]
  rwa [Nat.xor_assoc, Nat.xor_self, Nat.xor_zero, Nat.zero_xor] at this)

theorem st_ne {s k : Nat} (hP2 : 2 ^ k ≤ 2 * PO) (h : s < 2 ^ k) (h0 : s ≠ 0) : st PO s ≠ 0 := by
  unfold st
  split
  · exact xor_ne (by omega)
  · omega

theorem sts_ne {k : Nat} (hk : 0 < k) (hP : PO < 2 ^ k) (hP2 : 2 ^ k ≤ 2 * PO) (n : Nat) : ∀ {s : Nat}, s < 2 ^ k → s ≠ 0 → sts PO n s ≠ 0 := by
  induction n with
  | zero => exact fun _ h => h
  | succ n ih => exact fun h h0 => ih (st_lt PO hk hP h) (st_ne PO hP2 h h0)

theorem sts_zero (n : Nat) : sts PO n 0 = 0 := by have := sts_pow PO n 0; rwa [Nat.mul_zero] at this

/-- The state behind a byte. -/
def beh (s x : Nat) : Nat := sts PO 8 (s ^^^ x)

theorem mul_xor (j a b : Nat) : 2 ^ j * (a ^^^ b) = 2 ^ j * a ^^^ 2 ^ j * b := by
  apply Nat.eq_of_testBit_eq
  intro i
  rw [Nat.testBit_xor, Nat.testBit_two_pow_mul, Nat.testBit_two_pow_mul, Nat.testBit_two_pow_mul, Nat.testBit_xor]
  by_cases h : j ≤ i <;> simp [h]

/-- The steps with the bits of a byte one by one, as the document has them. -/
def bits8 : Nat → Nat → Nat → Nat
  | 0, s, _ => s
  | n + 1, s, x => bits8 n (st PO (s ^^^ x % 2)) (x / 2)

theorem bits8_eq (n : Nat) : ∀ s x : Nat, sts PO n (s ^^^ x) = bits8 PO n s x ^^^ x / 2 ^ n := by
  induction n with
  | zero => intro s x; simp [sts, bits8]
  | succ n ih =>
    intro s x
    have e : x = (x % 2) ^^^ 2 * (x / 2) := by
      apply Nat.eq_of_testBit_eq
      intro i
      rw [Nat.testBit_xor, show 2 * (x / 2) = 2 ^ 1 * (x / 2) by omega, Nat.testBit_two_pow_mul, show x / 2 = x / 2 ^ 1 by omega, Nat.testBit_div_two_pow, show x % 2 = x % 2 ^ 1 by omega, Nat.testBit_mod_two_pow]
      cases i with
      | zero => simp
      | succ i => simp [show ¬ i + 1 < 1 by omega]
    show sts PO n (st PO (s ^^^ x)) = bits8 PO n (st PO (s ^^^ x % 2)) (x / 2) ^^^ _
    have e2 : st PO (s ^^^ x) = st PO (s ^^^ x % 2) ^^^ x / 2 := by
      conv => lhs; rw [e]
      rw [← Nat.xor_assoc, st_xor, st_two]
    rw [e2, ih, Nat.div_div_eq_div_mul, Nat.pow_succ, Nat.mul_comm (2 ^ n)]

theorem beh_bits {s x : Nat} (h : x < 256) : bits8 PO 8 s x = beh PO s x := by
  unfold beh
  rw [bits8_eq, show x / 2 ^ 8 = 0 by omega, Nat.xor_zero]

def crcN (s : Nat) (xs : List Int) : Nat := xs.foldl (fun s x => beh PO s x.toNat) s

def valX : List Int → Nat
  | [] => 0
  | x :: xs => x.toNat ^^^ 2 ^ 8 * valX xs

theorem crc_val (xs : List Int) : ∀ s : Nat, crcN PO s xs = sts PO (8 * xs.length) (s ^^^ valX xs) := by
  induction xs with
  | nil => intro s; simp [crcN, valX, sts]
  | cons x xs ih =>
    intro s
    show crcN PO (beh PO s x.toNat) xs = _
    rw [ih, List.length_cons, show 8 * (xs.length + 1) = 8 + 8 * xs.length by omega, sts_add]
    show sts PO (8 * xs.length) (sts PO 8 (s ^^^ x.toNat) ^^^ valX xs) = sts PO (8 * xs.length) (sts PO 8 (s ^^^ (x.toNat ^^^ 2 ^ 8 * valX xs)))
    rw [← Nat.xor_assoc, sts_xor PO 8 (s ^^^ x.toNat), sts_pow]

theorem crcN_append (s : Nat) (xs ys : List Int) : crcN PO s (xs ++ ys) = crcN PO (crcN PO s xs) ys := by unfold crcN; rw [List.foldl_append]

theorem crcN_lt {k : Nat} (hk : 8 ≤ k) (hP : PO < 2 ^ k) (xs : List Int) (hx : ∀ x ∈ xs, (Lit.int .u8 x).wf = true) : ∀ {s : Nat}, s < 2 ^ k → crcN PO s xs < 2 ^ k := by
  induction xs with
  | nil => exact fun h => h
  | cons x xs ih =>
    intro s h
    refine ih (fun y hy => hx y (by simp [hy])) ?_
    refine sts_lt PO (by omega) hP 8 (Nat.xor_lt_two_pow h ?_)
    have := Go.Proofs.Ytdblcfajejhbaaa.Kit.bd_u8 (hx x (by simp))
    have := Nat.pow_le_pow_right (show 0 < 2 by omega) hk
    omega

/-- The changes of two strings together. -/
theorem crc_xor {xs ys zs : List Int} (h1 : xs.length = ys.length) (h2 : zs.length = xs.length) (h : ∀ i, i < xs.length → (zs.getD i 0).toNat = (xs.getD i 0).toNat ^^^ (ys.getD i 0).toNat) :
    valX zs = valX xs ^^^ valX ys := by
  induction xs generalizing ys zs with
  | nil =>
    obtain rfl := List.eq_nil_of_length_eq_zero h2
    obtain rfl := List.eq_nil_of_length_eq_zero h1.symm
    rfl
  | cons x xs ih =>
    cases ys with
    | nil => simp at h1
    | cons y ys =>
      cases zs with
      | nil => simp at h2
      | cons z zs =>
        have h0 := h 0 (by simp)
        simp only [List.getD_cons_zero] at h0
        have hr := ih (ys := ys) (zs := zs) (by simpa using h1) (by simpa using h2) (fun i hi => by
          have := h (i + 1) (by simp; omega)
          simpa using this)
        show z.toNat ^^^ 2 ^ 8 * valX zs = (x.toNat ^^^ 2 ^ 8 * valX xs) ^^^ (y.toNat ^^^ 2 ^ 8 * valX ys)
        rw [h0, hr, mul_xor]
        ac_rfl

theorem valX_set {xs : List Int} {j : Nat} (hj : j < xs.length) (y : Int) (m : Nat) (h : y.toNat = (xs.getD j 0).toNat ^^^ m) : valX (xs.set j y) = valX xs ^^^ 2 ^ (8 * j) * m := by
  induction xs generalizing j with
  | nil => simp at hj
  | cons x xs ih =>
    cases j with
    | zero =>
      simp only [List.getD_cons_zero] at h
      show y.toNat ^^^ 2 ^ 8 * valX xs = (x.toNat ^^^ 2 ^ 8 * valX xs) ^^^ 2 ^ (8 * 0) * m
      rw [h, Nat.mul_zero, Nat.pow_zero, Nat.one_mul]
      ac_rfl
    | succ j =>
      have := ih (j := j) (by simpa using hj) (by simpa using h)
      show x.toNat ^^^ 2 ^ 8 * valX (xs.set j y) = (x.toNat ^^^ 2 ^ 8 * valX xs) ^^^ _
      rw [this, mul_xor, ← Nat.mul_assoc, ← Nat.pow_add, show 8 + 8 * j = 8 * (j + 1) by omega]
      ac_rfl

/-- A burst: the sums differ if the change isn't 0. -/
theorem crc_burst {k : Nat} (hk : 8 ≤ k) (hP : PO < 2 ^ k) (hP2 : 2 ^ k ≤ 2 * PO) {xs ys : List Int} {s at_ m : Nat} (hl : ys.length = xs.length) (hat : at_ ≤ 8 * xs.length) (hm : m < 2 ^ k) (h : valX ys = valX xs ^^^ 2 ^ at_ * m) :
    crcN PO s xs = crcN PO s ys ↔ m = 0 := by
  rw [crc_val, crc_val, hl, h, ← Nat.xor_assoc, sts_xor PO _ (s ^^^ valX xs)]
  have e : sts PO (8 * xs.length) (2 ^ at_ * m) = sts PO (8 * xs.length - at_) m := by
    conv => lhs; rw [show 8 * xs.length = at_ + (8 * xs.length - at_) by omega, sts_add, sts_pow]
  rw [e]
  constructor
  · intro h2
    refine Classical.byContradiction fun h0 => sts_ne PO (by omega) hP hP2 (8 * xs.length - at_) hm h0 ?_
    have h3 : sts PO (8 * xs.length) (s ^^^ valX xs) ^^^ sts PO (8 * xs.length) (s ^^^ valX xs) = sts PO (8 * xs.length) (s ^^^ valX xs) ^^^ (sts PO (8 * xs.length) (s ^^^ valX xs) ^^^ sts PO (8 * xs.length - at_) m) := by rw [← h2]
    rw [Nat.xor_self, ← Nat.xor_assoc, Nat.xor_self, Nat.zero_xor] at h3
    exact h3.symm
  · rintro rfl
    rw [sts_zero, Nat.xor_zero]

/-- One bit more of a change. -/
theorem mod_bit (c i : Nat) : c % 2 ^ (i + 1) = if c / 2 ^ i % 2 = 1 then c % 2 ^ i ^^^ 2 ^ i else c % 2 ^ i := by
  have key : c % 2 ^ (i + 1) = c % 2 ^ i ^^^ 2 ^ i * (c / 2 ^ i % 2) := by
    apply Nat.eq_of_testBit_eq
    intro j
    rw [Nat.testBit_xor, Nat.testBit_mod_two_pow, Nat.testBit_mod_two_pow, Nat.testBit_two_pow_mul, show c / 2 ^ i % 2 = c / 2 ^ i % 2 ^ 1 by omega, Nat.testBit_mod_two_pow, Nat.testBit_div_two_pow]
    rcases Nat.lt_trichotomy j i with h | h | h
    · simp [h, show j < i + 1 by omega, show ¬ i ≤ j by omega]
    · subst h; simp
    · simp [show ¬ j < i by omega, show ¬ j < i + 1 by omega, show ¬ j - i < 1 by omega]
  rw [key]
  split
  · rename_i h; rw [h, Nat.mul_one]
  · rename_i h; rw [show c / 2 ^ i % 2 = 0 by omega, Nat.mul_zero, Nat.xor_zero]

/-- The table's way. -/
theorem beh_table {s x : Nat} (hx : x < 256) : beh PO s x = s / 256 ^^^ sts PO 8 ((s % 256) ^^^ x) := by
  unfold beh
  have e : s = 2 ^ 8 * (s / 256) ^^^ s % 256 := by
    apply Nat.eq_of_testBit_eq
    intro i
    rw [Nat.testBit_xor, Nat.testBit_two_pow_mul, show s / 256 = s / 2 ^ 8 by omega, Nat.testBit_div_two_pow, show s % 256 = s % 2 ^ 8 by omega, Nat.testBit_mod_two_pow]
    by_cases h : 8 ≤ i
    · simp [h, show ¬ i < 8 by omega]
    · simp [h, show i < 8 by omega]
  conv => lhs; rw [e]
  rw [Nat.xor_assoc, sts_xor, sts_pow]
end gen
end Go.Proofs.Ytdblcfajejhbaaa.M03

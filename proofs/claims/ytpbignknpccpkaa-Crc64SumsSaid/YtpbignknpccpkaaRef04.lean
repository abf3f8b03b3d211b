/- What the reference of layer 4 returns. -/
import Derived.Test.YtpbignknpccpkaaCrc6
namespace Go.Proofs.Ytpbignknpccpkaa.R04
open Go.RowKit Go.Proofs.Ytpbignknpccpkaa.Kit Go.Proofs.Ytpbignknpccpkaa.M04 Go.Proofs.Ytpbignknpccpkaa.Cr6
set_option linter.unusedVariables false

theorem st_one (s : Nat) : st (s ^^^ 2 ^ 63) = st s ^^^ PO := by
  rw [st_xor]; congr 1

set_option maxHeartbeats 400000 in
theorem rstep_any (s b : Int) (w : World) (h : 0 ≤ s) (h2 : s < 18446744073709551616) (hb : b = 0 ∨ b = 1) :
    Calls Try.prog 20 #[.int .u64 s, .int .i64 b] w fun e w' => e = .returned (.int .u64 ((st (s.toNat ^^^ 2 ^ 63 * b.toNat) : Nat) : Int)) ∧ w = w' := by
  have hP : PO = 4823603603198064275 := rfl
  rcases (show s < 9223372036854775808 ∨ 9223372036854775808 ≤ s by omega) with hd | hd
  · have hw : IntKind.u64.wrap (s * 2) = s * 2 := by rw [IntKind.wrap_u64]; omega
    have ht : (9223372036854775808 ≤ s) = False := eq_false (by omega)
    rcases hb with rfl | rfl
    · rw [show s.toNat ^^^ 2 ^ 63 * (0 : Int).toNat = s.toNat by simp, st_low (by omega), show ((2 * s.toNat : Nat) : Int) = s * 2 by omega]
      go_enter Try.func20, Try.ntmps20
      go_wp2
      go_ret
      exact ⟨rfl, rfl⟩
    · have hx : ((st (s.toNat ^^^ 2 ^ 63 * (1 : Int).toNat) : Nat) : Int) = bits .xor .u64 (s * 2) 4823603603198064275 := by
        rw [show (1 : Int).toNat = 1 by rfl, Nat.mul_one, st_one, st_low (by omega), xor_u64 (by omega) (by omega) (by omega) (by omega), show (s * 2).toNat = 2 * s.toNat by omega]; rfl
      rw [hx]
      clear hx
      go_enter Try.func20, Try.ntmps20
      go_wp2
      go_ret
      exact ⟨rfl, rfl⟩
  · have hw : IntKind.u64.wrap (s * 2) = s * 2 - 18446744073709551616 := by rw [IntKind.wrap_u64]; omega
    have ht : (9223372036854775808 ≤ s) = True := eq_true (by omega)
    rcases hb with rfl | rfl
    · have hx : ((st (s.toNat ^^^ 2 ^ 63 * (0 : Int).toNat) : Nat) : Int) = bits .xor .u64 (s * 2 - 18446744073709551616) 4823603603198064275 := by
        rw [show s.toNat ^^^ 2 ^ 63 * (0 : Int).toNat = s.toNat by simp, st_high (by omega) (by omega), xor_u64 (by omega) (by omega) (by omega) (by omega), show (s * 2 - 18446744073709551616).toNat = 2 * s.toNat % 2 ^ 64 by omega]; rfl
      rw [hx]
      clear hx
      go_enter Try.func20, Try.ntmps20
      go_wp2
      go_ret
      exact ⟨rfl, rfl⟩
    · rw [show (1 : Int).toNat = 1 by rfl, Nat.mul_one, st_one, st_high (by omega) (by omega), Nat.xor_assoc, Nat.xor_self, Nat.xor_zero, show ((2 * s.toNat % 2 ^ 64 : Nat) : Int) = s * 2 - 18446744073709551616 by omega]
      go_enter Try.func20, Try.ntmps20
      go_wp2
      go_ret
      exact ⟨rfl, rfl⟩

theorem bitsH_step {n S X R : Nat} {D : Int} (hD : ((2 ^ n : Nat) : Int) = D) (h : bitsH (n + 1) S X = R) :
    ∃ b : Int, (X : Int) / D % 2 = b ∧ (b = 0 ∨ b = 1) ∧ Hid (bitsH n (st (S ^^^ 2 ^ 63 * b.toNat)) X = R) := by
  refine ⟨((X / 2 ^ n % 2 : Nat) : Int), by subst hD; simp, by omega, ?_⟩
  rw [Int.toNat_natCast]
  exact h

set_option maxHeartbeats 4000000 in
theorem rbyte_any (s x : Int) (w : World) (h : 0 ≤ s) (h2 : s < 18446744073709551616) (hx : 0 ≤ x) (hx2 : x < 256) :
    Calls Try.prog 19 #[.int .u64 s, .int .u8 x] w fun e w' => e = .returned (.int .u64 (behI s x)) ∧ w = w' := by
  have hz := beh_bits (s := s.toNat) (x := x.toNat) (by omega)
  unfold behI
  generalize beh s.toNat x.toNat = R at *
  obtain ⟨X, rfl⟩ : ∃ n : Nat, x = n := ⟨x.toNat, by omega⟩
  rw [Int.toNat_natCast] at hz
  go_enter Try.func19, Try.ntmps19
  go_wp2
  go_loop [0, 5] (fun t i => ∃ n S : Nat, n ≤ 8 ∧ i = .int .i64 ((2 ^ n / 2 : Nat) : Int) ∧ t = .int .u64 S ∧ S < 18446744073709551616 ∧ bitsH n S X = R) (fun _ i => (intOf i).toNat)
  case atStart => exact ⟨8, s.toNat, by omega, by go_num, by go_num, by omega, hz⟩
  case round =>
    obtain ⟨n, S, hn, rfl, rfl, hS, hR⟩ := hrel
    clear hz
    rcases (show n = 0 ∨ n = 1 ∨ n = 2 ∨ n = 3 ∨ n = 4 ∨ n = 5 ∨ n = 6 ∨ n = 7 ∨ n = 8 by omega) with rfl | rfl | rfl | rfl | rfl | rfl | rfl | rfl | rfl
    · have : S = R := hR
      subst this
      go_wp2
      go_ret
      exact ⟨rfl, rfl⟩
    all_goals
      obtain ⟨b, hb, hb2, hR'⟩ : ∃ b : Int, _ ∧ (b = 0 ∨ b = 1) ∧ _ := by (first | exact bitsH_step (D := 1) (by decide) hR | exact bitsH_step (D := 2) (by decide) hR | exact bitsH_step (D := 4) (by decide) hR | exact bitsH_step (D := 8) (by decide) hR | exact bitsH_step (D := 16) (by decide) hR | exact bitsH_step (D := 32) (by decide) hR | exact bitsH_step (D := 64) (by decide) hR | exact bitsH_step (D := 128) (by decide) hR)
      try rw [Int.ediv_one] at hb
      clear hR
      have T := rstep_any (S : Int) b w (by omega) (by omega) hb2
      rw [Int.toNat_natCast] at T
      have hlt := st_lt (S ^^^ 2 ^ 63 * b.toNat)
      generalize st (S ^^^ 2 ^ 63 * b.toNat) = S2 at *
      go_wp2_with (go_at_call 20; refine T.mono ?_; rintro e w' ⟨rfl, rfl⟩)
      go_round
      case rel => exact ⟨_, S2, by omega, by go_num, rfl, by omega, hR'.out⟩
      case measure => simp [intOf]

set_option maxHeartbeats 1000000 in
theorem rbehind_any (s : Int) (b : Option Addr) (len cap : Nat) (xs : List Int) (w : World) (r : RowIn .u8 w b len cap xs) (h : 0 ≤ s) (h2 : s < 18446744073709551616) :
    Calls Try.prog 17 #[.int .u64 s, .slice b len cap] w fun e w' => e = .returned (.int .u64 (crcI s xs)) ∧ ∃ k, w' = w.drewN k := by
  obtain ⟨rd, rfl, hc, hm⟩ := r
  have hl := rd.len
  go_enter Try.func17, Try.ntmps17
  go_wp2
  go_loopw [0, 5] (fun t i wr => ∃ k : Nat, k ≤ xs.length ∧ i = .int .i64 k ∧ t = .int .u64 (crcI s (xs.take k)) ∧ ∃ q, wr = w.drewN q) (fun _ i _ => xs.length - (intOf i).toNat)
  case atStart => exact ⟨0, by omega, rfl, by simp [crcI, crcN]; omega, 0, rfl⟩
  case round =>
    obtain ⟨k, hk, rfl, rfl, q, rfl⟩ := hrel
    by_cases hlt2 : k < xs.length
    · have hbd := crcI_bd (xs := xs.take k) h h2 (fun x hx => rd.2.2 x (List.mem_of_mem_take hx))
      have he := hid (crcI_snoc s xs k hlt2)
      obtain ⟨b1, off, rfl, hcell⟩ := (rd.drewN q).cells (by intro h0; rw [h0] at hlt2; simp at hlt2)
      have hc0 := hcell k hlt2
      have hx := bd_u8 (rd.2.2 (xs.getD k 0) (by rw [List.getD_eq_getElem?_getD, List.getElem?_eq_getElem hlt2]; simp))
      generalize crcI s (xs.take k) = S at *
      generalize xs.getD k 0 = x at *
      clear hcell rd
      go_wp2_with (go_at_call 19; refine (rbyte_any _ _ _ hbd.1 hbd.2 hx.1 (by omega)).mono ?_; rintro e w' ⟨rfl, rfl⟩)
      go_roundw
      case rel => exact ⟨k + 1, by omega, by go_num, by rw [he.out], q, rfl⟩
      case measure => simp [intOf]; omega
    · obtain rfl : k = xs.length := by omega
      go_wp2
      go_ret
      exact ⟨by rw [show crcI s xs = crcI s (xs.take xs.length) by rw [List.take_length]]; rfl, q, rfl⟩

set_option maxHeartbeats 400000 in
theorem rnext_any (s : Int) (b : Option Addr) (len cap : Nat) (xs : List Int) (w : World) (r : RowIn .u8 w b len cap xs) (h : 0 ≤ s) (h2 : s < 18446744073709551616) :
    Calls Try.prog 14 #[.int .u64 s, .slice b len cap] w fun e w' => e = .returned (.tuple #[.int .u64 (nxN s xs), .int .i64 (nxE xs)]) ∧ ∃ k, w' = w.drewN k := by
  have hl := r.rd.len
  have hll := r.hl
  unfold nxN nxE
  by_cases hlt : xs.length ≤ 100000
  · rw [if_pos hlt, if_pos hlt]
    have ht : (100000 < (len : Int)) = False := eq_false (by omega)
    have X := rbehind_any s b len cap xs w r h h2
    go_enter Try.func14, Try.ntmps14
    go_wp2_with (go_at_call 17; refine X.mono ?_; rintro e w' ⟨rfl, q, rfl⟩)
    go_ret2
    exact ⟨rfl, q, rfl⟩
  · rw [if_neg hlt, if_neg hlt]
    have ht : (100000 < (len : Int)) = True := eq_true (by omega)
    go_enter Try.func14, Try.ntmps14
    go_wp2
    go_ret2
    exact ⟨rfl, 0, rfl⟩

set_option maxHeartbeats 400000 in
theorem rsum_any (b : Option Addr) (len cap : Nat) (xs : List Int) (w : World) (r : RowIn .u8 w b len cap xs) :
    Calls Try.prog 15 #[.slice b len cap] w fun e w' => e = .returned (.tuple #[.int .u64 (nxN 0 xs), .int .i64 (nxE xs)]) ∧ ∃ k, w' = w.drewN k := by
  have X := rnext_any 0 b len cap xs w r (by omega) (by omega)
  generalize nxN 0 xs = S at *
  generalize nxE xs = E at *
  go_enter Try.func15, Try.ntmps15
  go_wp2_with (go_at_call 14; refine X.mono ?_; rintro e w' ⟨rfl, q, rfl⟩)
  go_ret2
  exact ⟨rfl, q, rfl⟩

/-- Great. -/
def greatC (len : Nat) : Bool := decide (1000 < len) && decide (len ≤ 100000) || decide (100100 < len)

set_option maxHeartbeats 1000000 in
theorem great_any (b : Option Addr) (len cap : Nat) (xs : List Int) (w : World) (r : RowIn .u8 w b len cap xs) :
    Calls Try.prog 13 #[.slice b len cap] w fun e w' => e = .returned (.bool (greatC len)) ∧ w = w' := by
  have hl := r.rd.len
  rw [r.hl] at hl
  unfold greatC
  rcases (show len ≤ 1000 ∨ (1000 < len ∧ len ≤ 100000) ∨ (100000 < len ∧ len ≤ 100100) ∨ 100100 < len by omega) with g | ⟨g, g'⟩ | ⟨g, g'⟩ | g
  · rw [show (decide (1000 < len) && decide (len ≤ 100000) || decide (100100 < len)) = false by simp; omega]
    have f1 : (1000 < (len : Int)) = False := eq_false (by omega)
    have f2 : (100100 < (len : Int)) = False := eq_false (by omega)
    go_enter Try.func13, Try.ntmps13
    go_wp2
    go_ret
    exact ⟨rfl, rfl⟩
  · rw [show (decide (1000 < len) && decide (len ≤ 100000) || decide (100100 < len)) = true by simp; omega]
    have f1 : (1000 < (len : Int)) = True := eq_true (by omega)
    have f2 : ((len : Int) ≤ 100000) = True := eq_true (by omega)
    go_enter Try.func13, Try.ntmps13
    go_wp2
    go_ret
    exact ⟨rfl, rfl⟩
  · rw [show (decide (1000 < len) && decide (len ≤ 100000) || decide (100100 < len)) = false by simp; omega]
    have f1 : (1000 < (len : Int)) = True := eq_true (by omega)
    have f2 : ((len : Int) ≤ 100000) = False := eq_false (by omega)
    have f3 : (100100 < (len : Int)) = False := eq_false (by omega)
    go_enter Try.func13, Try.ntmps13
    go_wp2
    go_ret
    exact ⟨rfl, rfl⟩
  · rw [show (decide (1000 < len) && decide (len ≤ 100000) || decide (100100 < len)) = true by simp; omega]
    have f1 : (1000 < (len : Int)) = True := eq_true (by omega)
    have f2 : ((len : Int) ≤ 100000) = False := eq_false (by omega)
    have f3 : (100100 < (len : Int)) = True := eq_true (by omega)
    go_enter Try.func13, Try.ntmps13
    go_wp2
    go_ret
    exact ⟨rfl, rfl⟩
end Go.Proofs.Ytpbignknpccpkaa.R04

/- What the functions of package crc64 return: walks of their Go text. -/
import Derived.Test.YtdblcfajejhbaaaProg
import Derived.Test.YtdblcfajejhbaaaKit
import Derived.Test.YtdblcfajejhbaaaKit2
import Derived.Test.YtdblcfajejhbaaaKit4
import Derived.Test.YtdblcfajejhbaaaMath04
import Derived.Deep.QuietTactic
import Derived.BigQuiet
namespace Go.Proofs.Ytdblcfajejhbaaa.Cr6
open Go.RowKit Go.Proofs.Ytdblcfajejhbaaa.Kit Go.Proofs.Ytdblcfajejhbaaa.M04
open Go.Proofs.Ytdblcfajejhbaaa.M03 (xor_u8)
set_option linter.unusedVariables false

/-- The state behind a byte, behind bytes. -/
def behI (s x : Int) : Int := ((beh s.toNat x.toNat : Nat) : Int)
def crcI (s : Int) (xs : List Int) : Int := ((crcN s.toNat xs : Nat) : Int)

theorem behI_bd {s x : Int} (h : 0 ≤ s) (h2 : s < 18446744073709551616) (hx : 0 ≤ x) (hx2 : x < 256) : 0 ≤ behI s x ∧ behI s x < 18446744073709551616 := by
  have := beh_lt (s := s.toNat) (x := x.toNat) (by omega) (by omega)
  unfold behI; omega

theorem crcI_bd {s : Int} {xs : List Int} (h : 0 ≤ s) (h2 : s < 18446744073709551616) (hx : ∀ x ∈ xs, (Lit.int .u8 x).wf = true) : 0 ≤ crcI s xs ∧ crcI s xs < 18446744073709551616 := by
  have := crcN_lt xs hx (s := s.toNat) (by omega)
  unfold crcI; omega

theorem crcI_snoc (s : Int) (xs : List Int) (k : Nat) (hk : k < xs.length) : crcI s (xs.take (k + 1)) = behI (crcI s (xs.take k)) (xs.getD k 0) := by
  unfold crcI behI
  rw [List.take_add_one, crcN_append, List.getElem?_eq_getElem hk, List.getD_eq_getElem?_getD, List.getElem?_eq_getElem hk]
  simp [crcN]

theorem crcI_append (s : Int) (xs ys : List Int) : crcI s (xs ++ ys) = crcI (crcI s xs) ys := by unfold crcI; rw [crcN_append]; rfl
theorem crcI_one (s x : Int) : crcI s [x] = behI s x := rfl

set_option maxHeartbeats 400000 in
theorem step_any (s : Int) (w : World) (h : 0 ≤ s) (h2 : s < 18446744073709551616) :
    Calls Try.prog 58 #[.int .u64 s] w fun e w' => e = .returned (.int .u64 ((st s.toNat : Nat) : Int)) ∧ w = w' := by
  rcases (show s < 9223372036854775808 ∨ 9223372036854775808 ≤ s by omega) with hd | hd
  · have hv : ((st s.toNat : Nat) : Int) = s * 2 := by rw [st_low (by omega)]; omega
    rw [hv]
    have ht : (s / 9223372036854775808 = 1) = False := eq_false (by omega)
    go_enter Try.func58, Try.ntmps58
    go_wp2
    go_ret
    exact ⟨rfl, rfl⟩
  · have hv : ((st s.toNat : Nat) : Int) = bits .xor .u64 (s * 2 - 18446744073709551616) 4823603603198064275 := by
      rw [st_high (by omega) (by omega), xor_u64 (by omega) (by omega) (by omega) (by omega), show (s * 2 - 18446744073709551616).toNat = 2 * s.toNat % 2 ^ 64 by omega]; rfl
    rw [hv]
    have ht : (s / 9223372036854775808 = 1) = True := eq_true (by omega)
    have hw : IntKind.u64.wrap (s * 2) = s * 2 - 18446744073709551616 := by rw [IntKind.wrap_u64]; omega
    go_enter Try.func58, Try.ntmps58
    go_wp2
    go_ret
    exact ⟨rfl, rfl⟩

theorem sts_beh {S x : Int} {m : Nat} (h : m = S.toNat ^^^ 2 ^ 56 * x.toNat) : ((sts 8 m : Nat) : Int) = behI S x := by
  subst h; rfl

set_option maxHeartbeats 4000000 in
theorem behind_any (s : Int) (b : Option Addr) (len cap : Nat) (xs : List Int) (w : World) (r : RowIn .u8 w b len cap xs) (h : 0 ≤ s) (h2 : s < 18446744073709551616) :
    Calls Try.prog 52 #[.int .u64 s, .slice b len cap] w fun e w' => e = .returned (.int .u64 (crcI s xs)) ∧ w = w' := by
  obtain ⟨rd, rfl, hc, hm⟩ := r
  have hl := rd.len
  go_enter Try.func52, Try.ntmps52
  go_wp2
  go_loop [0, 9] (fun t i => ∃ k : Nat, k ≤ xs.length ∧ i = .int .i64 k ∧ t = .int .u64 (crcI s (xs.take k))) (fun _ i => xs.length - (intOf i).toNat)
  case atStart => exact ⟨0, by omega, by go_num, by simp [crcI, crcN]; omega⟩
  case round =>
    obtain ⟨k, hk, rfl, rfl⟩ := hrel
    by_cases hlt2 : k < xs.length
    · have hbd := crcI_bd (xs := xs.take k) h h2 (fun x hx => rd.2.2 x (List.mem_of_mem_take hx))
      have he := hid (crcI_snoc s xs k hlt2)
      obtain ⟨b1, off, rfl, hcell⟩ := rd.cells (by intro h0; rw [h0] at hlt2; simp at hlt2)
      have hc0 := hcell k hlt2
      have hx := bd_u8 (rd.2.2 (xs.getD k 0) (by rw [List.getD_eq_getElem?_getD, List.getElem?_eq_getElem hlt2]; simp))
      generalize crcI s (xs.take k) = S at *
      generalize xs.getD k 0 = x at *
      clear hcell rd
      obtain ⟨m, hm0⟩ : ∃ m, m = S.toNat ^^^ 2 ^ 56 * x.toNat := ⟨_, rfl⟩
      have hb := hid (sts_beh hm0)
      have hm2 : m < 2 ^ 64 := by rw [hm0]; exact Nat.xor_lt_two_pow (by omega) (by omega)
      have hxr : bits .xor .u64 S (x * 72057594037927936) = (m : Int) := by
        rw [xor_u64 hbd.1 hbd.2 (by omega) (by omega), hm0, show (x * 72057594037927936).toNat = 2 ^ 56 * x.toNat by omega]
      clear hm0
      go_wp2
      go_loop [0, 18] (fun t i => ∃ n : Nat, n ≤ 8 ∧ i = .int .i64 n ∧ t = .int .u64 ((sts n m : Nat) : Int)) (fun _ i => 8 - (intOf i).toNat)
      case atStart => exact ⟨0, by omega, by go_num, by go_num⟩
      case round =>
        obtain ⟨n, hn, rfl, rfl⟩ := hrel
        have hsl := sts_lt n hm2
        have hse := hid (sts_end n m)
        by_cases hlt : n < 8
        · have T := step_any ((sts n m : Nat) : Int) w (by omega) (by omega)
          rw [Int.toNat_natCast] at T
          generalize sts n m = S1 at *
          go_wp2_with (go_at_call 58; refine T.mono ?_; rintro e w' ⟨rfl, rfl⟩)
          go_round
          case rel => exact ⟨n + 1, by omega, by go_num, by rw [hse.out]⟩
          case measure => simp [intOf]; omega
        · obtain rfl : n = 8 := by omega
          go_wp2
          go_round
          case rel => exact ⟨k + 1, by omega, by go_num, by rw [hb.out, he.out]⟩
          case measure => simp [intOf]; omega
    · obtain rfl : k = xs.length := by omega
      go_wp2
      go_ret
      exact ⟨by rw [← List.take_length (l := xs)]; rfl, rfl⟩

/-- Next and Sum. -/
def nxE (xs : List Int) : Int := if xs.length ≤ 100000 then 0 else 4
def nxN (s : Int) (xs : List Int) : Int := if xs.length ≤ 100000 then crcI s xs else 0

set_option maxHeartbeats 1000000 in
theorem next_any (s : Int) (b : Option Addr) (len cap : Nat) (xs : List Int) (w : World) (r : RowIn .u8 w b len cap xs) (h : 0 ≤ s) (h2 : s < 18446744073709551616) :
    Calls Try.prog 30 #[.int .u64 s, .slice b len cap] w fun e w' => e = .returned (.tuple #[.int .u64 (nxN s xs), .int .i64 (nxE xs)]) ∧ w = w' := by
  have hll := r.hl
  have hl := r.rd.len
  unfold nxN nxE
  by_cases hlt : xs.length ≤ 100000
  · rw [if_pos hlt, if_pos hlt]
    have ht : (100000 < (len : Int)) = False := eq_false (by omega)
    have X := behind_any s b len cap xs w r h h2
    go_enter Try.func30, Try.ntmps30
    go_wp2_with (go_at_call 52; refine X.mono ?_; rintro e w' ⟨rfl, rfl⟩)
    go_ret2
    exact ⟨rfl, rfl⟩
  · rw [if_neg hlt, if_neg hlt]
    have ht : (100000 < (len : Int)) = True := eq_true (by omega)
    go_enter Try.func30, Try.ntmps30
    go_wp2
    go_ret2
    exact ⟨rfl, rfl⟩

set_option maxHeartbeats 400000 in
theorem sum_any (b : Option Addr) (len cap : Nat) (xs : List Int) (w : World) (r : RowIn .u8 w b len cap xs) :
    Calls Try.prog 32 #[.slice b len cap] w fun e w' => e = .returned (.tuple #[.int .u64 (nxN 0 xs), .int .i64 (nxE xs)]) ∧ w = w' := by
  have X := next_any 0 b len cap xs w r (by omega) (by omega)
  generalize nxN 0 xs = S at *
  generalize nxE xs = E at *
  go_enter Try.func32, Try.ntmps32
  go_wp2_with (go_at_call 30; refine X.mono ?_; rintro e w' ⟨rfl, rfl⟩)
  go_ret2
  exact ⟨rfl, rfl⟩

/-- The table. -/
def tbl (k : Nat) : List Int := (List.range k).map fun i : Nat => behI 0 (i : Int)
theorem tbl_length (k : Nat) : (tbl k).length = k := by simp [tbl]
theorem tbl_get {k i : Nat} (h : i < k) : (tbl k).getD i 0 = behI 0 (i : Int) := by
  rw [List.getD_eq_getElem?_getD]; simp [tbl, h]
theorem wf_u64 {x : Int} (h : 0 ≤ x) (h2 : x < 18446744073709551616) : (Lit.int .u64 x).wf = true := by
  simp [Lit.wf, IntKind.min, IntKind.max, IntKind.signed, IntKind.bits]; omega
theorem tbl_wf {k : Nat} (hk : k ≤ 256) : ∀ x ∈ tbl k, (Lit.int .u64 x).wf = true := by
  intro x hx
  simp only [tbl, List.mem_map, List.mem_range] at hx
  obtain ⟨i, hi, rfl⟩ := hx
  have := behI_bd (s := 0) (x := (i : Int)) (by omega) (by omega) (by omega) (by omega)
  exact wf_u64 this.1 this.2

theorem tbl_set (k : Nat) (hk : k < 256) : (tbl k ++ List.replicate (256 - k) (0 : Int)).set k (behI 0 (k : Int)) = tbl (k + 1) ++ List.replicate (256 - (k + 1)) 0 := by
  rw [show 256 - k = (256 - (k + 1)) + 1 by omega, List.replicate_succ]
  have : tbl (k + 1) = tbl k ++ [behI 0 (k : Int)] := by simp [tbl, List.range_succ]
  rw [this, List.append_assoc, List.set_append_right _ _ (by rw [tbl_length]; exact Nat.le_refl _), tbl_length, Nat.sub_self]
  rfl
end Go.Proofs.Ytdblcfajejhbaaa.Cr6

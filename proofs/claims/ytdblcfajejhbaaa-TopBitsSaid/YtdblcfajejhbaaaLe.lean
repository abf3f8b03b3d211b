/- What the functions of package le return: walks of their Go text. -/
import Derived.Test.YtdblcfajejhbaaaProg
import Derived.Test.YtdblcfajejhbaaaKit
import Derived.Test.YtdblcfajejhbaaaMath01
import Derived.Deep.QuietTactic
import Derived.BigQuiet
namespace Go.Proofs.Ytdblcfajejhbaaa.Le
open Go.RowKit Go.Proofs.Ytdblcfajejhbaaa.Kit Go.Proofs.Ytdblcfajejhbaaa.M01
set_option linter.unusedVariables false

set_option maxHeartbeats 400000 in
theorem isWidth_any (x : Int) (w : World) :
    Calls Try.prog 49 #[.int .i64 x] w fun e w' => e = .returned (.bool (isW x)) ∧ w = w' := by
  by_cases h1 : 1 ≤ x <;> by_cases h2 : x ≤ 8
  all_goals
    go_enter Try.func49, Try.ntmps49
    go_wp2
    go_ret
    exact ⟨by simp [isW, h1, h2], rfl⟩

set_option maxHeartbeats 400000 in
theorem unused_any (x : Int) (w : World) (h : isW x = true) :
    Calls Try.prog 59 #[.int .i64 x] w fun e w' => e = .returned (.int .i64 (64 - 8 * x)) ∧ w = w' := by
  obtain ⟨h1, h2⟩ := isW_of h
  go_enter Try.func59, Try.ntmps59
  go_wp2
  go_ret
  exact ⟨rfl, rfl⟩

theorem low_eq (n x : Int) (h : isW x = true) (hn : 0 ≤ n) (hn2 : n < 18446744073709551616) : bits .and .u64 n (18446744073709551615 / 2 ^ (64 - 8 * x).toNat) = n % pw x.toNat := by
  obtain ⟨h1, h2⟩ := isW_of h
  have key : ∀ j : Nat, j ≤ 64 → ∀ m : Int, m = 2 ^ j - 1 → bits .and .u64 n m = n % 2 ^ j := by
    intro j hj m hm
    subst hm
    have hp : (2 : Int) ^ j ≤ 18446744073709551616 := by
      have : (2 : Int) ^ j ≤ 2 ^ 64 := by
        have := Nat.pow_le_pow_right (show 0 < 2 by omega) hj
        exact_mod_cast this
      simpa using this
    have hq : (1 : Int) ≤ 2 ^ j := by exact_mod_cast Nat.one_le_two_pow
    rw [u64_and _ _ hn hn2 (by omega) (by omega)]
    have e : ((2 : Int) ^ j - 1).toNat = 2 ^ j - 1 := by
      have : ((2 : Int) ^ j - 1) = ((2 ^ j - 1 : Nat) : Int) := by
        rw [Int.natCast_sub Nat.one_le_two_pow]; simp
      rw [this, Int.toNat_natCast]
    rw [e, Nat.and_two_pow_sub_one_eq_mod]
    rw [Int.natCast_emod, Int.toNat_of_nonneg hn]
    simp
  rcases (show x = 1 ∨ x = 2 ∨ x = 3 ∨ x = 4 ∨ x = 5 ∨ x = 6 ∨ x = 7 ∨ x = 8 by omega) with rfl | rfl | rfl | rfl | rfl | rfl | rfl | rfl
  · exact key 8 (by decide) _ (by decide +kernel)
  · exact key 16 (by decide) _ (by decide +kernel)
  · exact key 24 (by decide) _ (by decide +kernel)
  · exact key 32 (by decide) _ (by decide +kernel)
  · exact key 40 (by decide) _ (by decide +kernel)
  · exact key 48 (by decide) _ (by decide +kernel)
  · exact key 56 (by decide) _ (by decide +kernel)
  · exact key 64 (by decide) _ (by decide +kernel)

set_option maxHeartbeats 400000 in
theorem low_any (n x : Int) (w : World) (h : isW x = true) (hn : 0 ≤ n) (hn2 : n < 18446744073709551616) :
    Calls Try.prog 57 #[.int .u64 n, .int .i64 x] w fun e w' => e = .returned (.int .u64 (n % pw x.toNat)) ∧ w = w' := by
  obtain ⟨h1, h2⟩ := isW_of h
  go_enter Try.func57, Try.ntmps57
  go_wp2_with (go_at_call 59; refine (unused_any _ _ h).mono ?_; rintro e w' ⟨rfl, rfl⟩)
  go_ret
  exact ⟨by show Ending.returned (Value.int .u64 (bits .and .u64 n _)) = _; rw [low_eq n x h hn hn2], rfl⟩

def ext (n x : Int) : Int := if (pw x.toNat - 1) / 2 < n % pw x.toNat then n % pw x.toNat - pw x.toNat else n % pw x.toNat

theorem ext_eq (n x : Int) (h : isW x = true) : wrap64 (IntKind.u64.wrap (n * 2 ^ (64 - 8 * x).toNat)) / 2 ^ (64 - 8 * x).toNat = ext n x := by
  obtain ⟨h1, h2⟩ := isW_of h
  unfold wrap64 ext
  rw [IntKind.wrap_u64]
  rcases (show x = 1 ∨ x = 2 ∨ x = 3 ∨ x = 4 ∨ x = 5 ∨ x = 6 ∨ x = 7 ∨ x = 8 by omega) with rfl | rfl | rfl | rfl | rfl | rfl | rfl | rfl
  · rw [show ((2 : Int) ^ (64 - 8 * (1 : Int)).toNat) = 72057594037927936 by decide +kernel, show pw (1 : Int).toNat = 256 by decide +kernel]; split <;> omega
  · rw [show ((2 : Int) ^ (64 - 8 * (2 : Int)).toNat) = 281474976710656 by decide +kernel, show pw (2 : Int).toNat = 65536 by decide +kernel]; split <;> omega
  · rw [show ((2 : Int) ^ (64 - 8 * (3 : Int)).toNat) = 1099511627776 by decide +kernel, show pw (3 : Int).toNat = 16777216 by decide +kernel]; split <;> omega
  · rw [show ((2 : Int) ^ (64 - 8 * (4 : Int)).toNat) = 4294967296 by decide +kernel, show pw (4 : Int).toNat = 4294967296 by decide +kernel]; split <;> omega
  · rw [show ((2 : Int) ^ (64 - 8 * (5 : Int)).toNat) = 16777216 by decide +kernel, show pw (5 : Int).toNat = 1099511627776 by decide +kernel]; split <;> omega
  · rw [show ((2 : Int) ^ (64 - 8 * (6 : Int)).toNat) = 65536 by decide +kernel, show pw (6 : Int).toNat = 281474976710656 by decide +kernel]; split <;> omega
  · rw [show ((2 : Int) ^ (64 - 8 * (7 : Int)).toNat) = 256 by decide +kernel, show pw (7 : Int).toNat = 72057594037927936 by decide +kernel]; split <;> omega
  · rw [show ((2 : Int) ^ (64 - 8 * (8 : Int)).toNat) = 1 by decide +kernel, show pw (8 : Int).toNat = 18446744073709551616 by decide +kernel]; split <;> omega


def fitsB (n x : Int) : Bool := decide (n < pw x.toNat)

set_option maxHeartbeats 400000 in
theorem fits_any (n x : Int) (w : World) (h : isW x = true) (hn : 0 ≤ n) (hn2 : n < 18446744073709551616) :
    Calls Try.prog 50 #[.int .u64 n, .int .i64 x] w fun e w' => e = .returned (.bool (fitsB n x)) ∧ w = w' := by
  go_enter Try.func50, Try.ntmps50
  go_wp2_with (go_at_call 57; refine (low_any _ _ _ h hn hn2).mono ?_; rintro e w' ⟨rfl, rfl⟩)
  go_ret
  refine ⟨?_, rfl⟩
  show Ending.returned (Value.bool (n % pw x.toNat == n)) = _
  unfold fitsB
  have hp := pw_pos x.toNat
  by_cases hc : n < pw x.toNat
  · rw [Int.emod_eq_of_lt hn hc]; simp [hc]
  · have : n % pw x.toNat < pw x.toNat := Int.emod_lt_of_pos _ (by omega)
    simp [hc]; omega

theorem or_eq (V y : Int) (k : Nat) (hk : k < 8) (hV : 0 ≤ V) (hV2 : V < pw k) (hy : 0 ≤ y) (hy2 : y < 256) : bits .or .u64 V (IntKind.u64.wrap (y * 2 ^ (8 * k))) = V + y * pw k := by
  have e : ((2 : Int) ^ (8 * k)) = pw k := by
    rw [Int.pow_mul]; rfl
  have hb := pw_bd (show k + 1 ≤ 8 by omega)
  rw [pw_succ] at hb
  have hp := pw_pos k
  have hm : y * pw k ≤ 255 * pw k := Int.mul_le_mul_of_nonneg_right (by omega) (by omega)
  have hm0 : 0 ≤ y * pw k := Int.mul_nonneg hy (by omega)
  rw [e, IntKind.wrap_u64, Int.emod_eq_of_lt hm0 (by omega), u64_or _ _ hV (by omega) hm0 (by omega)]
  obtain ⟨v, rfl⟩ := Int.eq_ofNat_of_zero_le hV
  obtain ⟨z, rfl⟩ := Int.eq_ofNat_of_zero_le hy
  have ep : pw k = ((2 ^ (8 * k) : Nat) : Int) := by
    unfold pw; rw [show (256 : Int) = ((2 ^ 8 : Nat) : Int) by decide, ← Int.natCast_pow, Nat.pow_mul]
  rw [ep, ← Int.natCast_mul, Int.toNat_natCast, Int.toNat_natCast, Nat.or_comm]
  rw [nat_join (8 * k) (z * 2 ^ (8 * k)) v (by simp) (by rw [ep] at hV2; omega)]
  rw [Int.natCast_add]; omega

theorem byte_of {k : World} {a : Option Addr} {xs : List Int} (h : Reads .u8 k a xs) : isByte xs := fun x hx => by
  have := bounds_u8 (h.2.2 x hx); omega

set_option maxHeartbeats 400000 in
theorem number_any (a : Option Addr) (len cap : Nat) (xs : List Int) (w : World) (hr : Reads .u8 w a xs) (hl : xs.length = len) (h8 : xs.length ≤ 8) :
    Calls Try.prog 54 #[.slice a len cap] w fun e w' => e = .returned (.int .u64 (val xs)) ∧ w = w' := by
  subst hl
  have hby := byte_of hr
  by_cases h0 : xs = []
  · subst h0
    go_enter Try.func54, Try.ntmps54
    go_wp2
    refine wp_loop_rounds 1 ?_
    rw [rounds_succ]
    go_wp2
    go_ret
    exact ⟨rfl, rfl⟩
  · obtain ⟨b, off, rfl, hc⟩ := hr.cells h0
    clear hr h0
    go_enter Try.func54, Try.ntmps54
    go_wp2
    go_loop [3, 8] (fun n i => ∃ k : Nat, k ≤ xs.length ∧ i = .int .i64 k ∧ n = .int .u64 (val (xs.take k))) (fun _ i => xs.length - (intOf i).toNat)
    case atStart => exact ⟨0, Nat.zero_le _, rfl, by simp [val]⟩
    case round =>
      obtain ⟨k, hk, rfl, rfl⟩ := hrel
      by_cases hlt : k < xs.length
      · have hd := val_take_succ xs k hlt
        have hv := val_lt (isByte_take hby k)
        have hv0 := val_nonneg (isByte_take hby k)
        rw [List.length_take, Nat.min_eq_left (by omega)] at hv
        have hcj := hc k hlt
        have hy := isByte_at hby hlt
        obtain ⟨y, ey⟩ : ∃ y, xs.getD k 0 = y := ⟨_, rfl⟩
        obtain ⟨V, eV⟩ : ∃ V, val (xs.take k) = V := ⟨_, rfl⟩
        rw [ey] at hd hcj hy
        rw [eV] at hd hv hv0 ⊢
        have HD : Hid (val (xs.take (k + 1)) = V + y * pw k) := hd
        have HO : Hid _ := or_eq V y k (by omega) hv0 hv hy.1 hy.2
        clear hd ey eV hc
        go_wp2
        go_round
        case rel => exact ⟨k + 1, by omega, by go_num, by rw [HD.out, ← HO.out]⟩
        case measure => simp [intOf]; omega
      · obtain rfl : k = xs.length := by omega
        go_wp2
        go_ret
        exact ⟨by simp, rfl⟩


set_option maxHeartbeats 400000 in
theorem at_any (a : Option Addr) (len cap : Nat) (xs : List Int) (i x : Int) (w : World) (hr : Reads .u8 w a xs) (hl : xs.length = len) (hcap : len ≤ cap) (hm : cap ≤ 9223372036854775807) (hi : i ≤ 9223372036854775807) :
    Calls Try.prog 34 #[.slice a len cap, .int .i64 i, .int .i64 x] w fun e w' => e = .returned (.tuple #[.int .u64 (atN xs i x), .int .i64 (atE xs i x)]) ∧ w = w' := by
  subst hl
  by_cases h : isW x = true
  · by_cases hi0 : i < 0
    · have e1 : atN xs i x = 0 := by simp [atN, h, hi0]
      have e2 : atE xs i x = 2 := by simp [atE, h, hi0]
      rw [e1, e2]
      clear e1 e2
      go_enter Try.func34, Try.ntmps34
      go_wp2_with (go_at_call 49; refine (isWidth_any _ _).mono ?_; rintro e w' ⟨rfl, rfl⟩)
      go_ret2
      exact ⟨rfl, rfl⟩
    · have hx := isW_of h
      by_cases hs : (xs.length : Int) < i + x
      · have e1 : atN xs i x = 0 := by simp [atN, h, hi0, hs]
        have e2 : atE xs i x = 24 := by simp [atE, h, hi0, hs]
        rw [e1, e2]
        clear e1 e2
        go_enter Try.func34, Try.ntmps34
        go_wp2_with (go_at_call 49; refine (isWidth_any _ _).mono ?_; rintro e w' ⟨rfl, rfl⟩)
        go_ret2
        exact ⟨rfl, rfl⟩
      · have e1 : atN xs i x = val ((xs.drop i.toNat).take x.toNat) := by simp [atN, h, hi0, hs]
        have e2 : atE xs i x = 0 := by simp [atE, h, hi0, hs]
        rw [e1, e2]
        clear e1 e2
        obtain ⟨j, rfl⟩ := Int.eq_ofNat_of_zero_le (show 0 ≤ i by omega)
        obtain ⟨m, rfl⟩ := Int.eq_ofNat_of_zero_le (show 0 ≤ x by omega)
        simp only [Int.toNat_natCast]
        have hne : xs ≠ [] := by intro h0; subst h0; simp at hs; omega
        obtain ⟨b, off, rfl, hc⟩ := hr.cells hne
        have hr2 := (hr.drop j).take m
        have hl2 : ((xs.drop j).take m).length = m := by rw [List.length_take, List.length_drop]; omega
        have hm8 : m ≤ 8 := by omega
        clear hc hr hne
        go_enter Try.func34, Try.ntmps34
        go_wp2_with (first | (go_at_call 49; refine (isWidth_any _ _).mono ?_; rintro e w' ⟨rfl, rfl⟩) | (go_at_call 54; refine (number_any _ _ _ _ _ hr2 hl2 (by omega)).mono ?_; rintro e w' ⟨rfl, rfl⟩))
        go_ret2
        exact ⟨rfl, rfl⟩
  · have h' : isW x = false := by simpa using h
    have e1 : atN xs i x = 0 := by simp [atN, h']
    have e2 : atE xs i x = 2 := by simp [atE, h']
    rw [e1, e2]
    clear e1 e2 h
    go_enter Try.func34, Try.ntmps34
    go_wp2_with (go_at_call 49; refine (isWidth_any _ _).mono ?_; rintro e w' ⟨rfl, rfl⟩)
    go_ret2
    exact ⟨rfl, rfl⟩

theorem info_u8 : (Try.prog.info? 5).map (fun i => (i.zero, i.size, i.bytes)) = some (some (.int .u8 0), 1, 1) := by kernel_rfl
theorem wf_u8 {x : Int} (h0 : 0 ≤ x) (h1 : x < 256) : (Lit.int .u8 x).wf = true := by
  simp [Lit.wf, IntKind.min, IntKind.max, IntKind.signed, IntKind.bits]; omega
theorem wf_byte {l : List Int} (h : isByte l) : ∀ x ∈ l, (Lit.int .u8 x).wf = true := fun x hx => wf_u8 (h x hx).1 (h x hx).2

/-- The row of Bytes behind k rounds: k bytes, and zeros. -/
def row (n : Int) (m k : Nat) : List Int := digs n k ++ List.replicate (m - k) 0
theorem row_len {n : Int} {m k : Nat} (h : k ≤ m) : (row n m k).length = m := by simp [row, digs_length]; omega
theorem row_set {n : Int} {m k : Nat} (h : k < m) : (row n m k).set k (n / pw k % 256) = row n m (k + 1) := by
  unfold row
  rw [List.set_append_right _ _ (by rw [digs_length]; omega), digs_length, digs_snoc, List.append_assoc]
  congr 1
  obtain ⟨j, hj⟩ : ∃ j, m - k = j + 1 := ⟨m - k - 1, by omega⟩
  rw [hj, show m - (k + 1) = j by omega, List.replicate_succ]
  simp

theorem shr_eq (n : Int) (k : Nat) : n / 2 ^ (8 * k) = n / pw k := by
  rw [Int.pow_mul]; rfl

set_option maxHeartbeats 400000 in
theorem bytes_any (n x : Int) (w : World) (hn : 0 ≤ n) (hn2 : n < 18446744073709551616) :
    Calls Try.prog 28 #[.int .u64 n, .int .i64 x] w fun e w' => ∃ a cap, e = .returned (.tuple #[.slice a (bytesL n x).length cap, .int .i64 (bytesE n x)]) ∧ RowIn .u8 w' a (bytesL n x).length cap (bytesL n x) ∧ Below w.heap.size w w' := by
  by_cases h : isW x = true
  · by_cases h1 : n < pw x.toNat
    · have e1 : bytesL n x = digs n x.toNat := by simp [bytesL, h, h1]
      have e2 : bytesE n x = 0 := by simp [bytesE, h, h1]
      rw [e1, e2]
      clear e1 e2
      have hx := isW_of h
      obtain ⟨m, rfl⟩ := Int.eq_ofNat_of_zero_le (show 0 ≤ x by omega)
      rw [Int.toNat_natCast] at h1 ⊢
      obtain ⟨i0, hi, hz0, hz1, hz2⟩ := info_parts info_u8
      have ht : fitsB n (m : Int) = true := by unfold fitsB; rw [Int.toNat_natCast]; exact decide_eq_true h1
      go_enter Try.func28, Try.ntmps28
      go_wp2_with (first | (go_at_call 49; refine (isWidth_any _ _).mono ?_; rintro e w' ⟨rfl, rfl⟩) | (go_at_call 50; refine (fits_any _ _ _ h hn hn2).mono ?_; rintro e w' ⟨rfl, rfl⟩) | (at_make; refine makeI rfl _ _ 25 rfl w.heap.size 5 i0 1 .u8 Try.underlying25 hi hz0 hz1 hz2 _ m rfl rfl rfl (by omega) (by omega) (Nat.le_refl _) ?_; intro w1 hown hgr hb hsz))
      have hrow0 : row n m 0 = List.replicate m 0 := by simp [row, digs]
      go_loopw [19] (fun i wr => ∃ k : Nat, k ≤ m ∧ i = .int .i64 k ∧ OwnI .u8 wr w.heap.size 5 (.slice (some ⟨w.heap.size, 0, none⟩) m m) (row n m k) ∧ Below w.heap.size w wr) (fun i _ => m - (intOf i).toNat)
      case atStart => exact ⟨0, Nat.zero_le _, rfl, by rw [hrow0]; exact hown, hb⟩
      case round =>
        obtain ⟨k, hk, rfl, hownr, hbr⟩ := hrel
        clear hown hgr hb hrow0 ht hsz
        by_cases hlt : k < m
        · have hcell := hownr.cell k (by rw [row_len hk]; exact hlt)
          have hfree := hownr.free k
          have hset := hownr.set k (n / pw k % 256)
          rw [row_set hlt] at hset
          obtain ⟨y, ey⟩ : ∃ y, (row n m k).getD k 0 = y := ⟨_, rfl⟩
          rw [ey] at hcell
          have HS := hid hset
          have hsh := shr_eq n k
          clear ey hset hownr
          go_wp2
          go_roundw
          case rel => exact ⟨k + 1, by omega, by go_num, HS.out.1, hbr.trans HS.out.2⟩
          case measure => simp [intOf]; omega
        · obtain rfl : k = m := by omega
          go_wp2
          go_ret2
          rw [show row n k k = digs n k by simp [row]] at hownr
          obtain ⟨a, cap, hv, hr⟩ := hownr.row (wf_byte (digs_byte n k))
          rw [hv]
          exact ⟨a, cap, rfl, hr, hbr⟩
    · have ht : fitsB n x = false := by unfold fitsB; exact decide_eq_false h1
      have e1 : bytesL n x = [] := by simp [bytesL, h, h1]
      have e2 : bytesE n x = 16 := by simp [bytesE, h, h1]
      rw [e1, e2]
      clear e1 e2
      go_enter Try.func28, Try.ntmps28
      go_wp2_with (first | (go_at_call 49; refine (isWidth_any _ _).mono ?_; rintro e w' ⟨rfl, rfl⟩) | (go_at_call 50; refine (fits_any _ _ _ h hn hn2).mono ?_; rintro e w' ⟨rfl, rfl⟩))
      go_ret2
      exact ⟨none, 0, rfl, RowIn.nil, Below.refl _ _⟩
  · have h' : isW x = false := by simpa using h
    have e1 : bytesL n x = [] := by simp [bytesL, h']
    have e2 : bytesE n x = 2 := by simp [bytesE, h']
    rw [e1, e2]
    clear e1 e2 h
    go_enter Try.func28, Try.ntmps28
    go_wp2_with (go_at_call 49; refine (isWidth_any _ _).mono ?_; rintro e w' ⟨rfl, rfl⟩)
    go_ret2
    exact ⟨none, 0, rfl, RowIn.nil, Below.refl _ _⟩

theorem ext_sgn (n x : Int) (h : isW x = true) (hn : 0 ≤ n) (h1 : n < pw x.toNat) : ext n x = sgnN n x := by
  simp [ext, sgnN, h, h1, Int.emod_eq_of_lt hn h1]


theorem uns_low (n x : Int) (h : isW x = true) (hn : -9223372036854775808 ≤ n) (hn2 : n ≤ 9223372036854775807) :
    (n % 18446744073709551616 % pw x.toNat = n % pw x.toNat) ∧ (ext (n % pw x.toNat) x = n ↔ unsIn n x = true) ∧ (unsIn n x = true → n % pw x.toNat = if n < 0 then n + pw x.toNat else n) ∧ 0 ≤ n % pw x.toNat ∧ n % pw x.toNat < 18446744073709551616 := by
  obtain ⟨h1, h2⟩ := isW_of h
  unfold ext
  simp only [unsIn, Bool.and_eq_true, decide_eq_true_eq]
  rcases (show x = 1 ∨ x = 2 ∨ x = 3 ∨ x = 4 ∨ x = 5 ∨ x = 6 ∨ x = 7 ∨ x = 8 by omega) with rfl | rfl | rfl | rfl | rfl | rfl | rfl | rfl
  · rw [show pw (1 : Int).toNat = 256 by decide +kernel]; refine ⟨?_, ?_, ?_, ?_, ?_⟩ <;> (repeat split) <;> omega
  · rw [show pw (2 : Int).toNat = 65536 by decide +kernel]; refine ⟨?_, ?_, ?_, ?_, ?_⟩ <;> (repeat split) <;> omega
  · rw [show pw (3 : Int).toNat = 16777216 by decide +kernel]; refine ⟨?_, ?_, ?_, ?_, ?_⟩ <;> (repeat split) <;> omega
  · rw [show pw (4 : Int).toNat = 4294967296 by decide +kernel]; refine ⟨?_, ?_, ?_, ?_, ?_⟩ <;> (repeat split) <;> omega
  · rw [show pw (5 : Int).toNat = 1099511627776 by decide +kernel]; refine ⟨?_, ?_, ?_, ?_, ?_⟩ <;> (repeat split) <;> omega
  · rw [show pw (6 : Int).toNat = 281474976710656 by decide +kernel]; refine ⟨?_, ?_, ?_, ?_, ?_⟩ <;> (repeat split) <;> omega
  · rw [show pw (7 : Int).toNat = 72057594037927936 by decide +kernel]; refine ⟨?_, ?_, ?_, ?_, ?_⟩ <;> (repeat split) <;> omega
  · rw [show pw (8 : Int).toNat = 18446744073709551616 by decide +kernel]; refine ⟨?_, ?_, ?_, ?_, ?_⟩ <;> (repeat split) <;> omega

end Go.Proofs.Ytdblcfajejhbaaa.Le

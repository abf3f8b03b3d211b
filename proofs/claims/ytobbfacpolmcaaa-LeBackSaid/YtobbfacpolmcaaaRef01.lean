/- What the reference's functions of layer 1 return: walks of their Go text. -/
import Derived.Test.YtobbfacpolmcaaaProg
import Derived.Test.YtobbfacpolmcaaaKit
import Derived.Test.YtobbfacpolmcaaaMath01
namespace Go.Proofs.Ytobbfacpolmcaaa.R01
open Go.RowKit Go.Proofs.Ytobbfacpolmcaaa.Kit Go.Proofs.Ytobbfacpolmcaaa.M01
set_option linter.unusedVariables false

set_option maxHeartbeats 400000 in
theorem width_any (x : Int) (w : World) :
    Calls Try.prog 21 #[.int .i64 x] w fun e w' => e = .returned (.bool (isW x)) ∧ w = w' := by
  by_cases h1 : 1 ≤ x <;> by_cases h2 : x ≤ 8
  all_goals
    go_enter Try.func21, Try.ntmps21
    go_wp2
    go_ret
    exact ⟨by simp [isW, h1, h2], rfl⟩

set_option maxHeartbeats 400000 in
theorem top_any (x : Int) (w : World) (h : isW x = true) :
    Calls Try.prog 22 #[.int .i64 x] w fun e w' => e = .returned (.int .u64 (pw x.toNat - 1)) ∧ w = w' := by
  obtain ⟨h1, h2⟩ := isW_of h
  clear h
  obtain ⟨m, rfl⟩ := Int.eq_ofNat_of_zero_le (show 0 ≤ x by omega)
  rw [Int.toNat_natCast]
  go_enter Try.func22, Try.ntmps22
  go_wp2
  go_loop [3, 4] (fun n i => ∃ k : Nat, k ≤ m ∧ i = .int .i64 k ∧ n = .int .u64 (pw k - 1)) (fun _ i => m - (intOf i).toNat)
  case atStart => exact ⟨0, Nat.zero_le _, rfl, by simp [pw_zero]⟩
  case round =>
    obtain ⟨k, hk, rfl, rfl⟩ := hrel
    by_cases hlt : k < m
    · have hp := pw_bd (show k + 1 ≤ 8 by omega)
      rw [pw_succ] at hp
      have h0 := pw_pos k
      go_wp2
      go_round
      case rel => exact ⟨k + 1, by omega, by go_num, by rw [pw_succ]; go_num⟩
      case measure => simp [intOf]; omega
    · obtain rfl : k = m := by omega
      go_wp2
      go_ret
      exact ⟨rfl, rfl⟩

def isMinus (n x : Int) : Bool := decide ((pw x.toNat - 1) / 2 < n)

set_option maxHeartbeats 400000 in
theorem minus_any (n x : Int) (w : World) (h : isW x = true) :
    Calls Try.prog 30 #[.int .u64 n, .int .i64 x] w fun e w' => e = .returned (.bool (isMinus n x)) ∧ w = w' := by
  obtain ⟨h1, h2⟩ := isW_of h
  have h0 := pw_pos x.toNat
  have h3 := pw_bd (show x.toNat ≤ 8 by omega)
  go_enter Try.func30, Try.ntmps30
  go_wp2_with (go_at_call 22; refine (top_any _ _ h).mono ?_; rintro e w' ⟨rfl, rfl⟩)
  go_ret
  exact ⟨by simp [isMinus], rfl⟩

theorem info_u8 : (Try.prog.info? 5).map (fun i => (i.zero, i.size, i.bytes)) = some (some (.int .u8 0), 1, 1) := by kernel_rfl

theorem wf_u8 {x : Int} (h0 : 0 ≤ x) (h1 : x < 256) : (Lit.int .u8 x).wf = true := by
  simp [Lit.wf, IntKind.min, IntKind.max, IntKind.signed, IntKind.bits]; omega
theorem wf_byte {l : List Int} (h : isByte l) : ∀ x ∈ l, (Lit.int .u8 x).wf = true := fun x hx => wf_u8 (h x hx).1 (h x hx).2

set_option maxHeartbeats 400000 in
theorem written_any (n x : Int) (w : World) (hn : 0 ≤ n) (hn2 : n < 18446744073709551616) (h : isW x = true) :
    Calls Try.prog 28 #[.int .u64 n, .int .i64 x] w fun e w' => ∃ a cap, e = .returned (.slice a (digs n x.toNat).length cap) ∧ RowIn .u8 w' a (digs n x.toNat).length cap (digs n x.toNat) ∧ Below w.heap.size w w' := by
  obtain ⟨h1, h2⟩ := isW_of h
  clear h
  obtain ⟨m, rfl⟩ := Int.eq_ofNat_of_zero_le (show 0 ≤ x by omega)
  rw [Int.toNat_natCast]
  obtain ⟨i0, hi, hz0, hz1, hz2⟩ := info_parts info_u8
  go_enter Try.func28, Try.ntmps28
  go_wp2
  go_loopw [0, 5, 6] (fun q v i wr => ∃ k : Nat, k ≤ m ∧ i = .int .i64 k ∧ q = .int .u64 (n / pw k) ∧ OwnI .u8 wr w.heap.size 5 v (digs n k) ∧ Below w.heap.size w wr) (fun _ _ i _ => m - (intOf i).toNat)
  case atStart => exact ⟨0, Nat.zero_le _, rfl, by simp [pw_zero], OwnI.nil, Below.refl _ _⟩
  case round =>
    obtain ⟨k, hk, rfl, rfl, hown, hb⟩ := hrel
    have hsz := hb.size
    by_cases hlt : k < m
    · have h0 := pw_pos k
      have hq0 : 0 ≤ n / pw k := Int.ediv_nonneg hn (by omega)
      have hq1 : n / pw k ≤ n := Int.ediv_le_self _ hn
      have hl := digs_length n k
      go_wp2_with (at_builtin; refine app1 rfl _ _ 22 rfl w.heap.size 5 i0 (.int .u8 0) 1 Try.underlying22 hi hz0 hz1 hz2 rfl .u8 _ _ hown _ rfl rfl hsz (by omega) (by omega) ?_; intro v' w1 hown1 hg1 hb1)
      go_roundw
      case rel => exact ⟨k + 1, by omega, by go_num, by rw [pw_succ, Int.mul_comm, ← Int.ediv_ediv_of_nonneg (by omega)], by rw [digs_snoc]; exact hown1, hb.trans hb1⟩
      case measure => simp [intOf]; omega
    · obtain rfl : k = m := by omega
      go_wp2
      go_ret
      obtain ⟨a, cap, rfl, hr⟩ := hown.row (wf_byte (digs_byte n k))
      exact ⟨a, cap, rfl, hr, hb⟩

set_option maxHeartbeats 400000 in
theorem bytes_any (n x : Int) (w : World) (hn : 0 ≤ n) (hn2 : n < 18446744073709551616) :
    Calls Try.prog 16 #[.int .u64 n, .int .i64 x] w fun e w' => ∃ a cap, e = .returned (.tuple #[.slice a (bytesL n x).length cap, .int .i64 (bytesE n x)]) ∧ RowIn .u8 w' a (bytesL n x).length cap (bytesL n x) ∧ Below w.heap.size w w' := by
  by_cases h : isW x = true
  · by_cases h1 : n < pw x.toNat
    · have h2 : ¬ pw x.toNat - 1 < n := by omega
      have e1 : bytesL n x = digs n x.toNat := by simp [bytesL, h, h1]
      have e2 : bytesE n x = 0 := by simp [bytesE, h, h1]
      rw [e1, e2]
      clear e1 e2
      go_enter Try.func16, Try.ntmps16
      go_wp2_with (first | (go_at_call 21; refine (width_any _ _).mono ?_; rintro e w' ⟨rfl, rfl⟩) | (go_at_call 22; refine (top_any _ _ h).mono ?_; rintro e w' ⟨rfl, rfl⟩) | (go_at_call 28; refine (written_any _ _ _ hn hn2 h).mono ?_; rintro e w1 ⟨a, cap, rfl, hr, hb⟩))
      go_ret2
      exact ⟨a, cap, rfl, hr, hb⟩
    · have h2 : pw x.toNat - 1 < n := by omega
      have e1 : bytesL n x = [] := by simp [bytesL, h, h1]
      have e2 : bytesE n x = 16 := by simp [bytesE, h, h1]
      rw [e1, e2]
      clear e1 e2
      go_enter Try.func16, Try.ntmps16
      go_wp2_with (first | (go_at_call 21; refine (width_any _ _).mono ?_; rintro e w' ⟨rfl, rfl⟩) | (go_at_call 22; refine (top_any _ _ h).mono ?_; rintro e w' ⟨rfl, rfl⟩))
      go_ret2
      exact ⟨none, 0, rfl, RowIn.nil, Below.refl _ _⟩
  · have h' : isW x = false := by simpa using h
    have e1 : bytesL n x = [] := by simp [bytesL, h']
    have e2 : bytesE n x = 2 := by simp [bytesE, h']
    rw [e1, e2]
    clear e1 e2 h
    go_enter Try.func16, Try.ntmps16
    go_wp2_with (go_at_call 21; refine (width_any _ _).mono ?_; rintro e w' ⟨rfl, rfl⟩)
    go_ret2
    exact ⟨none, 0, rfl, RowIn.nil, Below.refl _ _⟩

theorem byte_of {k : World} {a : Option Addr} {xs : List Int} (h : Reads .u8 k a xs) : isByte xs := fun x hx => by
  have := bounds_u8 (h.2.2 x hx); omega

set_option maxHeartbeats 400000 in
theorem of_any (a : Option Addr) (len cap : Nat) (xs : List Int) (w : World) (hr : Reads .u8 w a xs) (hl : xs.length = len) (h8 : xs.length ≤ 8) :
    Calls Try.prog 29 #[.slice a len cap] w fun e w' => e = .returned (.int .u64 (val xs)) ∧ w = w' := by
  subst hl
  have hby := byte_of hr
  by_cases h0 : xs = []
  · subst h0
    go_enter Try.func29, Try.ntmps29
    go_wp2
    refine wp_loop_rounds 1 ?_
    rw [rounds_succ]
    go_wp2
    go_ret
    exact ⟨rfl, rfl⟩
  · obtain ⟨b, off, rfl, hc⟩ := hr.cells h0
    have hlen : 1 ≤ xs.length := by cases xs <;> simp at *
    clear hr h0
    go_enter Try.func29, Try.ntmps29
    go_wp2
    go_loop [3, 4] (fun n i => ∃ k : Nat, k ≤ xs.length ∧ i = .int .i64 ((k : Int) - 1) ∧ n = .int .u64 (val (xs.drop k))) (fun _ i => (intOf i + 1).toNat)
    case atStart => exact ⟨xs.length, Nat.le_refl _, rfl, by simp [val]⟩
    case round =>
      obtain ⟨k, hk, rfl, rfl⟩ := hrel
      by_cases h1 : k = 0
      · subst h1
        go_wp2
        go_ret
        exact ⟨rfl, rfl⟩
      · obtain ⟨j, rfl⟩ : ∃ j, k = j + 1 := ⟨k - 1, by omega⟩
        have hd := val_drop xs j (by omega)
        have hbd := val_drop_bd hby j (by omega)
        have hcj := hc j (by omega)
        have hy := isByte_at hby (show j < xs.length by omega)
        have hv := (val_drop_bd hby (j + 1) (by omega)).1
        obtain ⟨y, ey⟩ : ∃ y, xs.getD j 0 = y := ⟨_, rfl⟩
        obtain ⟨V, eV⟩ : ∃ V, val (xs.drop (j + 1)) = V := ⟨_, rfl⟩
        rw [ey] at hd hcj hy
        rw [eV] at hd hv ⊢
        have HD : Hid (val (xs.drop j) = y + 256 * V) := hd
        have hbd2 : y + 256 * V < 18446744073709551616 := by rw [← hd]; omega
        clear hd ey eV hbd h1 hc
        go_wp2
        go_round
        case rel => exact ⟨j, by omega, by go_num, by rw [HD.out]; go_num⟩
        case measure => simp [intOf]

set_option maxHeartbeats 400000 in
theorem value_any (a : Option Addr) (len cap : Nat) (xs : List Int) (w : World) (hr : Reads .u8 w a xs) (hl : xs.length = len) :
    Calls Try.prog 17 #[.slice a len cap] w fun e w' => e = .returned (.tuple #[.int .u64 (valueN xs), .int .i64 (valueE xs)]) ∧ w = w' := by
  subst hl
  by_cases h : isW (xs.length : Int) = true
  · have e1 : valueN xs = val xs := by simp [valueN, h]
    have e2 : valueE xs = 0 := by simp [valueE, h]
    have h8 := (isW_of h).2
    rw [e1, e2]
    clear e1 e2
    go_enter Try.func17, Try.ntmps17
    go_wp2_with (first | (go_at_call 21; refine (width_any _ _).mono ?_; rintro e w' ⟨rfl, rfl⟩) | (go_at_call 29; refine (of_any _ _ _ _ _ hr rfl (by omega)).mono ?_; rintro e w' ⟨rfl, rfl⟩))
    go_ret2
    exact ⟨rfl, rfl⟩
  · have h' : isW (xs.length : Int) = false := by simpa using h
    have e1 : valueN xs = 0 := by simp [valueN, h']
    have e2 : valueE xs = 2 := by simp [valueE, h']
    rw [e1, e2]
    clear e1 e2 h
    go_enter Try.func17, Try.ntmps17
    go_wp2_with (go_at_call 21; refine (width_any _ _).mono ?_; rintro e w' ⟨rfl, rfl⟩)
    go_ret2
    exact ⟨rfl, rfl⟩

set_option maxHeartbeats 400000 in
theorem at_any (a : Option Addr) (len cap : Nat) (xs : List Int) (i x : Int) (w : World) (hr : Reads .u8 w a xs) (hl : xs.length = len) (hcap : len ≤ cap) (hm : cap ≤ 9223372036854775807) (hi : i ≤ 9223372036854775807) :
    Calls Try.prog 18 #[.slice a len cap, .int .i64 i, .int .i64 x] w fun e w' => e = .returned (.tuple #[.int .u64 (atN xs i x), .int .i64 (atE xs i x)]) ∧ w = w' := by
  subst hl
  by_cases h : isW x = true
  · by_cases hi0 : i < 0
    · have e1 : atN xs i x = 0 := by simp [atN, h, hi0]
      have e2 : atE xs i x = 2 := by simp [atE, h, hi0]
      rw [e1, e2]
      clear e1 e2
      go_enter Try.func18, Try.ntmps18
      go_wp2_with (go_at_call 21; refine (width_any _ _).mono ?_; rintro e w' ⟨rfl, rfl⟩)
      go_ret2
      exact ⟨rfl, rfl⟩
    · have hx := isW_of h
      by_cases hs : (xs.length : Int) < i + x
      · have e1 : atN xs i x = 0 := by simp [atN, h, hi0, hs]
        have e2 : atE xs i x = 24 := by simp [atE, h, hi0, hs]
        rw [e1, e2]
        clear e1 e2
        by_cases hq : (xs.length : Int) < i
        all_goals
          go_enter Try.func18, Try.ntmps18
          go_wp2_with (go_at_call 21; refine (width_any _ _).mono ?_; rintro e w' ⟨rfl, rfl⟩)
          go_ret2
          exact ⟨rfl, rfl⟩
      · have e1 : atN xs i x = val ((xs.drop i.toNat).take x.toNat) := by simp [atN, h, hi0, hs]
        have e2 : atE xs i x = 0 := by simp [atE, h, hi0, hs]
        rw [e1, e2]
        clear e1 e2
        obtain ⟨j, rfl⟩ := Int.eq_ofNat_of_zero_le (show 0 ≤ i by omega)
        obtain ⟨m, rfl⟩ := Int.eq_ofNat_of_zero_le (show 0 ≤ x by omega)
        simp only [Int.toNat_natCast]
        have hne : xs ≠ [] := by intro h0; subst h0; simp at hs; omega
        obtain ⟨b, off, rfl, hc⟩ := hr.cells hne
        have hr2 := (hr.drop j).take m
        have hl2 : ((xs.drop j).take m).length = m := by rw [List.length_take, List.length_drop]; omega
        have hm8 : m ≤ 8 := by omega
        clear hc hr hne
        go_enter Try.func18, Try.ntmps18
        go_wp2_with (first | (go_at_call 21; refine (width_any _ _).mono ?_; rintro e w' ⟨rfl, rfl⟩) | (go_at_call 29; refine (of_any _ _ _ _ _ hr2 hl2 (by omega)).mono ?_; rintro e w' ⟨rfl, rfl⟩))
        go_ret2
        exact ⟨rfl, rfl⟩
  · have h' : isW x = false := by simpa using h
    have e1 : atN xs i x = 0 := by simp [atN, h']
    have e2 : atE xs i x = 2 := by simp [atE, h']
    rw [e1, e2]
    clear e1 e2 h
    go_enter Try.func18, Try.ntmps18
    go_wp2_with (go_at_call 21; refine (width_any _ _).mono ?_; rintro e w' ⟨rfl, rfl⟩)
    go_ret2
    exact ⟨rfl, rfl⟩

set_option maxHeartbeats 400000 in
theorem signed_any (n x : Int) (w : World) (hn : 0 ≤ n) (hn2 : n < 18446744073709551616) :
    Calls Try.prog 19 #[.int .u64 n, .int .i64 x] w fun e w' => e = .returned (.tuple #[.int .i64 (sgnN n x), .int .i64 (sgnE n x)]) ∧ w = w' := by
  by_cases h : isW x = true
  · have hx := isW_of h
    have hp := pw_bd (show x.toNat ≤ 8 by omega)
    have hp1 := pw_pos x.toNat
    by_cases h1 : n < pw x.toNat
    · have e2 : sgnE n x = 0 := by simp [sgnE, h, h1]
      by_cases h2 : (pw x.toNat - 1) / 2 < n
      all_goals
        have hb2 : isMinus n x = isMinus n x := rfl
        first | replace hb2 : isMinus n x = true := by simpa [isMinus] using h2
              | replace hb2 : isMinus n x = false := by simpa [isMinus] using h2
        have e1 : sgnN n x = if (pw x.toNat - 1) / 2 < n then n - pw x.toNat else n := by simp [sgnN, h, h1]
        rw [e1, e2]
        clear e1 e2
        go_enter Try.func19, Try.ntmps19
        go_wp2_with (first | (go_at_call 21; refine (width_any _ _).mono ?_; rintro e w' ⟨rfl, rfl⟩) | (go_at_call 22; refine (top_any _ _ h).mono ?_; rintro e w' ⟨rfl, rfl⟩) | (go_at_call 30; refine (minus_any _ _ _ h).mono ?_; rintro e w' ⟨rfl, rfl⟩))
        go_ret2
        exact ⟨by first | (simp; done) | (simp [wrap64]; omega), rfl⟩
    · have e1 : sgnN n x = 0 := by simp [sgnN, h, h1]
      have e2 : sgnE n x = 16 := by simp [sgnE, h, h1]
      rw [e1, e2]
      clear e1 e2
      go_enter Try.func19, Try.ntmps19
      go_wp2_with (first | (go_at_call 21; refine (width_any _ _).mono ?_; rintro e w' ⟨rfl, rfl⟩) | (go_at_call 22; refine (top_any _ _ h).mono ?_; rintro e w' ⟨rfl, rfl⟩))
      go_ret2
      exact ⟨rfl, rfl⟩
  · have h' : isW x = false := by simpa using h
    have e1 : sgnN n x = 0 := by simp [sgnN, h']
    have e2 : sgnE n x = 2 := by simp [sgnE, h']
    rw [e1, e2]
    clear e1 e2 h
    go_enter Try.func19, Try.ntmps19
    go_wp2_with (go_at_call 21; refine (width_any _ _).mono ?_; rintro e w' ⟨rfl, rfl⟩)
    go_ret2
    exact ⟨rfl, rfl⟩

set_option maxHeartbeats 400000 in
theorem unsigned_any (n x : Int) (w : World) (hn : -9223372036854775808 ≤ n) (hn2 : n ≤ 9223372036854775807) :
    Calls Try.prog 20 #[.int .i64 n, .int .i64 x] w fun e w' => e = .returned (.tuple #[.int .u64 (unsN n x), .int .i64 (unsE n x)]) ∧ w = w' := by
  by_cases h : isW x = true
  · have hx := isW_of h
    have hp := pw_bd (show x.toNat ≤ 8 by omega)
    have hp1 := pw_pos x.toNat
    by_cases h1 : unsIn n x = true
    · have e2 : unsE n x = 0 := by simp [unsE, h, h1]
      have hu : n ≤ (pw x.toNat - 1) / 2 ∧ -n - 1 ≤ (pw x.toNat - 1) / 2 := by simpa [unsIn] using h1
      by_cases h2 : n < 0
      all_goals
        have e1 : unsN n x = if n < 0 then n + pw x.toNat else n := by simp [unsN, h, h1]
        rw [e1, e2]
        clear e1 e2
        go_enter Try.func20, Try.ntmps20
        go_wp2_with (first | (go_at_call 21; refine (width_any _ _).mono ?_; rintro e w' ⟨rfl, rfl⟩) | (go_at_call 22; refine (top_any _ _ h).mono ?_; rintro e w' ⟨rfl, rfl⟩) | (go_at_call 30; refine (minus_any _ _ _ h).mono ?_; rintro e w' ⟨rfl, rfl⟩))
        go_ret2
        exact ⟨by simp; try omega, rfl⟩
    · have e1 : unsN n x = 0 := by simp [unsN, h, h1]
      have e2 : unsE n x = 16 := by simp [unsE, h, h1]
      have hu : ¬ (n ≤ (pw x.toNat - 1) / 2 ∧ -n - 1 ≤ (pw x.toNat - 1) / 2) := by simpa [unsIn] using h1
      rw [e1, e2]
      clear e1 e2
      by_cases h2 : n < 0
      all_goals
        go_enter Try.func20, Try.ntmps20
        go_wp2_with (first | (go_at_call 21; refine (width_any _ _).mono ?_; rintro e w' ⟨rfl, rfl⟩) | (go_at_call 22; refine (top_any _ _ h).mono ?_; rintro e w' ⟨rfl, rfl⟩))
        go_ret2
        exact ⟨rfl, rfl⟩
  · have h' : isW x = false := by simpa using h
    have e1 : unsN n x = 0 := by simp [unsN, h']
    have e2 : unsE n x = 2 := by simp [unsE, h']
    rw [e1, e2]
    clear e1 e2 h
    go_enter Try.func20, Try.ntmps20
    go_wp2_with (go_at_call 21; refine (width_any _ _).mono ?_; rintro e w' ⟨rfl, rfl⟩)
    go_ret2
    exact ⟨rfl, rfl⟩
end Go.Proofs.Ytobbfacpolmcaaa.R01

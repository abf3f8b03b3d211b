/- What the functions of package crc32 return: walks of their Go text. -/
import Derived.Test.YtdblcfajejhbaaaProg
import Derived.Test.YtdblcfajejhbaaaKit
import Derived.Test.YtdblcfajejhbaaaMath03
import Derived.Deep.QuietTactic
import Derived.BigQuiet
namespace Go.Proofs.Ytdblcfajejhbaaa.Cr
open Go.RowKit Go.Proofs.Ytdblcfajejhbaaa.Kit Go.Proofs.Ytdblcfajejhbaaa.M03
set_option linter.unusedVariables false

abbrev PO : Nat := 3988292384
theorem po_lt : PO < 2 ^ 32 := by decide
theorem po_le : 2 ^ 32 ≤ 2 * PO := by decide

/-- The state behind a byte, behind bytes. -/
def behI (s x : Int) : Int := ((beh PO s.toNat x.toNat : Nat) : Int)
def crcI (s : Int) (xs : List Int) : Int := ((crcN PO s.toNat xs : Nat) : Int)

theorem behI_bd {s x : Int} (h : 0 ≤ s) (h2 : s < 4294967296) (hx : 0 ≤ x) (hx2 : x < 256) : 0 ≤ behI s x ∧ behI s x < 4294967296 := by
  have : beh PO s.toNat x.toNat < 2 ^ 32 := sts_lt PO (by omega) po_lt 8 (Nat.xor_lt_two_pow (by omega) (by omega))
  unfold behI; omega

theorem crcI_bd {s : Int} {xs : List Int} (h : 0 ≤ s) (h2 : s < 4294967296) (hx : ∀ x ∈ xs, (Lit.int .u8 x).wf = true) : 0 ≤ crcI s xs ∧ crcI s xs < 4294967296 := by
  have := crcN_lt PO (show 8 ≤ 32 by omega) po_lt xs hx (s := s.toNat) (by omega)
  unfold crcI; omega

theorem crcI_snoc (s : Int) (xs : List Int) (k : Nat) (hk : k < xs.length) : crcI s (xs.take (k + 1)) = behI (crcI s (xs.take k)) (xs.getD k 0) := by
  unfold crcI behI
  rw [List.take_add_one, crcN_append, List.getElem?_eq_getElem hk, List.getD_eq_getElem?_getD, List.getElem?_eq_getElem hk]
  simp [crcN]

theorem crcI_append (s : Int) (xs ys : List Int) : crcI s (xs ++ ys) = crcI (crcI s xs) ys := by unfold crcI; rw [crcN_append]; rfl

theorem sts_end (n s : Nat) : sts PO (n + 1) s = st PO (sts PO n s) := by rw [sts_add]; rfl

/-- One step, as it is walked. -/
theorem step_odd {S : Nat} (h : S < 4294967296) (h2 : S % 2 = 1) : bits .xor .u32 ((S : Int) / 2) 3988292384 = ((st PO S : Nat) : Int) := by
  rw [xor_u32 (by omega) (by omega) (by omega) (by omega), show ((S : Int) / 2).toNat = S / 2 by omega]
  unfold st; rw [if_pos h2]; rfl
theorem step_even {S : Nat} (h2 : S % 2 = 0) : (S : Int) / 2 = ((st PO S : Nat) : Int) := by
  unfold st; rw [if_neg (by omega)]; omega

set_option maxHeartbeats 400000 in
theorem behind_any (s x : Int) (w : World) (h : 0 ≤ s) (h2 : s < 4294967296) (hx : 0 ≤ x) (hx2 : x < 256) :
    Calls Try.prog 51 #[.int .u32 s, .int .u8 x] w fun e w' => e = .returned (.int .u32 (behI s x)) ∧ w = w' := by
  have hs : bits .xor .u32 s x = (((s.toNat ^^^ x.toNat) : Nat) : Int) := xor_u32 h h2 hx (by omega)
  have hm : s.toNat ^^^ x.toNat < 2 ^ 32 := Nat.xor_lt_two_pow (by omega) (by omega)
  unfold behI beh
  generalize s.toNat ^^^ x.toNat = m at *
  go_enter Try.func51, Try.ntmps51
  go_wp2
  go_loop [0, 10] (fun t i => ∃ k : Nat, k ≤ 8 ∧ i = .int .i64 k ∧ t = .int .u32 ((sts PO k m : Nat) : Int)) (fun _ i => 8 - (intOf i).toNat)
  case atStart => exact ⟨0, by omega, rfl, by go_num⟩
  case round =>
    obtain ⟨k, hk, rfl, rfl⟩ := hrel
    have hb := sts_lt PO (show 0 < 32 by omega) po_lt k hm
    have he := hid (sts_end k m)
    by_cases hlt : k < 8
    · generalize sts PO k m = S at *
      rcases Nat.mod_two_eq_zero_or_one S with hd | hd
      · have hv := step_even hd
        have ht : ((S : Int) % 2 = 1) = False := eq_false (by omega)
        go_wp2
        go_round
        case rel => exact ⟨k + 1, by omega, by go_num, by rw [he.out]⟩
        case measure => simp [intOf]; omega
      · have hv := step_odd (by omega) hd
        have ht : ((S : Int) % 2 = 1) = True := eq_true (by omega)
        go_wp2
        go_round
        case rel => exact ⟨k + 1, by omega, by go_num, by rw [he.out]⟩
        case measure => simp [intOf]; omega
    · obtain rfl : k = 8 := by omega
      go_wp2
      go_ret
      exact ⟨rfl, rfl⟩

/-- Next. -/
def nxE (xs : List Int) : Int := if xs.length ≤ 100000 then 0 else 4
def nxN (s : Int) (xs : List Int) : Int := if xs.length ≤ 100000 then crcI s xs else 0
def smN (xs : List Int) : Int := if xs.length ≤ 100000 then 4294967295 - crcI 4294967295 xs else 0

set_option maxHeartbeats 4000000 in
theorem next_any (s : Int) (b : Option Addr) (len cap : Nat) (xs : List Int) (w : World) (r : RowIn .u8 w b len cap xs) (h : 0 ≤ s) (h2 : s < 4294967296) :
    Calls Try.prog 29 #[.int .u32 s, .slice b len cap] w fun e w' => e = .returned (.tuple #[.int .u32 (nxN s xs), .int .i64 (nxE xs)]) ∧ w = w' := by
  obtain ⟨rd, rfl, hc, hm⟩ := r
  have hl := rd.len
  unfold nxN nxE
  by_cases hlt : xs.length ≤ 100000
  · rw [if_pos hlt, if_pos hlt]
    have ht : (100000 < (xs.length : Int)) = False := eq_false (by omega)
    go_enter Try.func29, Try.ntmps29
    go_wp2
    go_loop [0, 13] (fun t i => ∃ k : Nat, k ≤ xs.length ∧ i = .int .i64 k ∧ t = .int .u32 (crcI s (xs.take k))) (fun _ i => xs.length - (intOf i).toNat)
    case atStart => exact ⟨0, by omega, rfl, by simp [crcI, crcN]; omega⟩
    case round =>
      obtain ⟨k, hk, rfl, rfl⟩ := hrel
      by_cases hlt2 : k < xs.length
      · have hbd := crcI_bd (xs := xs.take k) h h2 (fun x hx => rd.2.2 x (List.mem_of_mem_take hx))
        have he := hid (crcI_snoc s xs k hlt2)
        obtain ⟨b1, off, rfl, hcell⟩ := rd.cells (by intro h0; rw [h0] at hlt2; simp at hlt2)
        have hc0 := hcell k hlt2
        have hx := bd_u8 (rd.2.2 (xs.getD k 0) (by rw [List.getD_eq_getElem?_getD, List.getElem?_eq_getElem hlt2]; simp))
        generalize crcI s (xs.take k) = S at *
        generalize xs.getD k 0 = x at *
        clear hcell rd
        go_wp2_with (go_at_call 51; refine (behind_any _ _ _ hbd.1 hbd.2 hx.1 (by omega)).mono ?_; rintro e w' ⟨rfl, rfl⟩)
        go_round
        case rel => exact ⟨k + 1, by omega, by go_num, by rw [he.out]⟩
        case measure => simp [intOf]; omega
      · obtain rfl : k = xs.length := by omega
        go_wp2
        go_ret2
        exact ⟨by rw [← List.take_length (l := xs)]; rfl, rfl⟩
  · rw [if_neg hlt, if_neg hlt]
    have ht : (100000 < (xs.length : Int)) = True := eq_true (by omega)
    go_enter Try.func29, Try.ntmps29
    go_wp2
    go_ret2
    exact ⟨rfl, rfl⟩

set_option maxHeartbeats 400000 in
theorem sum_any (b : Option Addr) (len cap : Nat) (xs : List Int) (w : World) (r : RowIn .u8 w b len cap xs) :
    Calls Try.prog 31 #[.slice b len cap] w fun e w' => e = .returned (.tuple #[.int .u32 (smN xs), .int .i64 (nxE xs)]) ∧ w = w' := by
  have hb := crcI_bd (s := 4294967295) (xs := xs) (by omega) (by omega) r.rd.2.2
  by_cases hlt : xs.length ≤ 100000
  · have e1 : nxE xs = 0 := by simp [nxE, hlt]
    have e2 : nxN 4294967295 xs = crcI 4294967295 xs := by simp [nxN, hlt]
    have e3 : smN xs = 4294967295 - crcI 4294967295 xs := by simp [smN, hlt]
    have X := next_any 4294967295 b len cap xs w r (by omega) (by omega)
    rw [e1, e2] at X
    rw [e1, e3]
    clear e1 e2 e3
    generalize crcI 4294967295 xs = S at *
    go_enter Try.func31, Try.ntmps31
    go_wp2_with (go_at_call 29; refine X.mono ?_; rintro e w' ⟨rfl, rfl⟩)
    go_ret2
    refine ⟨?_, rfl⟩
    show Ending.returned (.tuple #[.int .u32 (bits .xor .u32 IntKind.u32.max S), .int .i64 0]) = _
    rw [not_u32 hb.1 hb.2]
  · have e1 : nxE xs = 4 := by simp [nxE, hlt]
    have e2 : nxN 4294967295 xs = 0 := by simp [nxN, hlt]
    have e3 : smN xs = 0 := by simp [smN, hlt]
    have X := next_any 4294967295 b len cap xs w r (by omega) (by omega)
    rw [e1, e2] at X
    rw [e1, e3]
    clear e1 e2 e3
    go_enter Try.func31, Try.ntmps31
    go_wp2_with (go_at_call 29; refine X.mono ?_; rintro e w' ⟨rfl, rfl⟩)
    go_ret2
    exact ⟨rfl, rfl⟩
/-- The table. -/
def tbl (k : Nat) : List Int := (List.range k).map fun i : Nat => behI 0 (i : Int)
theorem tbl_length (k : Nat) : (tbl k).length = k := by simp [tbl]
theorem tbl_get {k i : Nat} (h : i < k) : (tbl k).getD i 0 = behI 0 (i : Int) := by
  rw [List.getD_eq_getElem?_getD]; simp [tbl, h]
theorem wf_u32 {x : Int} (h : 0 ≤ x) (h2 : x < 4294967296) : (Lit.int .u32 x).wf = true := by
  simp [Lit.wf, IntKind.min, IntKind.max, IntKind.signed, IntKind.bits]; omega
theorem tbl_wf {k : Nat} (hk : k ≤ 256) : ∀ x ∈ tbl k, (Lit.int .u32 x).wf = true := by
  intro x hx
  simp only [tbl, List.mem_map, List.mem_range] at hx
  obtain ⟨i, hi, rfl⟩ := hx
  have := behI_bd (s := 0) (x := (i : Int)) (by omega) (by omega) (by omega) (by omega)
  exact wf_u32 this.1 this.2

theorem tbl_set (k : Nat) (hk : k < 256) : (tbl k ++ List.replicate (256 - k) (0 : Int)).set k (behI 0 (k : Int)) = tbl (k + 1) ++ List.replicate (256 - (k + 1)) 0 := by
  rw [show 256 - k = (256 - (k + 1)) + 1 by omega, List.replicate_succ]
  have : tbl (k + 1) = tbl k ++ [behI 0 (k : Int)] := by simp [tbl, List.range_succ]
  rw [this, List.append_assoc, List.set_append_right _ _ (by rw [tbl_length]; exact Nat.le_refl _), tbl_length, Nat.sub_self]
  rfl

end Go.Proofs.Ytdblcfajejhbaaa.Cr

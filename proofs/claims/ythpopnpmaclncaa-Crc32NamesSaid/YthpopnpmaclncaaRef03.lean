/- What the reference of layer 3 returns. -/
import Derived.Test.YthpopnpmaclncaaCrc
namespace Go.Proofs.Ythpopnpmaclncaa.R03
open Go.RowKit Go.Proofs.Ythpopnpmaclncaa.Kit Go.Proofs.Ythpopnpmaclncaa.M03 Go.Proofs.Ythpopnpmaclncaa.Cr
set_option linter.unusedVariables false

theorem st_bit (s b : Nat) (hb : b = 0 ∨ b = 1) : st PO (s ^^^ b) = if (s % 2 + b) % 2 = 1 then s / 2 ^^^ PO else s / 2 := by
  unfold st
  rw [xor_mod2, Nat.xor_div_two, show b / 2 = 0 by omega, Nat.xor_zero, show b % 2 = b by omega]

set_option maxHeartbeats 400000 in
theorem step_any (s b : Int) (w : World) (h : 0 ≤ s) (h2 : s < 4294967296) (hb : b = 0 ∨ b = 1) :
    Calls Try.prog 20 #[.int .u32 s, .int .i64 b] w fun e w' => e = .returned (.int .u32 ((st PO (s.toNat ^^^ b.toNat) : Nat) : Int)) ∧ w = w' := by
  rw [st_bit _ _ (by omega)]
  have hx : bits .xor .u32 (s / 2) 3988292384 = ((s.toNat / 2 ^^^ PO : Nat) : Int) := by
    rw [xor_u32 (by omega) (by omega) (by omega) (by omega), show (s / 2).toNat = s.toNat / 2 by omega]; rfl
  have hy : s / 2 = ((s.toNat / 2 : Nat) : Int) := by omega
  rcases (show s % 2 = 0 ∨ s % 2 = 1 by omega) with hd | hd <;> rcases hb with rfl | rfl
  · have ht : (s % 2 = 1) = False := eq_false (by omega)
    rw [if_neg (by omega), ← hy]
    clear hx hy
    go_enter Try.func20, Try.ntmps20
    go_wp2
    go_ret
    exact ⟨rfl, rfl⟩
  · have ht : (s % 2 = 1) = False := eq_false (by omega)
    rw [if_pos (by omega), ← hx]
    clear hx hy
    go_enter Try.func20, Try.ntmps20
    go_wp2
    go_ret
    exact ⟨rfl, rfl⟩
  · have ht : (s % 2 = 1) = True := eq_true (by omega)
    rw [if_pos (by omega), ← hx]
    clear hx hy
    go_enter Try.func20, Try.ntmps20
    go_wp2
    go_ret
    exact ⟨rfl, rfl⟩
  · have ht : (s % 2 = 1) = True := eq_true (by omega)
    rw [if_neg (by omega), ← hy]
    clear hx hy
    go_enter Try.func20, Try.ntmps20
    go_wp2
    go_ret
    exact ⟨rfl, rfl⟩

set_option maxHeartbeats 1000000 in
theorem byte_any (s x : Int) (w : World) (h : 0 ≤ s) (h2 : s < 4294967296) (hx : 0 ≤ x) (hx2 : x < 256) :
    Calls Try.prog 19 #[.int .u32 s, .int .u8 x] w fun e w' => e = .returned (.int .u32 (behI s x)) ∧ w = w' := by
  have hz := beh_bits PO (s := s.toNat) (x := x.toNat) (by omega)
  unfold behI
  generalize beh PO s.toNat x.toNat = R at *
  go_enter Try.func19, Try.ntmps19
  go_wp2
  go_loop [0, 1, 5] (fun t x i => ∃ k S X : Nat, k ≤ 8 ∧ i = .int .i64 k ∧ t = .int .u32 S ∧ x = .int .u8 X ∧ S < 4294967296 ∧ X < 256 ∧ bits8 PO (8 - k) S X = R) (fun _ _ i => 8 - (intOf i).toNat)
  case atStart => exact ⟨0, s.toNat, x.toNat, by omega, rfl, by go_num, by go_num, by omega, by omega, hz⟩
  case round =>
    obtain ⟨k, S, X, hk, rfl, rfl, rfl, hS, hX, hR⟩ := hrel
    by_cases hlt : k < 8
    · obtain ⟨j, hj⟩ : ∃ j, 8 - k = j + 1 := ⟨7 - k, by omega⟩
      rw [hj] at hR
      have hR' : bits8 PO j (st PO (S ^^^ X % 2)) (X / 2) = R := hR
      have hb := st_lt PO (show 0 < 32 by omega) po_lt (s := S ^^^ X % 2) (Nat.xor_lt_two_pow (by omega) (by omega))
      have HR := hid hR'
      have T := step_any (S : Int) ((X : Int) % 2) w (by omega) (by omega) (by omega)
      rw [show ((S : Int)).toNat = S by omega, show ((X : Int) % 2).toNat = X % 2 by omega] at T
      clear hR hR' hz
      generalize st PO (S ^^^ X % 2) = S2 at *
      go_wp2_with (go_at_call 20; refine T.mono ?_; rintro e w' ⟨rfl, rfl⟩)
      go_round
      case rel => exact ⟨k + 1, S2, X / 2, by omega, by go_num, rfl, by go_num, by omega, by omega, by rw [show 8 - (k + 1) = j by omega]; exact HR.out⟩
      case measure => simp [intOf]; omega
    · obtain rfl : k = 8 := by omega
      have : S = R := hR
      subst this
      go_wp2
      go_ret
      exact ⟨rfl, rfl⟩

set_option maxHeartbeats 1000000 in
theorem behind_any (s : Int) (b : Option Addr) (len cap : Nat) (xs : List Int) (w : World) (r : RowIn .u8 w b len cap xs) (h : 0 ≤ s) (h2 : s < 4294967296) :
    Calls Try.prog 17 #[.int .u32 s, .slice b len cap] w fun e w' => e = .returned (.int .u32 (crcI s xs)) ∧ ∃ k, w' = w.drewN k := by
  obtain ⟨rd, rfl, hc, hm⟩ := r
  have hl := rd.len
  go_enter Try.func17, Try.ntmps17
  go_wp2
  go_loopw [0, 5] (fun t i wr => ∃ k : Nat, k ≤ xs.length ∧ i = .int .i64 k ∧ t = .int .u32 (crcI s (xs.take k)) ∧ ∃ q, wr = w.drewN q) (fun _ i _ => xs.length - (intOf i).toNat)
  case atStart => exact ⟨0, by omega, rfl, by simp [crcI, crcN]; omega, 0, rfl⟩
  case round =>
    obtain ⟨k, hk, rfl, rfl, q, rfl⟩ := hrel
    by_cases hlt2 : k < xs.length
    · have hbd := crcI_bd (xs := xs.take k) h h2 (fun x hx => rd.2.2 x (List.mem_of_mem_take hx))
      have he := hid (crcI_snoc s xs k hlt2)
      obtain ⟨b1, off, rfl, hcell⟩ := (rd.drewN q).cells (by intro h0; rw [h0] at hlt2; simp at hlt2)
      have hc0 := hcell k hlt2
      have hx := bd_u8 (rd.2.2 (xs.getD k 0) (by rw [List.getD_eq_getElem?_getD, List.getElem?_eq_getElem hlt2]; simp))
      generalize crcI s (xs.take k) = S at *
      generalize xs.getD k 0 = x at *
      clear hcell rd
      go_wp2_with (go_at_call 19; refine (byte_any _ _ _ hbd.1 hbd.2 hx.1 (by omega)).mono ?_; rintro e w' ⟨rfl, rfl⟩)
      go_roundw
      case rel => exact ⟨k + 1, by omega, by go_num, by rw [he.out], q, rfl⟩
      case measure => simp [intOf]; omega
    · obtain rfl : k = xs.length := by omega
      go_wp2
      go_ret
      exact ⟨by rw [show crcI s xs = crcI s (xs.take xs.length) by rw [List.take_length]]; rfl, q, rfl⟩

set_option maxHeartbeats 400000 in
theorem rnext_any (s : Int) (b : Option Addr) (len cap : Nat) (xs : List Int) (w : World) (r : RowIn .u8 w b len cap xs) (h : 0 ≤ s) (h2 : s < 4294967296) :
    Calls Try.prog 14 #[.int .u32 s, .slice b len cap] w fun e w' => e = .returned (.tuple #[.int .u32 (nxN s xs), .int .i64 (nxE xs)]) ∧ ∃ k, w' = w.drewN k := by
  have hl := r.rd.len
  have hll := r.hl
  unfold nxN nxE
  by_cases hlt : xs.length ≤ 100000
  · rw [if_pos hlt, if_pos hlt]
    have ht : (100000 < (len : Int)) = False := eq_false (by omega)
    have X := behind_any s b len cap xs w r h h2
    go_enter Try.func14, Try.ntmps14
    go_wp2_with (go_at_call 17; refine X.mono ?_; rintro e w' ⟨rfl, q, rfl⟩)
    go_ret2
    exact ⟨rfl, q, rfl⟩
  · rw [if_neg hlt, if_neg hlt]
    have ht : (100000 < (len : Int)) = True := eq_true (by omega)
    go_enter Try.func14, Try.ntmps14
    go_wp2
    go_ret2
    exact ⟨rfl, 0, rfl⟩

set_option maxHeartbeats 400000 in
theorem of_any (b : Option Addr) (len cap : Nat) (xs : List Int) (w : World) (r : RowIn .u8 w b len cap xs) :
    Calls Try.prog 18 #[.slice b len cap] w fun e w' => e = .returned (.int .u32 (4294967295 - crcI 4294967295 xs)) ∧ ∃ k, w' = w.drewN k := by
  have hb := crcI_bd (s := 4294967295) (xs := xs) (by omega) (by omega) r.rd.2.2
  have X := behind_any 4294967295 b len cap xs w r (by omega) (by omega)
  generalize crcI 4294967295 xs = S at *
  go_enter Try.func18, Try.ntmps18
  go_wp2_with (go_at_call 17; refine X.mono ?_; rintro e w' ⟨rfl, q, rfl⟩)
  go_ret
  exact ⟨rfl, q, rfl⟩

set_option maxHeartbeats 400000 in
theorem rsum_any (b : Option Addr) (len cap : Nat) (xs : List Int) (w : World) (r : RowIn .u8 w b len cap xs) :
    Calls Try.prog 15 #[.slice b len cap] w fun e w' => e = .returned (.tuple #[.int .u32 (smN xs), .int .i64 (nxE xs)]) ∧ ∃ k, w' = w.drewN k := by
  have hl := r.rd.len
  have hll := r.hl
  unfold smN nxE
  by_cases hlt : xs.length ≤ 100000
  · rw [if_pos hlt, if_pos hlt]
    have ht : (100000 < (len : Int)) = False := eq_false (by omega)
    have X := of_any b len cap xs w r
    go_enter Try.func15, Try.ntmps15
    go_wp2_with (go_at_call 18; refine X.mono ?_; rintro e w' ⟨rfl, q, rfl⟩)
    go_ret2
    exact ⟨rfl, q, rfl⟩
  · rw [if_neg hlt, if_neg hlt]
    have ht : (100000 < (len : Int)) = True := eq_true (by omega)
    go_enter Try.func15, Try.ntmps15
    go_wp2
    go_ret2
    exact ⟨rfl, 0, rfl⟩

/-- Great. -/
def greatC (len : Nat) : Bool := decide (1000 < len) && decide (len ≤ 100000) || decide (100100 < len)

set_option maxHeartbeats 1000000 in
theorem great_any (b : Option Addr) (len cap : Nat) (xs : List Int) (w : World) (r : RowIn .u8 w b len cap xs) :
    Calls Try.prog 13 #[.slice b len cap] w fun e w' => e = .returned (.bool (greatC len)) ∧ w = w' := by
  have hl := r.rd.len
  rw [r.hl] at hl
  unfold greatC
  rcases (show len ≤ 1000 ∨ (1000 < len ∧ len ≤ 100000) ∨ (100000 < len ∧ len ≤ 100100) ∨ 100100 < len by omega) with g | ⟨g, g'⟩ | ⟨g, g'⟩ | g
  · rw [show (decide (1000 < len) && decide (len ≤ 100000) || decide (100100 < len)) = false by simp; omega]
    have f1 : (1000 < (len : Int)) = False := eq_false (by omega)
    have f2 : (100100 < (len : Int)) = False := eq_false (by omega)
    go_enter Try.func13, Try.ntmps13
    go_wp2
    go_ret
    exact ⟨rfl, rfl⟩
  · rw [show (decide (1000 < len) && decide (len ≤ 100000) || decide (100100 < len)) = true by simp; omega]
    have f1 : (1000 < (len : Int)) = True := eq_true (by omega)
    have f2 : ((len : Int) ≤ 100000) = True := eq_true (by omega)
    go_enter Try.func13, Try.ntmps13
    go_wp2
    go_ret
    exact ⟨rfl, rfl⟩
  · rw [show (decide (1000 < len) && decide (len ≤ 100000) || decide (100100 < len)) = false by simp; omega]
    have f1 : (1000 < (len : Int)) = True := eq_true (by omega)
    have f2 : ((len : Int) ≤ 100000) = False := eq_false (by omega)
    have f3 : (100100 < (len : Int)) = False := eq_false (by omega)
    go_enter Try.func13, Try.ntmps13
    go_wp2
    go_ret
    exact ⟨rfl, rfl⟩
  · rw [show (decide (1000 < len) && decide (len ≤ 100000) || decide (100100 < len)) = true by simp; omega]
    have f1 : (1000 < (len : Int)) = True := eq_true (by omega)
    have f2 : ((len : Int) ≤ 100000) = False := eq_false (by omega)
    have f3 : (100100 < (len : Int)) = True := eq_true (by omega)
    go_enter Try.func13, Try.ntmps13
    go_wp2
    go_ret
    exact ⟨rfl, rfl⟩
end Go.Proofs.Ythpopnpmaclncaa.R03

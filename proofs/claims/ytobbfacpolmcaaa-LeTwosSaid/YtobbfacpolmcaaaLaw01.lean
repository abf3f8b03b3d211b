/- The laws of layer 1: walks of their Go text, out of the contracts of what they call. -/
import Derived.Test.YtobbfacpolmcaaaRef01
import Derived.Test.YtobbfacpolmcaaaLe
namespace Go.Proofs.Ytobbfacpolmcaaa.Wk
open Go.RowKit Go.Proofs.Ytobbfacpolmcaaa.Kit Go.Proofs.Ytobbfacpolmcaaa.M01
set_option linter.unusedVariables false

set_option maxHeartbeats 400000 in
theorem leSigns_walk (a0 : Int) (a1 : Int) (a2 : Int) (w : World) (b0 : 0 ≤ a0 ∧ a0 ≤ 18446744073709551615) (b1 : -9223372036854775808 ≤ a1 ∧ a1 ≤ 9223372036854775807) (b2 : -9223372036854775808 ≤ a2 ∧ a2 ≤ 9223372036854775807) :
    Calls Try.prog 5 #[.int .u64 a0, .int .i64 a1, .int .i64 a2] w fun e w' => e = .returned (.bool true) ∧ Below w.heap.size w w' := by
  go_enter Try.func5, Try.ntmps5
  go_wp2_with (first | (go_at_call 12; refine (Le.signed_any _ _ _ b0.1 (by omega)).mono ?_; rintro e w' ⟨rfl, k1, rfl⟩) | (go_at_call 19; refine (R01.signed_any _ _ _ b0.1 (by omega)).mono ?_; rintro e w' ⟨rfl, rfl⟩) | (go_at_call 13; refine (Le.unsigned_any _ _ _ b1.1 b1.2).mono ?_; rintro e w' ⟨rfl, k2, rfl⟩) | (go_at_call 20; refine (R01.unsigned_any _ _ _ b1.1 b1.2).mono ?_; rintro e w' ⟨rfl, rfl⟩))
  go_ret
  exact ⟨by simp, below_drewN (Below.refl _ _) _⟩

theorem dropU {a b : Value} (h : a = b) : Ending.returned a = .returned b := by rw [h]

set_option maxHeartbeats 400000 in
theorem alive_any (w : World) :
    Calls Try.prog 15 #[] w fun e w' => e = .returned (.bool true) ∧ Below w.heap.size w w' := by
  have B2 : ∀ w, Calls Try.prog 10 #[.int .u64 258, .int .i64 2] w fun e w' => ∃ a cap, e = .returned (.tuple #[.slice a 2 cap, .int .i64 0]) ∧ RowIn .u8 w' a 2 cap [2, 1] ∧ Below w.heap.size w w' := by
    intro w
    have := Le.bytes_any 258 2 w (by omega) (by omega)
    rwa [show bytesL 258 2 = [2, 1] by decide +kernel, show bytesE 258 2 = 0 by decide +kernel] at this
  have B3 : ∀ w, Calls Try.prog 10 #[.int .u64 258, .int .i64 3] w fun e w' => ∃ a cap, e = .returned (.tuple #[.slice a 3 cap, .int .i64 0]) ∧ RowIn .u8 w' a 3 cap [2, 1, 0] ∧ Below w.heap.size w w' := by
    intro w
    have := Le.bytes_any 258 3 w (by omega) (by omega)
    rwa [show bytesL 258 3 = [2, 1, 0] by decide +kernel, show bytesE 258 3 = 0 by decide +kernel] at this
  have U1 : ∀ w, Calls Try.prog 13 #[.int .i64 (-2), .int .i64 1] w fun e w' => e = .returned (.tuple #[.int .u64 254, .int .i64 0]) ∧ ∃ k, w' = w.drewN k := by
    intro w
    have := Le.unsigned_any (-2) 1 w (by omega) (by omega)
    rwa [show unsN (-2) 1 = 254 by decide +kernel, show unsE (-2) 1 = 0 by decide +kernel] at this
  have U3 : ∀ w, Calls Try.prog 13 #[.int .i64 (-2), .int .i64 3] w fun e w' => e = .returned (.tuple #[.int .u64 16777214, .int .i64 0]) ∧ ∃ k, w' = w.drewN k := by
    intro w
    have := Le.unsigned_any (-2) 3 w (by omega) (by omega)
    rwa [show unsN (-2) 3 = 16777214 by decide +kernel, show unsE (-2) 3 = 0 by decide +kernel] at this
  have H2 := hid B2
  have H3 := hid B3
  have G1 := hid U1
  have G3 := hid U3
  clear B2 B3 U1 U3
  go_enter Try.func15, Try.ntmps15
  go_wp2_with fail
  refine (H2.out _).mono ?_; rintro e w1 ⟨a1, c1, rfl, h1, hb1⟩
  go_wp2_with fail
  refine (H3.out _).mono ?_; rintro e w2 ⟨a2, c2, rfl, h2, hb2⟩
  go_wp2_with fail
  refine (G1.out _).mono ?_; rintro e w3 ⟨rfl, k1, rfl⟩
  go_wp2_with fail
  refine (G3.out _).mono ?_; rintro e w3 ⟨rfl, k2, rfl⟩
  have s1 := ((h1.same hb2).rd.strD (P := Try.prog) 2 c1 rfl (src := 22) (dst := 9) Try.underlying22 Try.underlying5 Try.underlying9).2
  have s2 := (h2.rd.strD (P := Try.prog) 3 c2 rfl (src := 22) (dst := 9) Try.underlying22 Try.underlying5 Try.underlying9).2
  rw [show bstr [2, 1] = ⟨#[2, 1]⟩ by decide +kernel] at s1
  rw [show bstr [2, 1, 0] = ⟨#[2, 1, 0]⟩ by decide +kernel] at s2
  go_wp2_with fail
  go_ret
  exact ⟨rfl, below_drewN (hb1.trans (hb2.mono hb1.size)) _⟩

set_option maxHeartbeats 400000 in
theorem leReads_walk (a0 : Int) (a1 : Int) (a2 : Option Addr) (l2 c2 : Nat) (x2 : List Int) (a3 : Int) (w : World) (b0 : 0 ≤ a0 ∧ a0 ≤ 18446744073709551615) (b1 : -9223372036854775808 ≤ a1 ∧ a1 ≤ 9223372036854775807) (r2 : RowIn .u8 w a2 l2 c2 x2) (b3 : -9223372036854775808 ≤ a3 ∧ a3 ≤ 9223372036854775807) :
    Calls Try.prog 4 #[.int .u64 a0, .int .i64 a1, .slice a2 l2 c2, .int .i64 a3] w fun e w' => e = .returned (.bool true) ∧ Below w.heap.size w w' := by
  have hm := r2.hm
  have hc := r2.hc
  by_cases h100 : 100 < l2
  · go_enter Try.func4, Try.ntmps4
    go_wp2
    go_ret
    exact ⟨rfl, Below.refl _ _⟩
  · go_enter Try.func4, Try.ntmps4
    go_wp2_with fail
    refine (Le.bytes_any _ _ _ b0.1 (by omega)).mono ?_; rintro e w1 ⟨p1, q1, rfl, h1, hb1⟩
    go_wp2_with fail
    refine (R01.bytes_any _ _ _ b0.1 (by omega)).mono ?_; rintro e w2 ⟨p2, q2, rfl, h2, hb2⟩
    have hb12 : Below w.heap.size w w2 := hb1.trans (hb2.mono hb1.size)
    have r2' := r2.same hb12
    have s1 := ((h1.same hb2).rd.strD (P := Try.prog) _ q1 rfl (src := 22) (dst := 9) Try.underlying22 Try.underlying5 Try.underlying9).1
    have s2 := (h2.rd.strD (P := Try.prog) _ q2 rfl (src := 22) (dst := 9) Try.underlying22 Try.underlying5 Try.underlying9).1
    go_wp2_with (first | (go_at_call 14; refine (Le.value_any _ _ _ _ _ r2'.rd r2'.hl).mono ?_; rintro e w' ⟨rfl, rfl⟩) | (go_at_call 17; refine (R01.value_any _ _ _ _ _ r2'.rd r2'.hl).mono ?_; rintro e w' ⟨rfl, rfl⟩) | (go_at_call 11; refine (Le.at_any _ _ _ _ _ _ _ r2'.rd r2'.hl hc hm b3.2).mono ?_; rintro e w' ⟨rfl, rfl⟩) | (go_at_call 18; refine (R01.at_any _ _ _ _ _ _ _ r2'.rd r2'.hl hc hm b3.2).mono ?_; rintro e w' ⟨rfl, rfl⟩))
    go_ret
    exact ⟨by simp, hb12⟩

theorem signed_at {n x v er : Int} (hn : 0 ≤ n) (hn2 : n < 18446744073709551616) (hv : sgnN n x = v) (he : sgnE n x = er) :
    Hid (∀ w, Calls Try.prog 12 #[.int .u64 n, .int .i64 x] w fun e w' => e = .returned (.tuple #[.int .i64 v, .int .i64 er]) ∧ ∃ k, w' = w.drewN k) := by
  intro w; subst hv he; exact Le.signed_any n x w hn hn2
theorem unsigned_at {n x v er : Int} (hn : -9223372036854775808 ≤ n) (hn2 : n ≤ 9223372036854775807) (hv : unsN n x = v) (he : unsE n x = er) :
    Hid (∀ w, Calls Try.prog 13 #[.int .i64 n, .int .i64 x] w fun e w' => e = .returned (.tuple #[.int .u64 v, .int .i64 er]) ∧ ∃ k, w' = w.drewN k) := by
  intro w; subst hv he; exact Le.unsigned_any n x w hn hn2
theorem top_at {x p : Int} (h : isW x = true) (hp : pw x.toNat = p) :
    Hid (∀ w, Calls Try.prog 22 #[.int .i64 x] w fun e w' => e = .returned (.int .u64 (p - 1)) ∧ w = w') := by
  intro w; subst hp; exact R01.top_any x w h

theorem bytes_at {n x : Int} {L : List Int} {er : Int} {len : Nat} (hn : 0 ≤ n) (hn2 : n < 18446744073709551616) (hv : bytesL n x = L) (he : bytesE n x = er) (hl : L.length = len) :
    Hid (∀ w, Calls Try.prog 10 #[.int .u64 n, .int .i64 x] w fun e w' => ∃ a cap, e = .returned (.tuple #[.slice a len cap, .int .i64 er]) ∧ RowIn .u8 w' a len cap L ∧ Below w.heap.size w w') := by
  intro w; subst hv he hl; exact Le.bytes_any n x w hn hn2

end Go.Proofs.Ytobbfacpolmcaaa.Wk

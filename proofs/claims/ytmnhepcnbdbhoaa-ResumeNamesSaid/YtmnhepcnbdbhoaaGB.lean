/- What the functions of package bits return: walks of their Go text. The functions that package bits hands on, and what puts bits behind. What puts bits behind others. What package bits puts, joins, and makes of bytes. What package bits fills up, puts, and joins. What package bits puts and joins. What package bits gets and cuts. -/
import Derived.Test.YtmnhepcnbdbhoaaProg
import Derived.Test.YtmnhepcnbdbhoaaGK
import Derived.Test.YtmnhepcnbdbhoaaGM
import Derived.Deep.QuietTactic
import Derived.BigQuiet
import Derived.Shelf.Abstract
import Derived.Laws.ResultCell
import Derived.Laws.EntriesVeiled
namespace Go.Proofs.Ytmnhepcnbdbhoaa.Bt
open Go.RowKit Go.Proofs.Ytmnhepcnbdbhoaa.Kit Go.Proofs.Ytmnhepcnbdbhoaa.M01 Go.Proofs.Ytmnhepcnbdbhoaa.M02
set_option linter.unusedVariables false

theorem and_low (v n : Int) (hv : 0 ≤ v) (hv2 : v < 18446744073709551616) (h0 : 0 ≤ n) :
    bits .and .u64 v (IntKind.u64.wrap (IntKind.u64.wrap (2 ^ min n.toNat 64) - 1)) = v % p2 (min n 64) := by
  have key : ∀ k : Nat, k ≤ 64 → bits .and .u64 v (2 ^ k - 1) = v % 2 ^ k := fun k hk =>
    bits_mask .u64 64 (by decide) (fun n h h' => by
      have : (2 : Int) ^ 64 = 18446744073709551616 := by decide +kernel
      simp [IntKind.wrap, IntKind.bits, IntKind.signed]; omega) k hk v hv (by
      have : (2 : Int) ^ 64 = 18446744073709551616 := by decide +kernel
      omega)
  have hw : ∀ x, IntKind.u64.wrap x = x % 18446744073709551616 := fun x => by simp [IntKind.wrap, IntKind.bits, IntKind.signed]
  have e : (min n 64).toNat = min n.toNat 64 := by omega
  have h64 : (2 : Int) ^ 64 = 18446744073709551616 := by decide +kernel
  unfold p2
  rw [e]
  generalize hk : min n.toNat 64 = k
  have hk2 : k ≤ 64 := by omega
  rw [← key k hk2]
  congr 1
  rw [hw, hw]
  have h1 := two_pos k
  by_cases h : k = 64
  · subst h; rw [h64]; decide
  · have h2 : (2 : Int) ^ k * 2 ≤ 2 ^ 64 := by
      rw [← Int.pow_succ]
      obtain ⟨d, hd⟩ : ∃ d, 64 = k + 1 + d := ⟨64 - (k + 1), by omega⟩
      conv => rhs; rw [hd, Int.pow_add]
      have h3 := Int.mul_le_mul_of_nonneg_left (two_pos d) (show 0 ≤ (2 : Int) ^ (k + 1) by have := two_pos (k + 1); omega)
      rw [Int.mul_one] at h3; exact h3
    omega

set_option maxHeartbeats 4000000 in
theorem bytesFor_any (n : Int) (w : World) (h0 : 0 ≤ n) (h1 : n ≤ 330100) :
    Calls Try.prog 50 #[.int .i64 n] w fun e w' => e = .returned (.int .i64 (sz n)) ∧ w = w' := by
  have h2 := sz_nat h0
  go_enter Try.func50, Try.ntmps50
  go_wp2
  go_ret
  exact ⟨by go_num, rfl⟩

set_option maxHeartbeats 4000000 in
theorem lowest_any (v n : Int) (w : World) (hv : 0 ≤ v) (hv2 : v < 18446744073709551616) (h0 : 0 ≤ n) (h1 : n ≤ 330100) :
    Calls Try.prog 48 #[.int .u64 v, .int .i64 n] w fun e w' => e = .returned (.int .u64 (v % p2 (min n 64))) ∧ w = w' := by
  go_enter Try.func48, Try.ntmps48
  go_wp2
  go_ret
  exact ⟨by rw [← and_low v n hv hv2 h0]; rfl, rfl⟩

/-- Bits as a value. -/
def bv (a : Option Addr) (len cap : Nat) (n : Int) : Value := .agg #[.slice a len cap, .int .i64 n]

theorem byte_of {k : World} {a : Option Addr} {xs : List Int} (h : Reads .u8 k a xs) : isByte xs := fun x hx => by
  have := bd_u8 (h.2.2 x hx); omega

set_option maxHeartbeats 4000000 in
theorem check_any (a : Option Addr) (len cap : Nat) (xs : List Int) (n : Int) (w : World) (hr : RowIn .u8 w a len cap xs) (h0 : -9223372036854775808 ≤ n) (h1 : n ≤ 9223372036854775807) :
    Calls Try.prog 34 #[bv a len cap n] w fun e w' => e = .returned (.int .i64 (chkE xs n)) ∧ Below w.heap.size w w' := by
  obtain rfl := hr.hl
  have hb := byte_of hr.rd
  have hlen := hr.rd.len
  unfold chkE
  by_cases e1 : n < 0
  · have hok : okB xs n = false := by unfold okB; exact decide_eq_false (by omega)
    rw [hok]
    unfold bv
    go_enter Try.func34, Try.ntmps34
    go_wp2
    go_quiet (fail)
    go_wp2
    go_ret
    exact ⟨rfl, below_drewN ((Below.refl _ _).alloc (Nat.le_refl _) _) _⟩
  have f1 : (n < 0) = False := eq_false e1
  by_cases e2 : 330000 < n
  · have f2 : (330000 < n) = True := eq_true e2
    have hok : okB xs n = false := by unfold okB; exact decide_eq_false (by omega)
    rw [hok]
    unfold bv
    go_enter Try.func34, Try.ntmps34
    go_wp2
    go_quiet (fail)
    go_wp2
    go_ret
    exact ⟨rfl, below_drewN ((Below.refl _ _).alloc (Nat.le_refl _) _) _⟩
  have f2 : (330000 < n) = False := eq_false e2
  have c1 : 0 ≤ n := by omega
  have c2 : n ≤ 330000 := by omega
  clear e1 e2
  by_cases c3 : sz n = xs.length
  · have hs := sz_nat c1
    have hlast := ok_last hb c1 (by omega)
    by_cases c4 : n % 8 = 0
    · have hok : okB xs n = true := okB_iff.2 ⟨c1, c2, by omega, by exact hlast.2 (.inl c4)⟩
      rw [hok]
      clear hlast hs
      unfold bv
      go_enter Try.func34, Try.ntmps34
      go_wp2
      go_quiet ((go_at_call 50; exact Calls.quiet_of_same ((bytesFor_any _ _ c1 (by omega)).mono (fun _ _ q => ⟨q.1, q.2.symm⟩))))
      go_wp2
      go_ret
      exact ⟨rfl, below_drewN ((Below.refl _ _).alloc (Nat.le_refl _) _) _⟩
    · have hj : (n / 8).toNat < xs.length := by omega
      have hj2 : n / 8 < (xs.length : Int) := by omega
      have hn8 : 0 < n % 8 := by omega
      obtain ⟨b, off, ea, hcc⟩ := (hr.rd.alloc (.cells #[.slice a xs.length cap, .int .i64 n] 27)).cells (by intro h; subst h; simp at hj)
      subst ea
      have hcell := hcc _ hj
      have hbb := isByte_at hb hj
      obtain ⟨y, ey⟩ : ∃ y, xs.getD (n / 8).toNat 0 = y := ⟨_, rfl⟩
      rw [ey] at hcell hlast hbb
      unfold p2 at hlast
      by_cases c5 : y / 2 ^ (n % 8).toNat = 0
      · have hok : okB xs n = true := okB_iff.2 ⟨c1, c2, by omega, by unfold p2; exact hlast.2 (.inr c5)⟩
        rw [hok]
        clear hlast hs hcc ey
        unfold bv
        go_enter Try.func34, Try.ntmps34
        go_wp2
        go_quiet ((go_at_call 50; exact Calls.quiet_of_same ((bytesFor_any _ _ c1 (by omega)).mono (fun _ _ q => ⟨q.1, q.2.symm⟩))))
        go_wp2
        go_ret
        exact ⟨rfl, below_drewN ((Below.refl _ _).alloc (Nat.le_refl _) _) _⟩
      · have hok : okB xs n = false := by unfold okB; exact decide_eq_false (fun h => by have := hlast.1 h.2.2.2; rcases hlast.1 h.2.2.2 with h | h <;> contradiction)
        rw [hok]
        clear hlast hs hcc ey
        unfold bv
        go_enter Try.func34, Try.ntmps34
        go_wp2
        go_quiet ((go_at_call 50; exact Calls.quiet_of_same ((bytesFor_any _ _ c1 (by omega)).mono (fun _ _ q => ⟨q.1, q.2.symm⟩))))
        go_wp2
        go_ret
        exact ⟨rfl, below_drewN ((Below.refl _ _).alloc (Nat.le_refl _) _) _⟩
  · have hok : okB xs n = false := by unfold okB; have := sz_nat c1; exact decide_eq_false (by omega)
    rw [hok]
    unfold bv
    go_enter Try.func34, Try.ntmps34
    go_wp2
    go_quiet ((go_at_call 50; exact Calls.quiet_of_same ((bytesFor_any _ _ c1 (by omega)).mono (fun _ _ q => ⟨q.1, q.2.symm⟩))))
    go_wp2
    go_ret
    exact ⟨rfl, below_drewN ((Below.refl _ _).alloc (Nat.le_refl _) _) _⟩
end Go.Proofs.Ytmnhepcnbdbhoaa.Bt

namespace Go.Proofs.Ytmnhepcnbdbhoaa.Bt
open Go.Proofs Go.RowKit Go.Proofs.Ytmnhepcnbdbhoaa.Kit Go.Proofs.Ytmnhepcnbdbhoaa.M01 Go.Proofs.Ytmnhepcnbdbhoaa.M02
set_option linter.unusedVariables false

/-- What the function of 'eights' captured. -/
structure EightAt (w : World) (g1 g2 : Nat) (xs : List Int) (n : Int) : Prop where
  c1 : ∃ a, w.cell? ⟨g1, 0, none⟩ = some (.slice a (xs.length - (n / 8).toNat) (xs.length - (n / 8).toNat)) ∧ Reads .u8 w a (xs.drop (n / 8).toNat)
  c2 : w.cell? ⟨g2, 0, none⟩ = some (.int .i64 (n % 8))

theorem EightAt.same {w w' : World} {g1 g2 : Nat} {xs : List Int} {n : Int} (h : EightAt w g1 g2 xs n) (hb : Below w.heap.size w w') : EightAt w' g1 g2 xs n := by
  obtain ⟨a, h1, h2⟩ := h.c1
  exact ⟨⟨a, by rw [hb.cell (World.block_lt_of_cell? w _ h1)]; exact h1, h2.same hb⟩, by rw [hb.cell (World.block_lt_of_cell? w _ h.c2)]; exact h.c2⟩

theorem or_low (x y : Int) (i : Nat) (h : i ≤ 8) (hx0 : 0 ≤ x) (hx : x < 2 ^ i) (hy0 : 0 ≤ y) (hy1 : y < 256) (hy : y % 2 ^ i = 0) : bits .or .u8 x y = x + y := by
  have e : bits .or .u8 x y = bits .or .u8 y x := by simp only [bits, BitVec.or_comm]
  have hi : (2 : Int) ^ i ≤ 256 := by
    have := p2_le (show (i : Int) ≤ 8 by omega)
    rw [p2_8] at this; unfold p2 at this; simpa using this
  rw [e, bits_join .u8 8 (by decide) wraps_u8 i y x hy0 hy (by simpa using hy1) hx0 hx (by simp; omega), Int.add_comm]

theorem or_eight (y z s : Int) (hy0 : 0 ≤ y) (hy : y < 256) (hz0 : 0 ≤ z) (hz : z < 256) (hs0 : 0 ≤ s) (hs : s < 8) :
    bits .or .u8 (y / p2 s) (z * p2 (8 - s) % 256) = y / p2 s + z * p2 (8 - s) % 256 := by
  refine or_low _ _ (8 - s).toNat (by omega) ?_ ?_ (by omega) (by omega) ?_ <;>
  rcases (show s = 0 ∨ s = 1 ∨ s = 2 ∨ s = 3 ∨ s = 4 ∨ s = 5 ∨ s = 6 ∨ s = 7 by omega) with rfl | rfl | rfl | rfl | rfl | rfl | rfl | rfl <;> simp [p2] <;> omega

set_option maxHeartbeats 4000000 in
theorem eight_any (g1 g2 : Nat) (xs : List Int) (n : Int) (i : Nat) (w : World) (h : EightAt w g1 g2 xs n) (hb : isByte xs) (h0 : 0 ≤ n) (hl : xs.length ≤ 50000) (hj : (n / 8).toNat + i < xs.length) :
    Calls Try.prog 65 #[.int .i64 i, .pointer (some ⟨g1, 0, none⟩), .pointer (some ⟨g2, 0, none⟩)] w fun e w' => e = .returned (.int .u8 (val xs / p2 n / pw i % 256)) ∧ ∃ k, w' = w.drewN k := by
  obtain ⟨⟨a, h1, h2⟩, h3⟩ := h
  rw [eight_eq hb h0 i hj]
  have hdl : (xs.drop (n / 8).toNat).length = xs.length - (n / 8).toNat := List.length_drop
  obtain ⟨b, off, ea, hcc⟩ := h2.cells (by intro h; rw [h] at hdl; simp at hdl; omega)
  subst ea
  have hcell := hcc i (by omega)
  rw [getD_drop] at hcell
  have hyb := isByte_at hb hj
  obtain ⟨y, ey⟩ : ∃ y, xs.getD ((n / 8).toNat + i) 0 = y := ⟨_, rfl⟩
  rw [ey] at hcell hyb ⊢
  obtain ⟨m, em⟩ : ∃ m, xs.length - (n / 8).toNat = m := ⟨_, rfl⟩
  rw [em] at h1
  have him : i < m := by omega
  have hm : m ≤ 50000 := by omega
  obtain ⟨s, es⟩ : ∃ s, n % 8 = s := ⟨_, rfl⟩
  have hs0 : 0 ≤ s := by omega
  have hs8 : s < 8 := by omega
  rw [es] at h3 ⊢
  by_cases hlast : (n / 8).toNat + i + 1 < xs.length
  · rw [if_pos hlast]
    have him2 : (i : Int) + 1 < (m : Int) := by omega
    have hcell2 := hcc (i + 1) (by omega)
    rw [getD_drop, show (n / 8).toNat + (i + 1) = (n / 8).toNat + i + 1 by omega] at hcell2
    have hzb := isByte_at hb hlast
    obtain ⟨z, ez⟩ : ∃ z, xs.getD ((n / 8).toNat + i + 1) 0 = z := ⟨_, rfl⟩
    rw [ez] at hcell2 hzb ⊢
    clear hcc ey ez hdl h2 hlast hj em es
    go_enter Try.func65, Try.ntmps65
    go_wp2
    go_quiet (fail)
    go_wp2
    go_quiet (fail)
    go_wp2
    go_ret
    exact ⟨by rw [← or_eight y z s hyb.1 hyb.2 hzb.1 hzb.2 hs0 hs8]; rfl, _, World.drewN_drewN ..⟩
  · rw [if_neg hlast]
    have him2 : ((i : Int) + 1 < (m : Int)) = False := eq_false (by omega)
    clear hcc ey hdl h2 hlast hj em es
    go_enter Try.func65, Try.ntmps65
    go_wp2
    go_quiet (fail)
    go_wp2
    go_ret
    exact ⟨by rw [Int.add_zero]; rfl, nq, rfl⟩

/-- What 'eights' hands on. -/
def eightV (g1 g2 : Nat) : Value := .func (.func 65) #[] #[.pointer (some ⟨g1, 0, none⟩), .pointer (some ⟨g2, 0, none⟩)]

/-- A function that gives the bytes of a number X, up to the m-th one. -/
def Gives (w : World) (k : Nat) (cap : Array Value) (X : Int) (m : Nat) : Prop :=
  (∀ (args : Array Value) (w : World), (callFunc k args).run Try.prog w = .ok (.enter k args) w) ∧ ∀ w' i, Below w.heap.size w w' → i < m → Calls Try.prog k (#[.int .i64 (i : Nat)] ++ cap) w' fun e w'' => e = .returned (.int .u8 (X / pw i % 256)) ∧ ∃ q, w'' = w'.drewN q

theorem Gives.same {w w' : World} {k : Nat} {cap : Array Value} {X : Int} {m : Nat} (h : Gives w k cap X m) (hb : Below w.heap.size w w') : Gives w' k cap X m :=
  ⟨h.1, fun w2 i h2 hi => h.2 w2 i (hb.trans (h2.mono hb.size)) hi⟩

theorem eightAt_mk {w : World} {xs : List Int} {n : Int} {a : Option Addr} {m : Nat} {T1 T2 : TypeId} (hm : m = xs.length - (n / 8).toNat) (h : Reads .u8 w a (xs.drop (n / 8).toNat)) :
    EightAt ((w.alloc (.cells #[.slice a m m] T1)).alloc (.cells #[.int .i64 (n % 8)] T2)) w.heap.size (w.heap.size + 1) xs n := by
  subst hm
  refine ⟨⟨a, ?_, (h.alloc _).alloc _⟩, ?_⟩
  · rw [World.cell?_alloc_past _ _ _ (by simp), World.cell?_alloc_at _ _ _ _ rfl]; rfl
  · rw [World.cell?_alloc_at _ _ _ _ (by simp)]; rfl

set_option maxHeartbeats 4000000 in
theorem eights_any (a : Option Addr) (len cap : Nat) (xs : List Int) (n : Int) (w : World) (hr : RowIn .u8 w a len cap xs) (h0 : 0 ≤ n) (hn : n ≤ 8 * len) (hl : len ≤ 50000) :
    Calls Try.prog 46 #[.slice a len cap, .int .i64 n] w fun e w' => ∃ g1 g2, e = .returned (eightV g1 g2) ∧ EightAt w' g1 g2 xs n ∧ Below w.heap.size w w' := by
  obtain rfl := hr.hl
  have hc := hr.hc
  have hm := hr.hm
  have hbel : ∀ o1 o2, Below w.heap.size w ((w.alloc o1).alloc o2) := fun o1 o2 => ((Below.refl _ _).alloc (Nat.le_refl _) _).alloc (by simp) _
  obtain ⟨d, hd⟩ : ∃ d : Nat, n / 8 = d := ⟨(n / 8).toNat, by omega⟩
  have hdn : (n / 8).toNat = d := by omega
  have hdl : d ≤ xs.length := by omega
  cases a with
  | none =>
    have hx : xs = [] := by
      rcases hr.rd.1 with h | ⟨b, off, h, _⟩
      · exact h
      · cases h
    subst hx
    obtain rfl : d = 0 := by simpa using hdl
    have hmk := eightAt_mk (w := w) (xs := []) (n := n) (a := none) (m := 0) (T1 := 25) (T2 := 3) (by simp) (by simpa using Reads.nil)
    go_enter Try.func46, Try.ntmps46
    go_wp2
    go_ret
    exact ⟨_, _, rfl, hmk, hbel _ _⟩
  | some x =>
    by_cases he : xs.length = d
    · have hmk := eightAt_mk (w := w) (xs := xs) (n := n) (a := some x) (m := 0) (T1 := 25) (T2 := 3) (by omega) (by rw [hdn, List.drop_of_length_le (by omega)]; exact Reads.nil)
      go_enter Try.func46, Try.ntmps46
      go_wp2
      go_ret
      exact ⟨_, _, rfl, hmk, hbel _ _⟩
    · obtain ⟨b, off, ea, hcc⟩ := hr.rd.cells (by intro h; rw [h] at hdl he; simp at hdl he; omega)
      cases ea
      have hmk := eightAt_mk (w := w) (xs := xs) (n := n) (a := some ⟨b, off + d, none⟩) (m := xs.length - d) (T1 := 25) (T2 := 3) (by omega) (by rw [hdn]; exact hr.rd.drop d)
      clear hcc
      go_enter Try.func46, Try.ntmps46
      go_wp2
      go_ret
      exact ⟨_, _, rfl, hmk, hbel _ _⟩

set_option maxHeartbeats 4000000 in
theorem put1_any (b : Nat) (v : Int) (i : Nat) (w : World) (h : w.cell? ⟨b, 0, none⟩ = some (.int .u64 v)) (hv : 0 ≤ v) (hv2 : v < 18446744073709551616) (hi : i < 8) :
    Calls Try.prog 80 #[.int .i64 i, .pointer (some ⟨b, 0, none⟩)] w fun e w' => e = .returned (.int .u8 (v / pw i % 256)) ∧ ∃ k, w' = w.drewN k := by
  go_enter Try.func80, Try.ntmps80
  go_wp2
  go_ret
  have e : (2 : Int) ^ (8 * i) = pw i := by rw [Int.pow_mul]; rfl
  exact ⟨by rw [← e]; rfl, 0, rfl⟩

set_option maxHeartbeats 4000000 in
theorem join1_any (g : Nat) (a : Option Addr) (len cap : Nat) (xs : List Int) (n : Int) (i : Nat) (w : World) (h1 : w.cell? ⟨g, 0, none⟩ = some (.slice a len cap)) (h2 : w.cell? ⟨g, 1, none⟩ = some (.int .i64 n)) (hr : RowIn .u8 w a len cap xs) (hi : i < len) :
    Calls Try.prog 43 #[.int .i64 i, .pointer (some ⟨g, 0, none⟩)] w fun e w' => e = .returned (.int .u8 (val xs / pw i % 256)) ∧ ∃ k, w' = w.drewN k := by
  obtain rfl := hr.hl
  obtain ⟨b, off, ea, hcc⟩ := hr.rd.cells (by intro h; rw [h] at hi; simp at hi)
  subst ea
  have hcell := hcc i hi
  rw [← val_at (byte_of hr.rd) hi] at hcell
  have hl := hr.rd.len
  clear hcc
  go_enter Try.func43, Try.ntmps43
  go_wp2
  go_ret
  exact ⟨rfl, 0, rfl⟩

theorem eights_gives {w : World} {g1 g2 : Nat} {xs : List Int} {n : Int} (h : EightAt w g1 g2 xs n) (hb : isByte xs) (h0 : 0 ≤ n) (hl : xs.length ≤ 50000) (m : Nat) (hm : (n / 8).toNat + m ≤ xs.length) :
    Gives w 65 #[.pointer (some ⟨g1, 0, none⟩), .pointer (some ⟨g2, 0, none⟩)] (val xs / p2 n) m :=
  ⟨enters_of Try.func65 (by kernel_rfl) rfl, fun w' i hw hi => eight_any g1 g2 xs n i w' (h.same hw) hb h0 hl (by omega)⟩

theorem put1_gives {w : World} {b : Nat} {v : Int} (h : w.cell? ⟨b, 0, none⟩ = some (.int .u64 v)) (hv : 0 ≤ v) (hv2 : v < 18446744073709551616) (m : Nat) (hm : m ≤ 8) :
    Gives w 80 #[.pointer (some ⟨b, 0, none⟩)] v m :=
  ⟨enters_of Try.func80 (by kernel_rfl) rfl, fun w' i hw hi => put1_any b v i w' (by rw [hw.cell (World.block_lt_of_cell? w _ h)]; exact h) hv hv2 (by omega)⟩

theorem join1_gives {w : World} {g : Nat} {a : Option Addr} {len cap : Nat} {xs : List Int} {n : Int} (h1 : w.cell? ⟨g, 0, none⟩ = some (.slice a len cap)) (h2 : w.cell? ⟨g, 1, none⟩ = some (.int .i64 n)) (hr : RowIn .u8 w a len cap xs) :
    Gives w 43 #[.pointer (some ⟨g, 0, none⟩)] (val xs) len :=
  ⟨enters_of Try.func43 (by kernel_rfl) rfl, fun w' i hw hi => join1_any g a len cap xs n i w' (by rw [hw.cell (World.block_lt_of_cell? w _ h1)]; exact h1) (by rw [hw.cell (World.block_lt_of_cell? w _ h2)]; exact h2) (hr.same hw) hi⟩
end Go.Proofs.Ytmnhepcnbdbhoaa.Bt

namespace Go.Proofs.Ytmnhepcnbdbhoaa.Bt
attribute [local irreducible] wpStill
open Go.RowKit Go.Proofs.Ytmnhepcnbdbhoaa.Kit Go.Proofs.Ytmnhepcnbdbhoaa.M01 Go.Proofs.Ytmnhepcnbdbhoaa.M02
set_option linter.unusedVariables false

/-- The bytes that are made lie apart from what was there. -/
def Fresh (w : World) (a : Option Addr) : Prop := ∀ x, a = some x → w.heap.size ≤ x.block
theorem Fresh.none {w : World} : Fresh w Option.none := fun _ h => by cases h
theorem Fresh.lift {w w' : World} {a : Option Addr} (h : Fresh w' a) (hb : w.heap.size ≤ w'.heap.size) : Fresh w a := fun x hx => Nat.le_trans hb (h x hx)
theorem Fresh.ne {w : World} {a : Option Addr} (h : Fresh w a) {g : Nat} (hg : g < w.heap.size) : ∀ x, a = some x → x.block ≠ g := fun x hx => by have := h x hx; omega

theorem info_u8 : (Try.prog.info? 5).map (fun i => (i.zero, i.size, i.bytes)) = some (some (.int .u8 0), 1, 1) := by kernel_rfl
theorem size_u8 : (Try.prog.info? 5).map (·.size) = some 1 := by kernel_rfl
theorem wf_u8 {x : Int} (h0 : 0 ≤ x) (h1 : x < 256) : (Lit.int .u8 x).wf = true := by
  simp [Lit.wf, IntKind.min, IntKind.max, IntKind.signed, IntKind.bits]; omega
theorem wf_byte {l : List Int} (h : isByte l) : ∀ x ∈ l, (Lit.int .u8 x).wf = true := fun x hx => wf_u8 (h x hx).1 (h x hx).2

theorem or_sum (y x s : Int) (hy0 : 0 ≤ y) (hy : y < p2 s) (hx0 : 0 ≤ x) (hx : x < 256) (hs0 : 0 ≤ s) (hs : s < 8) :
    bits .or .u8 y (x * p2 s % 256) = y + x * p2 s % 256 := by
  refine or_low _ _ s.toNat (by omega) hy0 hy (by omega) (by omega) ?_
  rcases (show s = 0 ∨ s = 1 ∨ s = 2 ∨ s = 3 ∨ s = 4 ∨ s = 5 ∨ s = 6 ∨ s = 7 by omega) with rfl | rfl | rfl | rfl | rfl | rfl | rfl | rfl <;> simp [p2] <;> omega

set_option maxHeartbeats 4000000 in
theorem behind_any (a : Option Addr) (len cap : Nat) (xs : List Int) (n m : Int) (k : Nat) (fcap : Array Value) (X : Int) (w : World) (hr : RowIn .u8 w a len cap xs) (hok : okB xs n = true)
    (hm : 0 ≤ m) (hX0 : 0 ≤ X) (hX : X < p2 m) (hnm : n + m ≤ 330000) (hf : Gives w k fcap X (sz m)) :
    Calls Try.prog 42 #[bv a len cap n, .int .i64 m, .func (.func k) #[] fcap] w fun e w' => ∃ a' cap', e = .returned (bv a' (sz (n + m)) cap' (n + m)) ∧ RowIn .u8 w' a' (sz (n + m)) cap' (bl (n + m) (val xs + X * p2 n)) ∧ Below w.heap.size w w' ∧ Fresh w a' := by
  obtain rfl := hr.hl
  obtain ⟨hn0, hn1, hlen, hval⟩ := okB_iff.1 hok
  have hs := sz_nat (show 0 ≤ n + m by omega)
  have hsm := sz_nat hm
  have hb := byte_of hr.rd
  obtain ⟨L, hL⟩ : ∃ L, sz (n + m) = L := ⟨_, rfl⟩
  obtain ⟨M, hM⟩ : ∃ M, sz m = M := ⟨_, rfl⟩
  have hLb : n + m ≤ 8 * (L : Int) ∧ 8 * (L : Int) ≤ n + m + 7 := by omega
  have hMb : m ≤ 8 * (M : Int) ∧ 8 * (M : Int) ≤ m + 7 := by omega
  have hlenL : xs.length ≤ L := by omega
  clear hs hsm
  rw [hM] at hf
  rw [hL]
  obtain ⟨i0, hi, hz0, hz1, hz2⟩ := info_parts info_u8
  unfold bv
  have hrr := hr.rd
  go_enter Try.func42, Try.ntmps42
  obtain ⟨d, hd⟩ : ∃ d : Nat, n / 8 = d := ⟨(n / 8).toNat, by omega⟩
  go_wp2_with (first  | (go_at_call 50; refine (bytesFor_any _ _ (by omega) (by omega)).mono ?_; rintro e w' ⟨rfl, rfl⟩)  | (at_make; refine makeI rfl _ _ 25 rfl (w.heap.size + 2) 5 i0 1 .u8 Try.underlying25 hi hz0 hz1 hz2 _ L rfl rfl rfl (by omega) (by omega) (by simp) ?_; intro w1 hown hgr hbw hsz; simp only [World.size_alloc, Nat.add_assoc, Nat.reduceAdd] at hown hgr hbw hsz ⊢;  have hB : Below w.heap.size w w1 := (((Below.refl _ _).alloc (Nat.le_refl _) _).alloc (by simp) _).trans (hbw.mono (by omega)); have hB1 := hrr.same hB;  have c0 : w1.cell? ⟨w.heap.size, 0, none⟩ = some (.slice a xs.length cap) := (by rw [hbw.cell (by simp <;> omega), World.cell?_alloc_past _ _ _ (by simp), World.cell?_alloc_at _ _ _ _ rfl]; rfl);  have c1 : w1.cell? ⟨w.heap.size, 1, none⟩ = some (.int .i64 n) := (by rw [hbw.cell (by simp <;> omega), World.cell?_alloc_past _ _ _ (by simp), World.cell?_alloc_at _ _ _ _ rfl]; rfl))  | ((with_reducible refine copyI rfl _ _ 25 rfl 5 Try.underlying25 size_u8 .u8 (w.heap.size + 2) (w.heap.size + 2) L L _ hown a xs.length cap xs hB1 rfl hlenL rfl rfl ?_); intro w2 hown2 hbw2;  have d0 : w2.cell? ⟨w.heap.size, 0, none⟩ = some (.slice a xs.length cap) := (by rw [(hbw.trans hbw2).cell (by simp <;> omega), World.cell?_alloc_past _ _ _ (by simp), World.cell?_alloc_at _ _ _ _ rfl]; rfl);  have d1 : w2.cell? ⟨w.heap.size, 1, none⟩ = some (.int .i64 n) := (by rw [(hbw.trans hbw2).cell (by simp <;> omega), World.cell?_alloc_past _ _ _ (by simp), World.cell?_alloc_at _ _ _ _ rfl]; rfl); have d2 : w2.heap[w.heap.size + 1]? = some (.cells #[.slice none 0 0, .int .i64 0] 27) := (by rw [(hbw.trans hbw2).block _ (by omega)]; exact blk2 _ _ _); clear c0 c1 hgr hown hB1; have c0 := d0; have c1 := d1; clear d0 d1))
  have hV0 := val_nonneg hb
  go_loopw [28] (fun t wr => ∃ i : Nat, i ≤ M ∧ t = .int .i64 i ∧ OwnI .u8 wr (w.heap.size + 2) 5 (.slice (some ⟨w.heap.size + 2, 0, none⟩) L L) (digs (val xs + X % pw i * p2 n) L) ∧ Below (w.heap.size + 2) w2 wr) (fun t _ => M - (intOf t).toNat)
  case atStart =>
    refine ⟨0, Nat.zero_le _, rfl, ?_, Below.refl _ _⟩
    have e : digs (val xs + X % pw 0 * p2 n) L = xs ++ List.drop xs.length (List.replicate L 0) := by
      rw [pw_zero, Int.emod_one, Int.zero_mul, Int.add_zero, show L = xs.length + (L - xs.length) by omega, digs_more hb]
      simp
    rw [e]; exact hown2
  case round =>
    obtain ⟨i, him, rfl, hown3, hbw3⟩ := hrel
    have hBr : Below w.heap.size w wr := hB.trans ((hbw2.trans hbw3).mono (by omega))
    have c0' : wr.cell? ⟨w.heap.size, 0, none⟩ = some (.slice a xs.length cap) := by rw [hbw3.cell (by simp)]; exact c0
    have c1' : wr.cell? ⟨w.heap.size, 1, none⟩ = some (.int .i64 n) := by rw [hbw3.cell (by simp)]; exact c1
    obtain ⟨r0, r1, r2, r3⟩ := (Box2.of d2).below hbw3 (by omega)
    clear c0 c1 d2 hown2 hbw hB
    by_cases hlt : i < M
    · obtain ⟨x, hx⟩ : ∃ x, X / pw i % 256 = x := ⟨_, rfl⟩
      obtain ⟨y, hy, hy0, hyp, hx0, hx1, hjL, hover, hsum, hnew⟩ := behind_round (val xs) n m X x L i d hn0 (by omega) hV0 hval hm hX0 hX hLb.1 (by omega) hx
      have hcell := hown3.cell (d + i) (by rw [digs_length]; exact hjL)
      rw [hy] at hcell
      have hfree := hown3.free (d + i)
      have hcall := hf.2 wr i hBr hlt
      have hent := hf.1
      rw [hx] at hcall
      have hs0 : 0 ≤ n % 8 := by omega
      have hs8 : n % 8 < 8 := by omega
      have hor := or_sum y x (n % 8) hy0 hyp hx0 hx1 hs0 hs8
      have hlo : 0 ≤ x * p2 (n % 8) % 256 := by omega
      unfold p2 at hor hover hlo
      have hdi : (d : Int) + i < 100000 := by omega
      have hq0 : (0 ≤ (d : Int) + i) = True := eq_true (by omega)
      have hq1 : ((d : Int) + i < (L : Int)) = True := eq_true (by omega)
      have hq2 : ((d : Int) + i).toNat = d + i := by omega
      have hdL : 0 ≤ x / 2 ^ (8 - n % 8).toNat := Int.ediv_nonneg hx0 (by have := two_pos (8 - n % 8).toNat; omega)
      have H := fun q => hid ((hown3.below (below_drewN (Below.refl _ _) q)).set (d + i) (y + x * p2 (n % 8) % 256))
      have HN := hid hnew
      by_cases hov : x / 2 ^ (8 - n % 8).toNat = 0
      · clear hnew hown3 hy hover hX hnm hval hok hlen hr hrr hf
        go_wp2_with (go_at_fn k; refine hcall.mono ?_; rintro e w' ⟨rfl, q, rfl⟩)
        clear hcall hent
        refine region_tail 9 (by kernel_rfl) (by kernel_rfl) (fun K hK => ?_)
        simp only [List.take_succ_cons, List.take_zero, List.drop_succ_cons, List.drop_zero] at hK ⊢
        iterate 9 still_step
        refine wpStill_nil ?_
        refine hK _ ?_
        clear hK K
        go_wp2
        go_roundw
        case rel =>
          have h2 := HN.out
          rw [if_pos (show x / p2 (8 - n % 8) = 0 from hov)] at h2
          exact ⟨i + 1, by omega, by go_num, by rw [h2]; exact (H (q + 1)).out.1, hbw3.trans ((below_drewN (Below.refl _ _) _).trans (H (q + 1)).out.2)⟩
        case measure => simp [intOf]; omega
      · have hj1 := hover hov
        have hr0 : (0 ≤ (d : Int) + i + 1) = True := eq_true (by omega)
        have hr1 : ((d : Int) + i + 1 < (L : Int)) = True := eq_true (by omega)
        have hr2 : ((d : Int) + i + 1).toNat = d + i + 1 := by omega
        have hdL : 0 < x / 2 ^ (8 - n % 8).toNat := by omega
        have H2 := fun q => hid (((hown3.below (below_drewN (Below.refl _ _) q)).set (d + i) (y + x * p2 (n % 8) % 256)).1.set (d + i + 1) (x / 2 ^ (8 - n % 8).toNat))
        have hcell2 := hown3.cell (d + i + 1) (by rw [digs_length]; exact hj1)
        have hfree2 := hown3.free (d + i + 1)
        obtain ⟨z, hz⟩ : ∃ z, (digs (val xs + X % pw i * p2 n) L).getD (d + i + 1) 0 = z := ⟨_, rfl⟩
        rw [hz] at hcell2
        clear hnew hown3 hy hover hX hnm hval hok hlen hr hrr hf hz
        go_wp2_with (go_at_fn k; refine hcall.mono ?_; rintro e w' ⟨rfl, q, rfl⟩)
        clear hcall hent
        refine region_tail 9 (by kernel_rfl) (by kernel_rfl) (fun K hK => ?_)
        simp only [List.take_succ_cons, List.take_zero, List.drop_succ_cons, List.drop_zero] at hK ⊢
        iterate 9 still_step
        refine wpStill_nil ?_
        refine hK _ ?_
        clear hK K
        go_wp2
        go_roundw
        case rel =>
          have h2 := HN.out
          rw [if_neg (show ¬ x / p2 (8 - n % 8) = 0 from hov)] at h2
          exact ⟨i + 1, by omega, by go_num, by rw [h2]; exact (H2 (q + 1)).out.1, hbw3.trans ((below_drewN (Below.refl _ _) _).trans ((H (q + 1)).out.2.trans (H2 (q + 1)).out.2))⟩
        case measure => simp [intOf]; omega
    · obtain rfl : i = M := by omega
      clear hf hMb
      go_wp2
      refine bodyPost_ret_by (v := .agg #[.slice (some ⟨w.heap.size + 2, 0, none⟩) L L, .int .i64 (n + m)]) (by
        simp only [results, show Try.f42.results = #[.cell 6 27] from rfl]
        go_simp) rfl ?_
      have e : X % pw i = X := Int.emod_eq_of_lt hX0 (by have := p2_sz hm; rw [hM] at this; omega)
      rw [e] at hown3
      have ho := (hown3.other (g := w.heap.size + 1) (i := 0) (u := .slice (some ⟨w.heap.size + 2, 0, none⟩) L L) (by simp [Value.ownBlock])).other (g := w.heap.size + 1) (i := 1) (u := .int .i64 (n + m)) (by simp [Value.ownBlock])
      have hrow := ho.rowLit (wf_byte (digs_byte _ _))
      have eb : bl (n + m) (val xs + X * p2 n) = digs (val xs + X * p2 n) L := by unfold bl; rw [hL]
      rw [eb]
      exact ⟨_, _, rfl, hrow, (hBr.setCell (by simp) _).setCell (by simp) _, by intro x hx; cases hx; simp⟩
end Go.Proofs.Ytmnhepcnbdbhoaa.Bt

namespace Go.Proofs.Ytmnhepcnbdbhoaa.Bt
open Go.RowKit Go.Proofs.Ytmnhepcnbdbhoaa.Kit Go.Proofs.Ytmnhepcnbdbhoaa.M01 Go.Proofs.Ytmnhepcnbdbhoaa.M02
set_option linter.unusedVariables false

set_option maxHeartbeats 4000000 in
theorem whole_any (a : Option Addr) (len cap : Nat) (xs : List Int) (w : World) (hr : RowIn .u8 w a len cap xs) (hl : len ≤ 41250) :
    Calls Try.prog 44 #[.slice a len cap] w fun e w' => ∃ a' cap', e = .returned (bv a' len cap' (8 * len)) ∧ RowIn .u8 w' a' len cap' xs ∧ Below w.heap.size w w' ∧ Fresh w a' := by
  obtain rfl := hr.hl
  obtain ⟨L, hL⟩ : ∃ L, xs.length = L := ⟨_, rfl⟩
  have hLL : xs.length ≤ L := by omega
  obtain ⟨i0, hi, hz0, hz1, hz2⟩ := info_parts info_u8
  unfold bv
  have hrr := hr.rd
  rw [hL] at hr hl ⊢
  go_enter Try.func44, Try.ntmps44
  go_wp2_with (first  | (at_make; (refine makeI rfl _ _ 25 rfl (w.heap.size + 1) 5 i0 1 .u8 Try.underlying25 hi hz0 hz1 hz2 _ L rfl rfl rfl (by omega) (by omega) (by simp) ?_; intro w1 hown hgr hbw hsz; simp only [World.size_alloc] at hown hgr hbw hsz ⊢;  have hB : Below w.heap.size w w1 := ((Below.refl _ _).alloc (Nat.le_refl _) _).trans (hbw.mono (by omega)); have hB1 := hrr.same hB; have hbox := (Box2.of (blk1 w _)).below hbw (by simp)))  | (((with_reducible refine copyI rfl _ _ 25 rfl 5 Try.underlying25 size_u8 .u8 (w.heap.size + 1) (w.heap.size + 1) L L _ hown a L cap xs hB1 hL (Nat.le_refl _) rfl rfl ?_); intro w2 hown2 hbw2;  obtain ⟨c0, c1, c2, c3⟩ := hbox.below hbw2 (by omega))))
  refine bodyPost_ret_by (v := .agg #[.slice (some ⟨w.heap.size + 1, 0, none⟩) L L, .int .i64 (8 * L)]) (by rw [results_cell1 rfl]; go_simp) rfl ?_
  have e : xs ++ List.drop L (List.replicate L 0) = xs := by simp
  rw [e] at hown2
  have hrow := hown2.rowLit (wf_byte (byte_of hrr))
  exact ⟨_, _, rfl, (hrow.set (by simp)).set (by simp), ((hB.trans (hbw2.mono (by omega))).setCell (by simp) _).setCell (by simp) _, by intro x hx; cases hx; simp⟩

set_option maxHeartbeats 4000000 in
theorem of_any (a : Option Addr) (len cap : Nat) (xs : List Int) (w : World) (hr : RowIn .u8 w a len cap xs) :
    Calls Try.prog 25 #[.slice a len cap] w fun e w' => ∃ a' cap', e = .returned (.tuple #[bv a' (ofL xs).length cap' (ofN xs), .int .i64 (ofE xs)]) ∧ RowIn .u8 w' a' (ofL xs).length cap' (ofL xs) ∧ Below w.heap.size w w' ∧ Fresh w a' := by
  have hl := hr.hl
  have hrr := hr.rd.len
  unfold ofL ofN ofE bv
  by_cases h : xs.length ≤ 41250
  · rw [if_pos h, if_pos h, if_pos h, hl]
    rw [hl] at h
    have hlt : (41250 < (len : Int)) = False := eq_false (by omega)
    have hr1 := hr.same ((Below.refl _ w).alloc (Nat.le_refl _) (.cells #[.slice none 0 0, .int .i64 0] 27))
    have hW := whole_any a len cap xs _ hr1 h
    unfold bv at hW
    go_enter Try.func25, Try.ntmps25
    go_wp2_with (go_at_call 44; refine hW.mono ?_; rintro e w' ⟨a', cap', rfl, hro, hbe, hfr⟩; obtain ⟨c0, c1, c2, c3⟩ := (Box2.of (blk1 w _)).below hbe (by simp))
    refine bodyPost_ret_by (v := .tuple #[.agg #[.slice a' len cap', .int .i64 (8 * len)], .int .i64 0]) (by rw [results_cell_tmp rfl]; go_simp) rfl ?_
    have hne := hfr.ne (g := w.heap.size) (by simp)
    exact ⟨_, _, rfl, (hro.set hne).set hne, (((((Below.refl _ _).alloc (Nat.le_refl _) _).trans (hbe.mono (by simp))).setCell (by simp) _).setCell (by simp) _), hfr.lift (by simp)⟩
  · rw [if_neg h, if_neg h, if_neg h]
    rw [hl] at h hrr
    have hlt : (41250 < (len : Int)) = True := eq_true (by omega)
    go_enter Try.func25, Try.ntmps25
    go_wp2
    refine bodyPost_ret_by (v := .tuple #[.agg #[.slice none 0 0, .int .i64 0], .int .i64 4]) (by rw [results_cell_tmp rfl]; go_simp) rfl ?_
    exact ⟨none, 0, rfl, RowIn.nil, (Below.refl _ _).alloc (Nat.le_refl _) _, Fresh.none⟩
end Go.Proofs.Ytmnhepcnbdbhoaa.Bt

namespace Go.Proofs.Ytmnhepcnbdbhoaa.Bt
open Go.RowKit Go.Proofs.Ytmnhepcnbdbhoaa.Kit Go.Proofs.Ytmnhepcnbdbhoaa.M01 Go.Proofs.Ytmnhepcnbdbhoaa.M02
set_option linter.unusedVariables false

/-- An int. -/
def isInt (n : Int) : Prop := -9223372036854775808 ≤ n ∧ n ≤ 9223372036854775807

theorem ok_len {xs : List Int} {n : Int} (h : okB xs n = true) : xs.length ≤ 41250 := by
  have := okB_iff.1 h; omega

end Go.Proofs.Ytmnhepcnbdbhoaa.Bt

namespace Go.Proofs.Ytmnhepcnbdbhoaa.Bt
open Go.RowKit Go.Proofs.Ytmnhepcnbdbhoaa.Kit Go.Proofs.Ytmnhepcnbdbhoaa.M01 Go.Proofs.Ytmnhepcnbdbhoaa.M02
set_option linter.unusedVariables false

theorem size1 (w : World) (A : Obj) : (w.alloc A).heap.size = w.heap.size + 1 := by simp
theorem size2 (w : World) (A B : Obj) : ((w.alloc A).alloc B).heap.size = w.heap.size + 2 := by simp
theorem size3 (w : World) (A B C : Obj) : (((w.alloc A).alloc B).alloc C).heap.size = w.heap.size + 3 := by simp

set_option maxHeartbeats 4000000 in
theorem put_any (a : Option Addr) (len cap : Nat) (xs : List Int) (n v m : Int) (w : World) (hr : RowIn .u8 w a len cap xs) (hn : isInt n) (hv0 : 0 ≤ v) (hv : v < 18446744073709551616) (hm : isInt m) :
    Calls Try.prog 77 #[bv a len cap n, .int .u64 v, .int .i64 m] w fun e w' => ∃ a' cap', e = .returned (.tuple #[bv a' (putL xs n v m).length cap' (putN xs n v m), .int .i64 (putE xs n v m)]) ∧ RowIn .u8 w' a' (putL xs n v m).length cap' (putL xs n v m) ∧ Below w.heap.size w w' ∧ Fresh w a' := by
  have hl := hr.hl
  have hC := fun w' hb => check_any a len cap xs n w' (hr.same hb) hn.1 hn.2
  by_cases hok : okB xs n = true
  · have e1 : chkE xs n = 0 := by simp [chkE, hok]
    obtain ⟨hn0, hn1, hxl, hval⟩ := okB_iff.1 hok
    rw [e1] at hC
    clear e1
    by_cases t1 : m < 0
    · have eE : putE xs n v m = 2 := by simp [putE, hok, t1]
      have eL : putL xs n v m = [] := by simp [putL, eE]
      have eN : putN xs n v m = 0 := by simp [putN, eE]
      rw [eE, eL, eN]
      clear eE eL eN hok
      unfold bv at hC ⊢
      have f1 : (m < 0) = True := eq_true t1
      go_enter Try.func77, Try.ntmps77
      go_wp2_with (go_at_call 34; refine (hC _ (below3 _ _ _ _)).mono ?_; rintro e w' ⟨rfl, hb1⟩; rw [size3] at hb1; obtain ⟨r0, r1, r2, r3⟩ := (Box2.of (blk3 w _ _ _)).below hb1 (by omega))
      refine bodyPost_ret_by (v := .tuple #[.agg #[.slice none 0 0, .int .i64 0], .int .i64 2]) (by rw [results_cell_tmp rfl]; go_simp) rfl ?_
      exact ⟨none, 0, rfl, RowIn.nil, (((below3 w _ _ _).trans (hb1.mono (by omega))).setCell (by dsimp only; omega) _).setCell (by dsimp only; omega) _, Fresh.none⟩
    by_cases t2 : 64 < m
    · have eE : putE xs n v m = 2 := by simp [putE, hok, t2]
      have eL : putL xs n v m = [] := by simp [putL, eE]
      have eN : putN xs n v m = 0 := by simp [putN, eE]
      rw [eE, eL, eN]
      clear eE eL eN hok
      unfold bv at hC ⊢
      have f1 : (m < 0) = False := eq_false t1
      have f2 : (64 < m) = True := eq_true t2
      go_enter Try.func77, Try.ntmps77
      go_wp2_with (go_at_call 34; refine (hC _ (below3 _ _ _ _)).mono ?_; rintro e w' ⟨rfl, hb1⟩; rw [size3] at hb1; obtain ⟨r0, r1, r2, r3⟩ := (Box2.of (blk3 w _ _ _)).below hb1 (by omega))
      refine bodyPost_ret_by (v := .tuple #[.agg #[.slice none 0 0, .int .i64 0], .int .i64 2]) (by rw [results_cell_tmp rfl]; go_simp) rfl ?_
      exact ⟨none, 0, rfl, RowIn.nil, (((below3 w _ _ _).trans (hb1.mono (by omega))).setCell (by dsimp only; omega) _).setCell (by dsimp only; omega) _, Fresh.none⟩
    have f1 : (m < 0) = False := eq_false t1
    have f2 : (64 < m) = False := eq_false t2
    have hmin : min m 64 = m := by omega
    have hLow := fun w' => lowest_any v m w' hv0 hv (by omega) (by omega)
    rw [hmin] at hLow
    have hpm := p2_pos m
    by_cases t3 : p2 m ≤ v
    · have eE : putE xs n v m = 16 := by simp [putE, hok, t1, t2, t3]
      have eL : putL xs n v m = [] := by simp [putL, eE]
      have eN : putN xs n v m = 0 := by simp [putN, eE]
      rw [eE, eL, eN]
      clear eE eL eN hok
      unfold bv at hC ⊢
      obtain ⟨y, hy⟩ : ∃ y, v % p2 m = y := ⟨_, rfl⟩
      have hne : (v != y) = true := bne_iff_ne.2 (by have := Int.emod_lt_of_pos v (show 0 < p2 m by omega); omega)
      rw [hy] at hLow
      clear hy hmin t3 hpm
      go_enter Try.func77, Try.ntmps77
      go_wp2_with (go_at_call 34; refine (hC _ (below3 _ _ _ _)).mono ?_; rintro e w' ⟨rfl, hb1⟩; rw [size3] at hb1; obtain ⟨r0, r1, r2, r3⟩ := (Box2.of (blk3 w _ _ _)).below hb1 (by omega); have cv := cell1 ((hb1.block (w.heap.size + 1) (by omega)).trans (blk3b w _ _ _)))
      go_quiet ((go_at_call 48; exact Calls.quiet_of_same ((hLow _).mono (fun _ _ q => ⟨q.1, q.2.symm⟩))))
      go_wp2
      refine bodyPost_ret_by (v := .tuple #[.agg #[.slice none 0 0, .int .i64 0], .int .i64 16]) (by rw [results_cell_tmp rfl]; go_simp) rfl ?_
      exact ⟨none, 0, rfl, RowIn.nil, ((below_drewN ((below3 w _ _ _).trans (hb1.mono (by omega))) _).setCell (by dsimp only; omega) _).setCell (by dsimp only; omega) _, Fresh.none⟩
    have hvm : v % p2 m = v := Int.emod_eq_of_lt hv0 (by omega)
    rw [hvm] at hLow
    by_cases t4 : 330000 < n + m
    · have eE : putE xs n v m = 18 := by simp [putE, hok, t1, t2, t3, t4]
      have eL : putL xs n v m = [] := by simp [putL, eE]
      have eN : putN xs n v m = 0 := by simp [putN, eE]
      rw [eE, eL, eN]
      clear eE eL eN hok hvm hmin t3 hpm
      unfold bv at hC ⊢
      have f4 : (330000 < n + m) = True := eq_true t4
      go_enter Try.func77, Try.ntmps77
      go_wp2_with (go_at_call 34; refine (hC _ (below3 _ _ _ _)).mono ?_; rintro e w' ⟨rfl, hb1⟩; rw [size3] at hb1; obtain ⟨c0, c1, c2, c3⟩ := (Box2.of (blk3a w _ _ _)).below hb1 (by omega); obtain ⟨r0, r1, r2, r3⟩ := (Box2.of (blk3 w _ _ _)).below hb1 (by omega); have cv := cell1 ((hb1.block (w.heap.size + 1) (by omega)).trans (blk3b w _ _ _)))
      go_quiet ((go_at_call 48; exact Calls.quiet_of_same ((hLow _).mono (fun _ _ q => ⟨q.1, q.2.symm⟩))))
      go_wp2
      refine bodyPost_ret_by (v := .tuple #[.agg #[.slice none 0 0, .int .i64 0], .int .i64 18]) (by rw [results_cell_tmp rfl]; go_simp) rfl ?_
      exact ⟨none, 0, rfl, RowIn.nil, ((below_drewN ((below3 w _ _ _).trans (hb1.mono (by omega))) _).setCell (by dsimp only; omega) _).setCell (by dsimp only; omega) _, Fresh.none⟩
    · have eE : putE xs n v m = 0 := by simp [putE, hok, t1, t2, t3, t4]
      have eL : putL xs n v m = bl (n + m) (val xs + v * p2 n) := by simp [putL, eE]
      have eN : putN xs n v m = n + m := by simp [putN, eE]
      rw [eE, eL, eN, bl_length]
      have f4 : (330000 < n + m) = False := eq_false t4
      have hBeh := fun w' b hb (hcell : w'.cell? ⟨b, 0, none⟩ = some (.int .u64 v)) => behind_any a len cap xs n m 80 #[.pointer (some ⟨b, 0, none⟩)] v w' (hr.same hb) hok (by omega) hv0 (by omega) (by omega) (put1_gives hcell hv0 hv (sz m) (by unfold sz; omega))
      obtain ⟨R, hR⟩ : ∃ R, bl (n + m) (val xs + v * p2 n) = R := ⟨_, rfl⟩
      obtain ⟨K, hK⟩ : ∃ K, sz (n + m) = K := ⟨_, rfl⟩
      rw [hR, hK]
      simp only [hR, hK] at hBeh
      clear eE eL eN hok hvm hmin t3 hpm hR hK
      unfold bv at hC hBeh ⊢
      go_enter Try.func77, Try.ntmps77
      go_wp2_with (first  | (go_at_call 34; refine (hC _ (below3 _ _ _ _)).mono ?_; rintro e w' ⟨rfl, hb1⟩; rw [size3] at hb1; have hB1 := (below3 w _ _ _).trans (hb1.mono (by omega)); obtain ⟨c0, c1, c2, c3⟩ := (Box2.of (blk3a w _ _ _)).below hb1 (by omega); have B2 := (Box2.of (blk3 w _ _ _)).below hb1 (by omega); have hsz := hb1.size; rw [size3] at hsz; have cv := cell1 ((hb1.block (w.heap.size + 1) (by omega)).trans (blk3b w _ _ _)))  | (go_at_call 42; refine (hBeh _ _ (below_drewN hB1 _) cv).mono ?_; rintro e w'' ⟨a', cap', rfl, hro, hbe, hfr⟩; obtain ⟨r0, r1, r2, r3⟩ := (B2.below (below_drewN (Below.refl _ _) _) (Nat.lt_of_lt_of_le (by omega) hsz)).below hbe (Nat.lt_of_lt_of_le (by omega) hsz)))
      go_quiet ((go_at_call 48; exact Calls.quiet_of_same ((hLow _).mono (fun _ _ q => ⟨q.1, q.2.symm⟩))))
      go_wp2_with (go_at_call 42; refine (hBeh _ _ (below_drewN hB1 _) cv).mono ?_; rintro e w'' ⟨a', cap', rfl, hro, hbe, hfr⟩; obtain ⟨r0, r1, r2, r3⟩ := (B2.below (below_drewN (Below.refl _ _) _) (Nat.lt_of_lt_of_le (by omega) hsz)).below hbe (Nat.lt_of_lt_of_le (by omega) hsz))
      refine bodyPost_ret_by (v := .tuple #[.agg #[.slice a' K cap', .int .i64 (n + m)], .int .i64 0]) (by rw [results_cell_tmp rfl]; go_simp) rfl ?_
      have hne := hfr.ne (g := w.heap.size + 2) (Nat.lt_of_lt_of_le (by omega) hsz)
      exact ⟨_, _, rfl, (hro.set hne).set hne, (((below_drewN hB1 _).trans (hbe.mono hB1.size)).setCell (by dsimp only; omega) _).setCell (by dsimp only; omega) _, hfr.lift hB1.size⟩
  · have e1 : chkE xs n = 8 := by simp [chkE, hok]
    have eE : putE xs n v m = 8 := by simp [putE, hok]
    have eL : putL xs n v m = [] := by simp [putL, eE]
    have eN : putN xs n v m = 0 := by simp [putN, eE]
    rw [e1] at hC
    rw [eE, eL, eN]
    unfold bv at hC ⊢
    clear e1 eE eL eN hok
    go_enter Try.func77, Try.ntmps77
    go_wp2_with (go_at_call 34; refine (hC _ (below3 _ _ _ _)).mono ?_; rintro e w' ⟨rfl, hb1⟩; rw [size3] at hb1; obtain ⟨r0, r1, r2, r3⟩ := (Box2.of (blk3 w _ _ _)).below hb1 (by omega))
    refine bodyPost_ret_by (v := .tuple #[.agg #[.slice none 0 0, .int .i64 0], .int .i64 8]) (by rw [results_cell_tmp rfl]; go_simp) rfl ?_
    exact ⟨none, 0, rfl, RowIn.nil, (((below3 w _ _ _).trans (hb1.mono (by omega))).setCell (by dsimp only; omega) _).setCell (by dsimp only; omega) _, Fresh.none⟩

set_option maxHeartbeats 4000000 in
theorem join_any (a : Option Addr) (len cap : Nat) (xs : List Int) (n : Int) (b : Option Addr) (blen bcap : Nat) (ys : List Int) (m : Int) (w : World) (hr : RowIn .u8 w a len cap xs) (hn : isInt n) (hrb : RowIn .u8 w b blen bcap ys) (hm : isInt m) :
    Calls Try.prog 24 #[bv a len cap n, bv b blen bcap m] w fun e w' => ∃ a' cap', e = .returned (.tuple #[bv a' (joL xs n ys m).length cap' (joN xs n ys m), .int .i64 (joE xs n ys m)]) ∧ RowIn .u8 w' a' (joL xs n ys m).length cap' (joL xs n ys m) ∧ Below w.heap.size w w' ∧ Fresh w a' := by
  have hC := fun w' hb => check_any a len cap xs n w' (hr.same hb) hn.1 hn.2
  have hC2 := fun w' hb => check_any b blen bcap ys m w' (hrb.same hb) hm.1 hm.2
  by_cases hok : okB xs n = true
  · have e1 : chkE xs n = 0 := by simp [chkE, hok]
    rw [e1] at hC
    clear e1
    by_cases hok2 : okB ys m = true
    · have e1 : chkE ys m = 0 := by simp [chkE, hok2]
      rw [e1] at hC2
      clear e1
      obtain ⟨hn0, hn1, hxl, hval⟩ := okB_iff.1 hok
      obtain ⟨hm0, hm1, hyl, hval2⟩ := okB_iff.1 hok2
      have hv0 := val_nonneg (byte_of hrb.rd)
      by_cases t4 : 330000 < n + m
      · have eE : joE xs n ys m = 18 := by simp [joE, hok, hok2, t4]
        have eL : joL xs n ys m = [] := by simp [joL, eE]
        have eN : joN xs n ys m = 0 := by simp [joN, eE]
        rw [eE, eL, eN]
        clear eE eL eN hok hok2 hxl hyl hval hval2 hv0
        unfold bv at hC hC2 ⊢
        have f4 : (330000 < n + m) = True := eq_true t4
        go_enter Try.func24, Try.ntmps24
        go_wp2_with (first | ((with_reducible refine (hC _ (below3 _ _ _ _)).mono ?_); rintro e w1 ⟨rfl, hb1⟩; rw [size3] at hb1; have hB1 := (below3 w _ _ _).trans (hb1.mono (by omega)); have hsz := hb1.size; rw [size3] at hsz; have B0 := (Box2.of (blk3a w _ _ _)).below hb1 (by omega); have B1 := (Box2.of (blk3b w _ _ _)).below hb1 (by omega); have B2 := (Box2.of (blk3 w _ _ _)).below hb1 (by omega); obtain ⟨d0, d1, d2, d3⟩ := B1; obtain ⟨r0, r1, r2, r3⟩ := B2) | ((with_reducible refine (hC2 _ hB1).mono ?_); rintro e w2 ⟨rfl, hb2⟩; have hB2 := hB1.trans (hb2.mono hB1.size); have hsz2 := Nat.le_trans hsz hb2.size; obtain ⟨c0, c1, c2, c3⟩ := B0.below hb2 (by omega); have D1 := (Box2.mk d0 d1 d2 d3).below hb2 (by omega); have E2 := (Box2.mk r0 r1 r2 r3).below hb2 (by omega); clear d0 d1 d2 d3 r0 r1 r2 r3; obtain ⟨d0, d1, d2, d3⟩ := D1; obtain ⟨r0, r1, r2, r3⟩ := E2))
        refine bodyPost_ret_by (v := .tuple #[.agg #[.slice none 0 0, .int .i64 0], .int .i64 18]) (by rw [results_cell_tmp rfl]; go_simp) rfl ?_
        exact ⟨none, 0, rfl, RowIn.nil, (hB2.setCell (by dsimp only; omega) _).setCell (by dsimp only; omega) _, Fresh.none⟩
      · have eE : joE xs n ys m = 0 := by simp [joE, hok, hok2, t4]
        have eL : joL xs n ys m = bl (n + m) (val xs + val ys * p2 n) := by simp [joL, eE]
        have eN : joN xs n ys m = n + m := by simp [joN, eE]
        rw [eE, eL, eN, bl_length]
        have f4 : (330000 < n + m) = False := eq_false t4
        have hbl := hrb.hl
        have hszm : sz m ≤ blen := by have := sz_nat hm0; omega
        have hBeh := fun w' g hb (h1 : w'.cell? ⟨g, 0, none⟩ = some (.slice b blen bcap)) (h2 : w'.cell? ⟨g, 1, none⟩ = some (.int .i64 m)) => behind_any a len cap xs n m 43 #[.pointer (some ⟨g, 0, none⟩)] (val ys) w' (hr.same hb) hok (by omega) hv0 hval2 (by omega) ⟨(join1_gives h1 h2 (hrb.same hb)).1, fun w2 i h3 h4 => (join1_gives h1 h2 (hrb.same hb)).2 w2 i h3 (by omega)⟩
        obtain ⟨R, hR⟩ : ∃ R, bl (n + m) (val xs + val ys * p2 n) = R := ⟨_, rfl⟩
        obtain ⟨K, hK⟩ : ∃ K, sz (n + m) = K := ⟨_, rfl⟩
        rw [hR, hK]
        simp only [hR, hK] at hBeh
        clear eE eL eN hok hok2 hxl hyl hval hval2 hv0 hR hK hszm hbl
        unfold bv at hC hC2 hBeh ⊢
        go_enter Try.func24, Try.ntmps24
        go_wp2_with (first | ((with_reducible refine (hC _ (below3 _ _ _ _)).mono ?_); rintro e w1 ⟨rfl, hb1⟩; rw [size3] at hb1; have hB1 := (below3 w _ _ _).trans (hb1.mono (by omega)); have hsz := hb1.size; rw [size3] at hsz; have B0 := (Box2.of (blk3a w _ _ _)).below hb1 (by omega); have B1 := (Box2.of (blk3b w _ _ _)).below hb1 (by omega); have B2 := (Box2.of (blk3 w _ _ _)).below hb1 (by omega); obtain ⟨d0, d1, d2, d3⟩ := B1; obtain ⟨r0, r1, r2, r3⟩ := B2) | ((with_reducible refine (hC2 _ hB1).mono ?_); rintro e w2 ⟨rfl, hb2⟩; have hB2 := hB1.trans (hb2.mono hB1.size); have hsz2 := Nat.le_trans hsz hb2.size; obtain ⟨c0, c1, c2, c3⟩ := B0.below hb2 (by omega); have D1 := (Box2.mk d0 d1 d2 d3).below hb2 (by omega); have E2 := (Box2.mk r0 r1 r2 r3).below hb2 (by omega); clear d0 d1 d2 d3 r0 r1 r2 r3; obtain ⟨d0, d1, d2, d3⟩ := D1; obtain ⟨r0, r1, r2, r3⟩ := E2) | (go_at_call 42; refine (hBeh _ _ hB2 d0 d1).mono ?_; rintro e w3 ⟨a', cap', rfl, hro, hbe, hfr⟩; obtain ⟨s0, s1, s2, s3⟩ := (Box2.mk r0 r1 r2 r3).below hbe (by omega)))
        refine bodyPost_ret_by (v := .tuple #[.agg #[.slice a' K cap', .int .i64 (n + m)], .int .i64 0]) (by rw [results_cell_tmp rfl]; go_simp) rfl ?_
        have hne := hfr.ne (g := w.heap.size + 2) (by omega)
        exact ⟨_, _, rfl, (hro.set hne).set hne, ((hB2.trans (hbe.mono hB2.size)).setCell (by dsimp only; omega) _).setCell (by dsimp only; omega) _, hfr.lift hB2.size⟩
    · have e1 : chkE ys m = 8 := by simp [chkE, hok2]
      have eE : joE xs n ys m = 8 := by simp [joE, hok, hok2]
      have eL : joL xs n ys m = [] := by simp [joL, eE]
      have eN : joN xs n ys m = 0 := by simp [joN, eE]
      rw [e1] at hC2
      rw [eE, eL, eN]
      clear e1 eE eL eN hok hok2
      unfold bv at hC hC2 ⊢
      go_enter Try.func24, Try.ntmps24
      go_wp2_with (first | ((with_reducible refine (hC _ (below3 _ _ _ _)).mono ?_); rintro e w1 ⟨rfl, hb1⟩; rw [size3] at hb1; have hB1 := (below3 w _ _ _).trans (hb1.mono (by omega)); have hsz := hb1.size; rw [size3] at hsz; have B0 := (Box2.of (blk3a w _ _ _)).below hb1 (by omega); have B1 := (Box2.of (blk3b w _ _ _)).below hb1 (by omega); have B2 := (Box2.of (blk3 w _ _ _)).below hb1 (by omega); obtain ⟨d0, d1, d2, d3⟩ := B1; obtain ⟨r0, r1, r2, r3⟩ := B2) | ((with_reducible refine (hC2 _ hB1).mono ?_); rintro e w2 ⟨rfl, hb2⟩; have hB2 := hB1.trans (hb2.mono hB1.size); have hsz2 := Nat.le_trans hsz hb2.size; obtain ⟨c0, c1, c2, c3⟩ := B0.below hb2 (by omega); have D1 := (Box2.mk d0 d1 d2 d3).below hb2 (by omega); have E2 := (Box2.mk r0 r1 r2 r3).below hb2 (by omega); clear d0 d1 d2 d3 r0 r1 r2 r3; obtain ⟨d0, d1, d2, d3⟩ := D1; obtain ⟨r0, r1, r2, r3⟩ := E2))
      refine bodyPost_ret_by (v := .tuple #[.agg #[.slice none 0 0, .int .i64 0], .int .i64 8]) (by rw [results_cell_tmp rfl]; go_simp) rfl ?_
      exact ⟨none, 0, rfl, RowIn.nil, (hB2.setCell (by dsimp only; omega) _).setCell (by dsimp only; omega) _, Fresh.none⟩
  · have e1 : chkE xs n = 8 := by simp [chkE, hok]
    have eE : joE xs n ys m = 8 := by simp [joE, hok]
    have eL : joL xs n ys m = [] := by simp [joL, eE]
    have eN : joN xs n ys m = 0 := by simp [joN, eE]
    rw [e1] at hC
    rw [eE, eL, eN]
    clear e1 eE eL eN hok
    unfold bv at hC hC2 ⊢
    go_enter Try.func24, Try.ntmps24
    go_wp2_with (first | ((with_reducible refine (hC _ (below3 _ _ _ _)).mono ?_); rintro e w1 ⟨rfl, hb1⟩; rw [size3] at hb1; have hB1 := (below3 w _ _ _).trans (hb1.mono (by omega)); have hsz := hb1.size; rw [size3] at hsz; have B0 := (Box2.of (blk3a w _ _ _)).below hb1 (by omega); have B1 := (Box2.of (blk3b w _ _ _)).below hb1 (by omega); have B2 := (Box2.of (blk3 w _ _ _)).below hb1 (by omega); obtain ⟨d0, d1, d2, d3⟩ := B1; obtain ⟨r0, r1, r2, r3⟩ := B2))
    refine bodyPost_ret_by (v := .tuple #[.agg #[.slice none 0 0, .int .i64 0], .int .i64 8]) (by rw [results_cell_tmp rfl]; go_simp) rfl ?_
    exact ⟨none, 0, rfl, RowIn.nil, (hB1.setCell (by dsimp only; omega) _).setCell (by dsimp only; omega) _, Fresh.none⟩
end Go.Proofs.Ytmnhepcnbdbhoaa.Bt

namespace Go.Proofs.Ytmnhepcnbdbhoaa.Bt
open Go.Proofs Go.RowKit Go.Proofs.Ytmnhepcnbdbhoaa.Kit Go.Proofs.Ytmnhepcnbdbhoaa.M01 Go.Proofs.Ytmnhepcnbdbhoaa.M02
set_option linter.unusedVariables false

set_option maxHeartbeats 4000000 in
theorem cut1_any (g h g1 g2 : Nat) (xs : List Int) (f n : Int) (i : Nat) (w : World) (c0 : w.cell? ⟨g, 0, none⟩ = some (eightV g1 g2)) (c1 : w.cell? ⟨h, 0, none⟩ = some (.int .i64 n)) (he : EightAt w g1 g2 xs f)
    (hb : isByte xs) (h0 : 0 ≤ f) (hl : xs.length ≤ 50000) (hj : (f / 8).toNat + i < xs.length) (hi : 8 * (i : Int) < n) (hn : n ≤ 330000) :
    Calls Try.prog 47 #[.int .i64 i, .pointer (some ⟨g, 0, none⟩), .pointer (some ⟨h, 0, none⟩)] w fun e w' => e = .returned (.int .u8 (val xs / p2 f % p2 n / pw i % 256)) ∧ ∃ k, w' = w.drewN k := by
  rw [cut_byte _ n i hi]
  have hE := fun w' hb' => eight_any g1 g2 xs f i w' (he.same hb') hb h0 hl hj
  have hx : 0 ≤ val xs / p2 f / pw i % 256 ∧ val xs / p2 f / pw i % 256 < 256 := by omega
  obtain ⟨x, ex⟩ : ∃ x, val xs / p2 f / pw i % 256 = x := ⟨_, rfl⟩
  rw [ex] at hx ⊢
  simp only [ex] at hE
  have hL := fun w' => lowest_any x (n - 8 * i) w' hx.1 (by omega) (by omega) (by omega)
  have hz : 0 ≤ x % p2 (min (n - 8 * i) 64) ∧ x % p2 (min (n - 8 * i) 64) < 256 := by
    have := p2_pos (min (n - 8 * i) 64)
    have := Int.emod_nonneg x (show p2 (min (n - 8 * i) 64) ≠ 0 by omega)
    have h2 := Int.emod_add_mul_ediv x (p2 (min (n - 8 * i) 64))
    have h3 : 0 ≤ p2 (min (n - 8 * i) 64) * (x / p2 (min (n - 8 * i) 64)) := Int.mul_nonneg (by omega) (Int.ediv_nonneg hx.1 (by omega))
    omega
  obtain ⟨z, ez⟩ : ∃ z, x % p2 (min (n - 8 * i) 64) = z := ⟨_, rfl⟩
  rw [ez] at hz ⊢
  simp only [ez] at hL
  have hent : ∀ (args : Array Value) (w : World), (callFunc 65 args).run Try.prog w = .ok (.enter 65 args) w := enters_of Try.func65 (by kernel_rfl) rfl
  unfold eightV at c0
  clear ez ex hb he hl hj
  go_enter Try.func47, Try.ntmps47
  go_wp2
  go_quiet (first | (go_at_call 65; exact Calls.quiet_of (hE _ (below_drewN (Below.refl _ _) _))) | (go_at_call 48; exact Calls.quiet_of_same ((hL _).mono (fun _ _ q => ⟨q.1, q.2.symm⟩))))
  go_wp2
  go_ret
  exact ⟨rfl, nq, rfl⟩

theorem cut1_gives {w : World} {g h g1 g2 : Nat} {xs : List Int} {f n : Int} (c0 : w.cell? ⟨g, 0, none⟩ = some (eightV g1 g2)) (c1 : w.cell? ⟨h, 0, none⟩ = some (.int .i64 n)) (he : EightAt w g1 g2 xs f)
    (hb : isByte xs) (h0 : 0 ≤ f) (hl : xs.length ≤ 50000) (hn0 : 0 ≤ n) (hn : n ≤ 330000) (hm : (f / 8).toNat + sz n ≤ xs.length) :
    Gives w 47 #[.pointer (some ⟨g, 0, none⟩), .pointer (some ⟨h, 0, none⟩)] (val xs / p2 f % p2 n) (sz n) :=
  ⟨enters_of Try.func47 (by kernel_rfl) rfl, fun w' i hw hi => cut1_any g h g1 g2 xs f n i w' (by rw [hw.cell (World.block_lt_of_cell? w _ c0)]; exact c0) (by rw [hw.cell (World.block_lt_of_cell? w _ c1)]; exact c1) (he.same hw) hb h0 hl (by omega) (by have := sz_nat hn0; omega) hn⟩

theorem ok_nil : okB [] 0 = true := by decide +kernel

set_option maxHeartbeats 4000000 in
theorem cut_any (a : Option Addr) (len cap : Nat) (xs : List Int) (n f t : Int) (w : World) (hr : RowIn .u8 w a len cap xs) (hn : isInt n) (hf : isInt f) (ht : isInt t) :
    Calls Try.prog 31 #[bv a len cap n, .int .i64 f, .int .i64 t] w fun e w' => ∃ a' cap', e = .returned (.tuple #[bv a' (cuL xs n f t).length cap' (cuN xs n f t), .int .i64 (cuE xs n f t)]) ∧ RowIn .u8 w' a' (cuL xs n f t).length cap' (cuL xs n f t) ∧ Below w.heap.size w w' ∧ Fresh w a' := by
  have hl := hr.hl
  have hb := byte_of hr.rd
  have hC := fun w' hb => check_any a len cap xs n w' (hr.same hb) hn.1 hn.2
  obtain ⟨hf1, hf2⟩ := hf
  obtain ⟨ht1, ht2⟩ := ht
  by_cases hok : okB xs n = true
  · have e1 : chkE xs n = 0 := by simp [chkE, hok]
    obtain ⟨hn0, hn1, hxl, hval⟩ := okB_iff.1 hok
    rw [e1] at hC
    clear e1
    by_cases t1 : f < 0
    · have f1 : (f < 0) = True := eq_true t1
      have eE : cuE xs n f t = 2 := by simp [cuE, hok, t1]
      have eL : cuL xs n f t = [] := by simp [cuL, eE]
      have eN : cuN xs n f t = 0 := by simp [cuN, eE]
      rw [eE, eL, eN]
      clear eE eL eN
      unfold bv at hC ⊢
      go_enter Try.func31, Try.ntmps31
      go_wp2_with (go_at_call 34; refine (hC _ (below2 _ _ _)).mono ?_; rintro e w1 ⟨rfl, hb1⟩; rw [size2] at hb1; have hB1 := (below2 w _ _).trans (hb1.mono (by omega)); have hsz := hb1.size; rw [size2] at hsz; have hs0 : w.heap.size < w1.heap.size := (by omega); obtain ⟨c0, c1, c2, c3⟩ := (Box2.of (blk2a w _ _)).below hb1 (by omega); obtain ⟨r0, r1, r2, r3⟩ := (Box2.of (blk2 w _ _)).below hb1 (by omega))
      refine bodyPost_ret_by (v := .tuple #[.agg #[.slice none 0 0, .int .i64 0], .int .i64 2]) (by rw [results_cell_tmp rfl]; go_simp) rfl ?_
      exact ⟨none, 0, rfl, RowIn.nil, (hB1.setCell (by dsimp only; omega) _).setCell (by dsimp only; omega) _, Fresh.none⟩
    by_cases t2 : n < t
    · have f1 : (f < 0) = False := eq_false t1
      have f2 : (n < t) = True := eq_true t2
      have eE : cuE xs n f t = 2 := by simp [cuE, hok, t2]
      have eL : cuL xs n f t = [] := by simp [cuL, eE]
      have eN : cuN xs n f t = 0 := by simp [cuN, eE]
      rw [eE, eL, eN]
      clear eE eL eN
      unfold bv at hC ⊢
      go_enter Try.func31, Try.ntmps31
      go_wp2_with (go_at_call 34; refine (hC _ (below2 _ _ _)).mono ?_; rintro e w1 ⟨rfl, hb1⟩; rw [size2] at hb1; have hB1 := (below2 w _ _).trans (hb1.mono (by omega)); have hsz := hb1.size; rw [size2] at hsz; have hs0 : w.heap.size < w1.heap.size := (by omega); obtain ⟨c0, c1, c2, c3⟩ := (Box2.of (blk2a w _ _)).below hb1 (by omega); obtain ⟨r0, r1, r2, r3⟩ := (Box2.of (blk2 w _ _)).below hb1 (by omega))
      refine bodyPost_ret_by (v := .tuple #[.agg #[.slice none 0 0, .int .i64 0], .int .i64 2]) (by rw [results_cell_tmp rfl]; go_simp) rfl ?_
      exact ⟨none, 0, rfl, RowIn.nil, (hB1.setCell (by dsimp only; omega) _).setCell (by dsimp only; omega) _, Fresh.none⟩
    by_cases t3 : t < f
    · have f1 : (f < 0) = False := eq_false t1
      have f2 : (n < t) = False := eq_false t2
      have f3 : (t < f) = True := eq_true t3
      have eE : cuE xs n f t = 2 := by simp [cuE, hok, t3]
      have eL : cuL xs n f t = [] := by simp [cuL, eE]
      have eN : cuN xs n f t = 0 := by simp [cuN, eE]
      rw [eE, eL, eN]
      clear eE eL eN
      unfold bv at hC ⊢
      go_enter Try.func31, Try.ntmps31
      go_wp2_with (go_at_call 34; refine (hC _ (below2 _ _ _)).mono ?_; rintro e w1 ⟨rfl, hb1⟩; rw [size2] at hb1; have hB1 := (below2 w _ _).trans (hb1.mono (by omega)); have hsz := hb1.size; rw [size2] at hsz; have hs0 : w.heap.size < w1.heap.size := (by omega); obtain ⟨c0, c1, c2, c3⟩ := (Box2.of (blk2a w _ _)).below hb1 (by omega); obtain ⟨r0, r1, r2, r3⟩ := (Box2.of (blk2 w _ _)).below hb1 (by omega))
      refine bodyPost_ret_by (v := .tuple #[.agg #[.slice none 0 0, .int .i64 0], .int .i64 2]) (by rw [results_cell_tmp rfl]; go_simp) rfl ?_
      exact ⟨none, 0, rfl, RowIn.nil, (hB1.setCell (by dsimp only; omega) _).setCell (by dsimp only; omega) _, Fresh.none⟩
    have f1 : (f < 0) = False := eq_false t1
    have f2 : (n < t) = False := eq_false t2
    have f3 : (t < f) = False := eq_false t3
    have hsn := sz_nat hn0
    have hst := sz_nat (show 0 ≤ t - f by omega)
    have eE : cuE xs n f t = 0 := by simp [cuE, hok, t1, t2, t3]
    have eL : cuL xs n f t = bl (t - f) (val xs / p2 f % p2 (t - f)) := by simp [cuL, eE]
    have eN : cuN xs n f t = t - f := by simp [cuN, eE]
    rw [eE, eL, eN, bl_length]
    have hpf := p2_pos (t - f)
    have hE := fun w' hb' => eights_any a len cap xs f w' (hr.same hb') (by omega) (by omega) (by omega)
    have hBeh := fun w' g h g1 g2 c0 c1 he => behind_any none 0 0 [] 0 (t - f) 47 #[.pointer (some ⟨g, 0, none⟩), .pointer (some ⟨h, 0, none⟩)] (val xs / p2 f % p2 (t - f)) w' RowIn.nil ok_nil (by omega) (Int.emod_nonneg _ (by omega)) (Int.emod_lt_of_pos _ (by omega)) (by omega) (cut1_gives (g := g) (h := h) (g1 := g1) (g2 := g2) c0 c1 he hb (by omega) (by omega) (by omega) (by omega) (by omega))
    simp only [Int.zero_add, val, p2_zero, Int.mul_one] at hBeh
    obtain ⟨R, hR⟩ : ∃ R, bl (t - f) (val xs / p2 f % p2 (t - f)) = R := ⟨_, rfl⟩
    obtain ⟨K, hK⟩ : ∃ K, sz (t - f) = K := ⟨_, rfl⟩
    rw [hR, hK]
    simp only [hR, hK] at hBeh
    clear eE eL eN hok hxl hval hpf hsn hst hR hK
    unfold bv at hC hBeh ⊢
    go_enter Try.func31, Try.ntmps31
    go_wp2_with (first | (go_at_call 34; refine (hC _ (below2 _ _ _)).mono ?_; rintro e w1 ⟨rfl, hb1⟩; rw [size2] at hb1; have hB1 := (below2 w _ _).trans (hb1.mono (by omega)); have hsz := hb1.size; rw [size2] at hsz; have hs0 : w.heap.size < w1.heap.size := (by omega); obtain ⟨c0, c1, c2, c3⟩ := (Box2.of (blk2a w _ _)).below hb1 (by omega); obtain ⟨r0, r1, r2, r3⟩ := (Box2.of (blk2 w _ _)).below hb1 (by omega)) |  (go_at_call 46; (refine (hE _ (hB1.trans ((below1 w1 _).mono hB1.size))).mono ?_; rintro e w2 ⟨g1, g2, rfl, hea, hb2⟩; rw [size1] at hb2; have hB2 := hB1.trans (((below1 w1 _).trans (hb2.mono (by omega))).mono hB1.size); have cn := cell1 ((hb2.block w1.heap.size (by omega)).trans (blk1 w1 _)); have hsz2 := hb2.size; rw [size1] at hsz2; have hs2 : w1.heap.size < w2.heap.size := (by omega); unfold eightV)) |  (go_at_call 42; (refine (hBeh _ w2.heap.size w1.heap.size g1 g2 (cell1 (blk1 w2 _)) (by rw [World.cell?_alloc_past _ _ _ (by omega)]; exact cn) (hea.same (below1 w2 _))).mono ?_; rintro e w3 ⟨a', cap', rfl, hro, hbe, hfr⟩; rw [size1] at hbe; obtain ⟨s0, s1, s2, s3⟩ := (((Box2.mk r0 r1 r2 r3).below ((below1 w1 _).trans (hb2.mono (by omega))) (by omega)).below (below1 w2 _) (by omega)).below hbe (by omega))))
    refine bodyPost_ret_by (v := .tuple #[.agg #[.slice a' K cap', .int .i64 (t - f)], .int .i64 0]) (by rw [results_cell_tmp rfl]; go_simp) rfl ?_
    have hB3 : Below w.heap.size w w3 := (hB2.trans ((below1 w2 _).mono (by omega))).trans (hbe.mono (by omega))
    have hne := hfr.ne (g := w.heap.size + 1) (by rw [size1]; omega)
    exact ⟨_, _, rfl, (hro.set hne).set hne, (hB3.setCell (by dsimp only; omega) _).setCell (by dsimp only; omega) _, hfr.lift (by rw [size1]; omega)⟩
  · have e1 : chkE xs n = 8 := by simp [chkE, hok]
    rw [e1] at hC
    clear e1
    have eE : cuE xs n f t = 8 := by simp [cuE, hok]
    have eL : cuL xs n f t = [] := by simp [cuL, eE]
    have eN : cuN xs n f t = 0 := by simp [cuN, eE]
    rw [eE, eL, eN]
    clear eE eL eN
    unfold bv at hC ⊢
    go_enter Try.func31, Try.ntmps31
    go_wp2_with (go_at_call 34; refine (hC _ (below2 _ _ _)).mono ?_; rintro e w1 ⟨rfl, hb1⟩; rw [size2] at hb1; have hB1 := (below2 w _ _).trans (hb1.mono (by omega)); have hsz := hb1.size; rw [size2] at hsz; have hs0 : w.heap.size < w1.heap.size := (by omega); obtain ⟨c0, c1, c2, c3⟩ := (Box2.of (blk2a w _ _)).below hb1 (by omega); obtain ⟨r0, r1, r2, r3⟩ := (Box2.of (blk2 w _ _)).below hb1 (by omega))
    refine bodyPost_ret_by (v := .tuple #[.agg #[.slice none 0 0, .int .i64 0], .int .i64 8]) (by rw [results_cell_tmp rfl]; go_simp) rfl ?_
    exact ⟨none, 0, rfl, RowIn.nil, (hB1.setCell (by dsimp only; omega) _).setCell (by dsimp only; omega) _, Fresh.none⟩

theorem or_acc (Y x : Int) (i : Nat) (hi : i < 8) (hx0 : 0 ≤ x) (hx : x < 256) :
    bits .or .u64 (Y % pw i) (x * pw i) = Y % pw i + x * pw i ∧ Y % pw i + x * pw i < 18446744073709551616 ∧ 0 ≤ x * pw i ∧ x * pw i < 18446744073709551616 := by
  have e : bits .or .u64 (Y % pw i) (x * pw i) = bits .or .u64 (x * pw i) (Y % pw i) := by simp only [bits, BitVec.or_comm]
  obtain ⟨h0, h1⟩ := mod_pw_lt Y i
  have hp := pw_pos i
  have h8 : pw (i + 1) ≤ 18446744073709551616 := pw_bd (by omega)
  rw [pw_succ] at h8
  have h2 : (x + 1) * pw i ≤ 256 * pw i := Int.mul_le_mul_of_nonneg_right (by omega) (by omega)
  rw [Int.add_mul, Int.one_mul] at h2
  have h3 : 0 ≤ x * pw i := Int.mul_nonneg hx0 (by omega)
  have e64 : (2 : Int) ^ 64 = 18446744073709551616 := by decide +kernel
  have ep : (2 : Int) ^ (8 * i) = pw i := by rw [Int.pow_mul]; rfl
  refine ⟨?_, by omega, h3, by omega⟩
  rw [e, bits_join .u64 64 (by decide) (fun n h h' => by rw [e64] at h'; simp [IntKind.wrap, IntKind.bits, IntKind.signed]; omega) (8 * i) _ _ h3 (by rw [ep]; exact Int.mul_emod_left ..) (by rw [e64]; omega) h0 (by rw [ep]; exact h1) (by rw [e64]; omega), Int.add_comm]

theorem mod_mod_p2 (Y m : Int) (M : Nat) (h0 : 0 ≤ m) (h : m ≤ 8 * (M : Int)) : Y % pw M % p2 m = Y % p2 m := by
  have e : pw M = p2 m * p2 (8 * (M : Int) - m) := by rw [← p2_pw, ← p2_add h0 (by omega)]; congr 1; omega
  rw [e]; exact Int.emod_emod_of_dvd _ (Int.dvd_mul_right ..)

set_option maxHeartbeats 4000000 in
theorem get_any (a : Option Addr) (len cap : Nat) (xs : List Int) (n p m : Int) (w : World) (hr : RowIn .u8 w a len cap xs) (hn : isInt n) (hp : isInt p) (hm : isInt m) :
    Calls Try.prog 63 #[bv a len cap n, .int .i64 p, .int .i64 m] w fun e w' => e = .returned (.tuple #[.int .u64 (getN xs n p m), .int .i64 (getE xs n p m)]) ∧ Below w.heap.size w w' := by
  have hl := hr.hl
  have hb := byte_of hr.rd
  have hC := fun w' hb => check_any a len cap xs n w' (hr.same hb) hn.1 hn.2
  obtain ⟨hp1, hp2⟩ := hp
  obtain ⟨hm1, hm2⟩ := hm
  by_cases hok : okB xs n = true
  · have e1 : chkE xs n = 0 := by simp [chkE, hok]
    obtain ⟨hn0, hn1, hxl, hval⟩ := okB_iff.1 hok
    rw [e1] at hC
    clear e1
    by_cases t1 : m < 0
    · have f1 : (m < 0) = True := eq_true t1
      have eE : getE xs n p m = 2 := by simp [getE, hok, t1]
      have eN : getN xs n p m = 0 := by simp [getN, eE]
      rw [eE, eN]
      clear eE eN
      unfold bv at hC ⊢
      go_enter Try.func63, Try.ntmps63
      go_wp2_with (go_at_call 34; refine (hC _ (below1 _ _)).mono ?_; rintro e w1 ⟨rfl, hb1⟩; rw [size1] at hb1; have hB1 := (below1 w _).trans (hb1.mono (by omega)); have hsz := hb1.size; rw [size1] at hsz; obtain ⟨c0, c1, c2, c3⟩ := (Box2.of (blk1 w _)).below hb1 (by omega))
      go_ret2
      exact ⟨rfl, hB1⟩
    by_cases t2 : 64 < m
    · have f1 : (m < 0) = False := eq_false t1
      have f2 : (64 < m) = True := eq_true t2
      have eE : getE xs n p m = 2 := by simp [getE, hok, t2]
      have eN : getN xs n p m = 0 := by simp [getN, eE]
      rw [eE, eN]
      clear eE eN
      unfold bv at hC ⊢
      go_enter Try.func63, Try.ntmps63
      go_wp2_with (go_at_call 34; refine (hC _ (below1 _ _)).mono ?_; rintro e w1 ⟨rfl, hb1⟩; rw [size1] at hb1; have hB1 := (below1 w _).trans (hb1.mono (by omega)); have hsz := hb1.size; rw [size1] at hsz; obtain ⟨c0, c1, c2, c3⟩ := (Box2.of (blk1 w _)).below hb1 (by omega))
      go_ret2
      exact ⟨rfl, hB1⟩
    by_cases t3 : p < 0
    · have f1 : (m < 0) = False := eq_false t1
      have f2 : (64 < m) = False := eq_false t2
      have f3 : (p < 0) = True := eq_true t3
      have eE : getE xs n p m = 2 := by simp [getE, hok, t3]
      have eN : getN xs n p m = 0 := by simp [getN, eE]
      rw [eE, eN]
      clear eE eN
      unfold bv at hC ⊢
      go_enter Try.func63, Try.ntmps63
      go_wp2_with (go_at_call 34; refine (hC _ (below1 _ _)).mono ?_; rintro e w1 ⟨rfl, hb1⟩; rw [size1] at hb1; have hB1 := (below1 w _).trans (hb1.mono (by omega)); have hsz := hb1.size; rw [size1] at hsz; obtain ⟨c0, c1, c2, c3⟩ := (Box2.of (blk1 w _)).below hb1 (by omega))
      go_ret2
      exact ⟨rfl, hB1⟩
    by_cases t4 : n - p < m
    · have f1 : (m < 0) = False := eq_false t1
      have f2 : (64 < m) = False := eq_false t2
      have f3 : (p < 0) = False := eq_false t3
      have f4 : (n - p < m) = True := eq_true t4
      have eE : getE xs n p m = 24 := by simp [getE, hok, t1, t2, t3, t4]
      have eN : getN xs n p m = 0 := by simp [getN, eE]
      rw [eE, eN]
      clear eE eN
      unfold bv at hC ⊢
      go_enter Try.func63, Try.ntmps63
      go_wp2_with (go_at_call 34; refine (hC _ (below1 _ _)).mono ?_; rintro e w1 ⟨rfl, hb1⟩; rw [size1] at hb1; have hB1 := (below1 w _).trans (hb1.mono (by omega)); have hsz := hb1.size; rw [size1] at hsz; obtain ⟨c0, c1, c2, c3⟩ := (Box2.of (blk1 w _)).below hb1 (by omega))
      go_ret2
      exact ⟨rfl, hB1⟩
    have f1 : (m < 0) = False := eq_false t1
    have f2 : (64 < m) = False := eq_false t2
    have f3 : (p < 0) = False := eq_false t3
    have f4 : (n - p < m) = False := eq_false t4
    have hsn := sz_nat hn0
    have hsm := sz_nat (show 0 ≤ m by omega)
    have eE : getE xs n p m = 0 := by simp [getE, hok, t1, t2, t3, t4]
    have eN : getN xs n p m = val xs / p2 p % p2 m := by simp [getN, eE]
    rw [eE, eN]
    clear eE eN
    have hE := fun w' hb' => eights_any a len cap xs p w' (hr.same hb') (by omega) (by omega) (by omega)
    have hBf := fun w' => bytesFor_any m w' (by omega) (by omega)
    obtain ⟨M, hM⟩ : ∃ M, sz m = M := ⟨_, rfl⟩
    have hM8 : M ≤ 8 := by omega
    have hMb : m ≤ 8 * (M : Int) := by omega
    have hmin : min m 64 = m := by omega
    have hG := fun w' g1 g2 (h : EightAt w' g1 g2 xs p) => eights_gives h hb (by omega) (by omega) M (by omega)
    obtain ⟨Y, hY⟩ : ∃ Y, val xs / p2 p = Y := ⟨_, rfl⟩
    rw [hY]
    simp only [hY] at hG
    simp only [hM] at hBf
    have hent : ∀ (args : Array Value) (w : World), (callFunc 65 args).run Try.prog w = .ok (.enter 65 args) w := enters_of Try.func65 (by kernel_rfl) rfl
    have hLow := fun v w' h1 h2 => lowest_any v m w' h1 h2 (by omega) (by omega)
    simp only [hmin] at hLow
    unfold bv at hC ⊢
    clear hok hxl hval hsn hsm hM hY hmin
    go_enter Try.func63, Try.ntmps63
    go_wp2_with (first | (go_at_call 34; refine (hC _ (below1 _ _)).mono ?_; rintro e w1 ⟨rfl, hb1⟩; rw [size1] at hb1; have hB1 := (below1 w _).trans (hb1.mono (by omega)); have hsz := hb1.size; rw [size1] at hsz; obtain ⟨c0, c1, c2, c3⟩ := (Box2.of (blk1 w _)).below hb1 (by omega)) |  (go_at_call 46; refine (hE _ hB1).mono ?_; rintro e w2 ⟨g1, g2, rfl, hea, hb2⟩; have hB2 := hB1.trans (hb2.mono hB1.size); unfold eightV) |  (go_at_call 50; refine (hBf _).mono ?_; rintro e w' ⟨rfl, rfl⟩))
    have hg := hG w2 g1 g2 hea
    go_loopw [10, 39] (fun v t wr => ∃ i : Nat, i ≤ M ∧ t = .int .i64 i ∧ v = .int .u64 (Y % pw i) ∧ ∃ q, wr = w2.drewN q) (fun _ t _ => M - (intOf t).toNat)
    case atStart => exact ⟨0, Nat.zero_le _, rfl, by rw [pw_zero, Int.emod_one], 0, rfl⟩
    case round =>
      obtain ⟨i, him, rfl, rfl, q, rfl⟩ := hrel
      obtain ⟨h0, h1⟩ := mod_pw_lt Y i
      have hpb := pw_bd (show i ≤ 8 by omega)
      by_cases hlt : i < M
      · obtain ⟨x, hx⟩ : ∃ x, Y / pw i % 256 = x := ⟨_, rfl⟩
        have hcall := hg.2 (w2.drewN q) i (below_drewN (Below.refl _ _) _) hlt
        rw [hx] at hcall
        have hx0 : 0 ≤ x ∧ x < 256 := by omega
        obtain ⟨o1, o2, o3, o4⟩ := or_acc Y x i (by omega) hx0.1 hx0.2
        have hnew := mod_pw_succ Y i
        rw [hx] at hnew
        have ep : (2 : Int) ^ (8 * i) = pw i := by rw [Int.pow_mul]; rfl
        have HN := hid hnew
        clear hnew hx hg hG
        simp only [List.append_toArray, List.cons_append, List.nil_append] at hcall
        go_wp2_with (go_at_call 65; refine hcall.mono ?_; rintro e w' ⟨rfl, q2, rfl⟩)
        go_roundw
        case rel => exact ⟨i + 1, by omega, by go_num, by rw [HN.out, o1], q + q2, rfl⟩
        case measure => simp [intOf]; omega
      · obtain rfl : i = M := by omega
        have hv := fun w' => hLow (Y % pw i) w' h0 (by omega)
        rw [mod_mod_p2 Y m i (by omega) hMb] at hv
        go_wp2_with (go_at_call 48; refine (hv _).mono ?_; rintro e w' ⟨rfl, rfl⟩)
        go_ret2
        exact ⟨rfl, below_drewN hB2 _⟩
  · have e1 : chkE xs n = 8 := by simp [chkE, hok]
    rw [e1] at hC
    clear e1
    have eE : getE xs n p m = 8 := by simp [getE, hok]
    have eN : getN xs n p m = 0 := by simp [getN, eE]
    rw [eE, eN]
    clear eE eN
    unfold bv at hC ⊢
    go_enter Try.func63, Try.ntmps63
    go_wp2_with (go_at_call 34; refine (hC _ (below1 _ _)).mono ?_; rintro e w1 ⟨rfl, hb1⟩; rw [size1] at hb1; have hB1 := (below1 w _).trans (hb1.mono (by omega)); have hsz := hb1.size; rw [size1] at hsz; obtain ⟨c0, c1, c2, c3⟩ := (Box2.of (blk1 w _)).below hb1 (by omega))
    go_ret2
    exact ⟨rfl, hB1⟩
end Go.Proofs.Ytmnhepcnbdbhoaa.Bt

/- The functions that package bits hands on, and what puts bits behind. -/
import Derived.Test.YtbhoodhcipegbaaBits
import Derived.Test.YtbhoodhcipegbaaKit2
import Derived.Shelf.Abstract
namespace Go.Proofs.Ytbhoodhcipegbaa.Bt
open Go.Proofs Go.RowKit Go.Proofs.Ytbhoodhcipegbaa.Kit Go.Proofs.Ytbhoodhcipegbaa.M01 Go.Proofs.Ytbhoodhcipegbaa.M02
set_option linter.unusedVariables false

/-- What the function of 'eights' captured. -/
structure EightAt (w : World) (g1 g2 : Nat) (xs : List Int) (n : Int) : Prop where
  c1 : ∃ a, w.cell? ⟨g1, 0, none⟩ = some (.slice a (xs.length - (n / 8).toNat) (xs.length - (n / 8).toNat)) ∧ Reads .u8 w a (xs.drop (n / 8).toNat)
  c2 : w.cell? ⟨g2, 0, none⟩ = some (.int .i64 (n % 8))

theorem EightAt.same {w w' : World} {g1 g2 : Nat} {xs : List Int} {n : Int} (h : EightAt w g1 g2 xs n) (hb : Below w.heap.size w w') : EightAt w' g1 g2 xs n := by
  obtain ⟨a, h1, h2⟩ := h.c1
  exact ⟨⟨a, by rw [hb.cell (World.block_lt_of_cell? w _ h1)]; exact h1, h2.same hb⟩, by rw [hb.cell (World.block_lt_of_cell? w _ h.c2)]; exact h.c2⟩

theorem or_low (x y : Int) (i : Nat) (h : i ≤ 8) (hx0 : 0 ≤ x) (hx : x < 2 ^ i) (hy0 : 0 ≤ y) (hy1 : y < 256) (hy : y % 2 ^ i = 0) : bits .or .u8 x y = x + y := by
  have e : bits .or .u8 x y = bits .or .u8 y x := by simp only [bits, BitVec.or_comm]
  have hi : (2 : Int) ^ i ≤ 256 := by
    have := p2_le (show (i : Int) ≤ 8 by omega)
    rw [p2_8] at this; unfold p2 at this; simpa using this
  rw [e, bits_join .u8 8 (by decide) wraps_u8 i y x hy0 hy (by simpa using hy1) hx0 hx (by simp; omega), Int.add_comm]

theorem or_eight (y z s : Int) (hy0 : 0 ≤ y) (hy : y < 256) (hz0 : 0 ≤ z) (hz : z < 256) (hs0 : 0 ≤ s) (hs : s < 8) :
    bits .or .u8 (y / p2 s) (z * p2 (8 - s) % 256) = y / p2 s + z * p2 (8 - s) % 256 := by
  refine or_low _ _ (8 - s).toNat (by omega) ?_ ?_ (by omega) (by omega) ?_ <;>
  rcases (show s = 0 ∨ s = 1 ∨ s = 2 ∨ s = 3 ∨ s = 4 ∨ s = 5 ∨ s = 6 ∨ s = 7 by omega) with rfl | rfl | rfl | rfl | rfl | rfl | rfl | rfl <;> simp [p2] <;> omega

set_option maxHeartbeats 4000000 in
theorem eight_any (g1 g2 : Nat) (xs : List Int) (n : Int) (i : Nat) (w : World) (h : EightAt w g1 g2 xs n) (hb : isByte xs) (h0 : 0 ≤ n) (hl : xs.length ≤ 50000) (hj : (n / 8).toNat + i < xs.length) :
    Calls Try.prog 70 #[.int .i64 i, .pointer (some ⟨g1, 0, none⟩), .pointer (some ⟨g2, 0, none⟩)] w fun e w' => e = .returned (.int .u8 (val xs / p2 n / pw i % 256)) ∧ ∃ k, w' = w.drewN k := by
  obtain ⟨⟨a, h1, h2⟩, h3⟩ := h
  rw [eight_eq hb h0 i hj]
  have hdl : (xs.drop (n / 8).toNat).length = xs.length - (n / 8).toNat := List.length_drop
  obtain ⟨b, off, ea, hcc⟩ := h2.cells (by intro h; rw [h] at hdl; simp at hdl; omega)
  subst ea
  have hcell := hcc i (by omega)
  rw [getD_drop] at hcell
  have hyb := isByte_at hb hj
  obtain ⟨y, ey⟩ : ∃ y, xs.getD ((n / 8).toNat + i) 0 = y := ⟨_, rfl⟩
  rw [ey] at hcell hyb ⊢
  obtain ⟨m, em⟩ : ∃ m, xs.length - (n / 8).toNat = m := ⟨_, rfl⟩
  rw [em] at h1
  have him : i < m := by omega
  have hm : m ≤ 50000 := by omega
  obtain ⟨s, es⟩ : ∃ s, n % 8 = s := ⟨_, rfl⟩
  have hs0 : 0 ≤ s := by omega
  have hs8 : s < 8 := by omega
  rw [es] at h3 ⊢
  by_cases hlast : (n / 8).toNat + i + 1 < xs.length
  · rw [if_pos hlast]
    have him2 : (i : Int) + 1 < (m : Int) := by omega
    have hcell2 := hcc (i + 1) (by omega)
    rw [getD_drop, show (n / 8).toNat + (i + 1) = (n / 8).toNat + i + 1 by omega] at hcell2
    have hzb := isByte_at hb hlast
    obtain ⟨z, ez⟩ : ∃ z, xs.getD ((n / 8).toNat + i + 1) 0 = z := ⟨_, rfl⟩
    rw [ez] at hcell2 hzb ⊢
    clear hcc ey ez hdl h2 hlast hj em es
    go_enter Try.func70, Try.ntmps70
    go_wp2
    go_quiet (fail)
    go_wp2
    go_quiet (fail)
    go_wp2
    go_ret
    exact ⟨by rw [← or_eight y z s hyb.1 hyb.2 hzb.1 hzb.2 hs0 hs8]; rfl, _, World.drewN_drewN ..⟩
  · rw [if_neg hlast]
    have him2 : ((i : Int) + 1 < (m : Int)) = False := eq_false (by omega)
    clear hcc ey hdl h2 hlast hj em es
    go_enter Try.func70, Try.ntmps70
    go_wp2
    go_quiet (fail)
    go_wp2
    go_ret
    exact ⟨by rw [Int.add_zero]; rfl, nq, rfl⟩

/-- What 'eights' hands on. -/
def eightV (g1 g2 : Nat) : Value := .func (.func 70) #[] #[.pointer (some ⟨g1, 0, none⟩), .pointer (some ⟨g2, 0, none⟩)]

/-- A function that gives the bytes of a number X, up to the m-th one. -/
def Gives (w : World) (k : Nat) (cap : Array Value) (X : Int) (m : Nat) : Prop :=
  (∀ (args : Array Value) (w : World), (callFunc k args).run Try.prog w = .ok (.enter k args) w) ∧ ∀ w' i, Below w.heap.size w w' → i < m → Calls Try.prog k (#[.int .i64 (i : Nat)] ++ cap) w' fun e w'' => e = .returned (.int .u8 (X / pw i % 256)) ∧ ∃ q, w'' = w'.drewN q

theorem Gives.same {w w' : World} {k : Nat} {cap : Array Value} {X : Int} {m : Nat} (h : Gives w k cap X m) (hb : Below w.heap.size w w') : Gives w' k cap X m :=
  ⟨h.1, fun w2 i h2 hi => h.2 w2 i (hb.trans (h2.mono hb.size)) hi⟩

theorem eightAt_mk {w : World} {xs : List Int} {n : Int} {a : Option Addr} {m : Nat} {T1 T2 : TypeId} (hm : m = xs.length - (n / 8).toNat) (h : Reads .u8 w a (xs.drop (n / 8).toNat)) :
    EightAt ((w.alloc (.cells #[.slice a m m] T1)).alloc (.cells #[.int .i64 (n % 8)] T2)) w.heap.size (w.heap.size + 1) xs n := by
  subst hm
  refine ⟨⟨a, ?_, (h.alloc _).alloc _⟩, ?_⟩
  · rw [World.cell?_alloc_past _ _ _ (by simp), World.cell?_alloc_at _ _ _ _ rfl]; rfl
  · rw [World.cell?_alloc_at _ _ _ _ (by simp)]; rfl

set_option maxHeartbeats 4000000 in
theorem eights_any (a : Option Addr) (len cap : Nat) (xs : List Int) (n : Int) (w : World) (hr : RowIn .u8 w a len cap xs) (h0 : 0 ≤ n) (hn : n ≤ 8 * len) (hl : len ≤ 50000) :
    Calls Try.prog 48 #[.slice a len cap, .int .i64 n] w fun e w' => ∃ g1 g2, e = .returned (eightV g1 g2) ∧ EightAt w' g1 g2 xs n ∧ Below w.heap.size w w' := by
  obtain rfl := hr.hl
  have hc := hr.hc
  have hm := hr.hm
  have hbel : ∀ o1 o2, Below w.heap.size w ((w.alloc o1).alloc o2) := fun o1 o2 => ((Below.refl _ _).alloc (Nat.le_refl _) _).alloc (by simp) _
  obtain ⟨d, hd⟩ : ∃ d : Nat, n / 8 = d := ⟨(n / 8).toNat, by omega⟩
  have hdn : (n / 8).toNat = d := by omega
  have hdl : d ≤ xs.length := by omega
  cases a with
  | none =>
    have hx : xs = [] := by
      rcases hr.rd.1 with h | ⟨b, off, h, _⟩
      · exact h
      · cases h
    subst hx
    obtain rfl : d = 0 := by simpa using hdl
    have hmk := eightAt_mk (w := w) (xs := []) (n := n) (a := none) (m := 0) (T1 := 22) (T2 := 3) (by simp) (by simpa using Reads.nil)
    go_enter Try.func48, Try.ntmps48
    go_wp2
    go_ret
    exact ⟨_, _, rfl, hmk, hbel _ _⟩
  | some x =>
    by_cases he : xs.length = d
    · have hmk := eightAt_mk (w := w) (xs := xs) (n := n) (a := some x) (m := 0) (T1 := 22) (T2 := 3) (by omega) (by rw [hdn, List.drop_of_length_le (by omega)]; exact Reads.nil)
      go_enter Try.func48, Try.ntmps48
      go_wp2
      go_ret
      exact ⟨_, _, rfl, hmk, hbel _ _⟩
    · obtain ⟨b, off, ea, hcc⟩ := hr.rd.cells (by intro h; rw [h] at hdl he; simp at hdl he; omega)
      cases ea
      have hmk := eightAt_mk (w := w) (xs := xs) (n := n) (a := some ⟨b, off + d, none⟩) (m := xs.length - d) (T1 := 22) (T2 := 3) (by omega) (by rw [hdn]; exact hr.rd.drop d)
      clear hcc
      go_enter Try.func48, Try.ntmps48
      go_wp2
      go_ret
      exact ⟨_, _, rfl, hmk, hbel _ _⟩

set_option maxHeartbeats 4000000 in
theorem put1_any (b : Nat) (v : Int) (i : Nat) (w : World) (h : w.cell? ⟨b, 0, none⟩ = some (.int .u64 v)) (hv : 0 ≤ v) (hv2 : v < 18446744073709551616) (hi : i < 8) :
    Calls Try.prog 34 #[.int .i64 i, .pointer (some ⟨b, 0, none⟩)] w fun e w' => e = .returned (.int .u8 (v / pw i % 256)) ∧ ∃ k, w' = w.drewN k := by
  go_enter Try.func34, Try.ntmps34
  go_wp2
  go_ret
  have e : (2 : Int) ^ (8 * i) = pw i := by rw [Int.pow_mul]; rfl
  exact ⟨by rw [← e]; rfl, 0, rfl⟩

set_option maxHeartbeats 4000000 in
theorem join1_any (g : Nat) (a : Option Addr) (len cap : Nat) (xs : List Int) (n : Int) (i : Nat) (w : World) (h1 : w.cell? ⟨g, 0, none⟩ = some (.slice a len cap)) (h2 : w.cell? ⟨g, 1, none⟩ = some (.int .i64 n)) (hr : RowIn .u8 w a len cap xs) (hi : i < len) :
    Calls Try.prog 50 #[.int .i64 i, .pointer (some ⟨g, 0, none⟩)] w fun e w' => e = .returned (.int .u8 (val xs / pw i % 256)) ∧ ∃ k, w' = w.drewN k := by
  obtain rfl := hr.hl
  obtain ⟨b, off, ea, hcc⟩ := hr.rd.cells (by intro h; rw [h] at hi; simp at hi)
  subst ea
  have hcell := hcc i hi
  rw [← val_at (byte_of hr.rd) hi] at hcell
  have hl := hr.rd.len
  clear hcc
  go_enter Try.func50, Try.ntmps50
  go_wp2
  go_ret
  exact ⟨rfl, 0, rfl⟩

theorem eights_gives {w : World} {g1 g2 : Nat} {xs : List Int} {n : Int} (h : EightAt w g1 g2 xs n) (hb : isByte xs) (h0 : 0 ≤ n) (hl : xs.length ≤ 50000) (m : Nat) (hm : (n / 8).toNat + m ≤ xs.length) :
    Gives w 70 #[.pointer (some ⟨g1, 0, none⟩), .pointer (some ⟨g2, 0, none⟩)] (val xs / p2 n) m :=
  ⟨enters_of Try.func70 (by kernel_rfl) rfl, fun w' i hw hi => eight_any g1 g2 xs n i w' (h.same hw) hb h0 hl (by omega)⟩

theorem put1_gives {w : World} {b : Nat} {v : Int} (h : w.cell? ⟨b, 0, none⟩ = some (.int .u64 v)) (hv : 0 ≤ v) (hv2 : v < 18446744073709551616) (m : Nat) (hm : m ≤ 8) :
    Gives w 34 #[.pointer (some ⟨b, 0, none⟩)] v m :=
  ⟨enters_of Try.func34 (by kernel_rfl) rfl, fun w' i hw hi => put1_any b v i w' (by rw [hw.cell (World.block_lt_of_cell? w _ h)]; exact h) hv hv2 (by omega)⟩

theorem join1_gives {w : World} {g : Nat} {a : Option Addr} {len cap : Nat} {xs : List Int} {n : Int} (h1 : w.cell? ⟨g, 0, none⟩ = some (.slice a len cap)) (h2 : w.cell? ⟨g, 1, none⟩ = some (.int .i64 n)) (hr : RowIn .u8 w a len cap xs) :
    Gives w 50 #[.pointer (some ⟨g, 0, none⟩)] (val xs) len :=
  ⟨enters_of Try.func50 (by kernel_rfl) rfl, fun w' i hw hi => join1_any g a len cap xs n i w' (by rw [hw.cell (World.block_lt_of_cell? w _ h1)]; exact h1) (by rw [hw.cell (World.block_lt_of_cell? w _ h2)]; exact h2) (hr.same hw) hi⟩
end Go.Proofs.Ytbhoodhcipegbaa.Bt

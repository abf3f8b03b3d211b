/- The law Crc32Linear. -/
import Derived.Test.YthpopnpmaclncaaLaw03
import Derived.Deep.RegionLaw
namespace Go.Proofs.Ythpopnpmaclncaa.Wk
open Go.RowKit Go.Proofs.Ythpopnpmaclncaa.Kit Go.Proofs.Ythpopnpmaclncaa.M03 Go.Proofs.Ythpopnpmaclncaa.Cr Go.Proofs.Ythpopnpmaclncaa.R03
set_option linter.unusedVariables false

/-- The changes of two strings together: the first k bytes. -/
def zx (a b : List Int) (k : Nat) : List Int := (List.range k).map fun i : Nat => (((a.getD i 0).toNat ^^^ (b.getD i 0).toNat : Nat) : Int)
theorem zx_length (a b : List Int) (k : Nat) : (zx a b k).length = k := by simp [zx]
theorem zx_get (a b : List Int) {k i : Nat} (h : i < k) : (zx a b k).getD i 0 = (((a.getD i 0).toNat ^^^ (b.getD i 0).toNat : Nat) : Int) := by
  rw [List.getD_eq_getElem?_getD]; simp [zx, h]
theorem zx_succ (a b : List Int) (k : Nat) : zx a b (k + 1) = zx a b k ++ [(((a.getD k 0).toNat ^^^ (b.getD k 0).toNat : Nat) : Int)] := by
  simp [zx, List.range_succ]
theorem getD_wf {xs : List Int} {k : IntKind} (h : ∀ x ∈ xs, (Lit.int k x).wf = true) {i : Nat} (hi : i < xs.length) : (Lit.int k (xs.getD i 0)).wf = true := by
  rw [List.getD_eq_getElem?_getD, List.getElem?_eq_getElem hi]; exact h _ (by simp)
theorem wf_u8 {x : Int} (h : 0 ≤ x) (h2 : x < 256) : (Lit.int .u8 x).wf = true := by
  simp [Lit.wf, IntKind.min, IntKind.max, IntKind.signed, IntKind.bits]; omega
theorem zx_wf {a b : List Int} (ha : ∀ x ∈ a, (Lit.int .u8 x).wf = true) (hb : ∀ x ∈ b, (Lit.int .u8 x).wf = true) {k : Nat} (hk : k ≤ a.length) (hk2 : k ≤ b.length) : ∀ x ∈ zx a b k, (Lit.int .u8 x).wf = true := by
  intro x hx
  simp only [zx, List.mem_map, List.mem_range] at hx
  obtain ⟨i, hi, rfl⟩ := hx
  have h1 := bd_u8 (getD_wf ha (show i < a.length by omega))
  have h2 := bd_u8 (getD_wf hb (show i < b.length by omega))
  have := Nat.xor_lt_two_pow (n := 8) (show (a.getD i 0).toNat < 2 ^ 8 by omega) (show (b.getD i 0).toNat < 2 ^ 8 by omega)
  exact wf_u8 (by omega) (by omega)

theorem zx_crc {a b : List Int} (ha : ∀ x ∈ a, (Lit.int .u8 x).wf = true) (hb : ∀ x ∈ b, (Lit.int .u8 x).wf = true) (hl : a.length = b.length) :
    bits .xor .u32 (crcI 0 a) (crcI 0 b) = crcI 0 (zx a b a.length) := by
  have d1 := crcI_bd (s := 0) (by omega) (by omega) ha
  have d2 := crcI_bd (s := 0) (by omega) (by omega) hb
  rw [xor_u32 d1.1 d1.2 d2.1 d2.2]
  have hv := crc_xor (xs := a) (ys := b) (zs := zx a b a.length) hl (zx_length _ _ _) (fun i hi => by rw [zx_get _ _ hi, Int.toNat_natCast])
  unfold crcI
  rw [Int.toNat_natCast, Int.toNat_natCast, crc_val, crc_val, crc_val, hv, zx_length, ← hl, Int.toNat_zero, Nat.zero_xor, Nat.zero_xor, Nat.zero_xor, sts_xor]

set_option maxHeartbeats 4000000 in
set_option maxRecDepth 100000 in
theorem crc32Linear_walk (a0 : Option Addr) (l0 c0 : Nat) (x0 : List Int) (a1 : Option Addr) (l1 c1 : Nat) (x1 : List Int) (w : World) (r0 : RowIn .u8 w a0 l0 c0 x0) (r1 : RowIn .u8 w a1 l1 c1 x1) :
    Calls Try.prog 7 #[.slice a0 l0 c0, .slice a1 l1 c1] w fun e w' => e = .returned (.bool true) ∧ Below w.heap.size w w' := by
  obtain ⟨i0, hi, hz0, hz1, hz2⟩ := info_parts info_u8
  have h0 := r0.hl
  have h1 := r1.hl
  have h3 := r0.rd.len
  have h4 := r1.rd.len
  rcases (show (l0 = l1 ∧ l0 ≤ 500) ∨ l0 ≠ l1 ∨ (l0 = l1 ∧ 500 < l0) by omega) with ⟨rfl, g⟩ | g | ⟨rfl, g⟩
  · have f1 : (500 < (l0 : Int)) = False := eq_false (by omega)
    have hZ := hid (zx_crc r0.rd.2.2 r1.rd.2.2 (by omega))
    rw [h0] at hZ
    have d1 := crcI_bd (s := 0) (by omega) (by omega) r0.rd.2.2
    have d2 := crcI_bd (s := 0) (by omega) (by omega) r1.rd.2.2
    have N1 := next_at (s := 0) (xs := x0) (len := l0) (by omega) (by omega) h0 (by omega) rfl
    have N2 := next_at (s := 0) (xs := x1) (len := l0) (by omega) (by omega) h1 (by omega) rfl
    have N3 := next_at (s := 0) (xs := zx x0 x1 l0) (len := l0) (by omega) (by omega) (zx_length _ _ _) (by omega) hZ.out.symm
    have HW := fun k (hk : k ≤ l0) => hid (zx_wf r0.rd.2.2 r1.rd.2.2 (show k ≤ x0.length by omega) (show k ≤ x1.length by omega))
    clear hZ
    generalize crcI 0 x0 = p at *
    generalize crcI 0 x1 = q at *
    generalize hm : bits .xor .u32 p q = m at *
    go_enter Try.func7, Try.ntmps7
    go_wp2
    go_loopw [5, 6] (fun v i wr => ∃ k : Nat, k ≤ l0 ∧ i = .int .i64 k ∧ OwnI .u8 wr w.heap.size 5 v (zx x0 x1 k) ∧ Below w.heap.size w wr) (fun _ i _ => l0 - (intOf i).toNat)
    case atStart => exact ⟨0, by omega, by go_num, OwnI.nil, Below.refl _ _⟩
    case round =>
      obtain ⟨k, hk, rfl, ho, hb⟩ := hrel
      by_cases hlt : k < l0
      · have r0' := r0.same hb
        have r1' := r1.same hb
        obtain ⟨b0, o0, rfl, hc0⟩ := r0'.rd.cells (by intro h; rw [h] at h0; simp at h0; omega)
        obtain ⟨b1, o1, rfl, hc1⟩ := r1'.rd.cells (by intro h; rw [h] at h1; simp at h1; omega)
        have e0 := hc0 k (by omega)
        have e1 := hc1 k (by omega)
        have y0 := bd_u8 (getD_wf r0.rd.2.2 (show k < x0.length by omega))
        have y1 := bd_u8 (getD_wf r1.rd.2.2 (show k < x1.length by omega))
        have hs := hid (zx_succ x0 x1 k)
        have hx := xor_u8 y0.1 (show x0.getD k 0 < 256 by omega) y1.1 (show x1.getD k 0 < 256 by omega)
        have hn := zx_length x0 x1 k
        have hsz := hb.size
        have hyw : (Lit.int .u8 (((x0.getD k 0).toNat ^^^ (x1.getD k 0).toNat : Nat) : Int)).wf = true := by
          have := Nat.xor_lt_two_pow (n := 8) (show (x0.getD k 0).toNat < 2 ^ 8 by omega) (show (x1.getD k 0).toNat < 2 ^ 8 by omega)
          exact wf_u8 (by omega) (by omega)
        generalize (((x0.getD k 0).toNat ^^^ (x1.getD k 0).toNat : Nat) : Int) = y at *
        generalize x0.getD k 0 = y2 at *
        generalize x1.getD k 0 = y3 at *
        clear hc0 hc1 r0' r1' N1 N2 N3 HW
        have hR : Reads .u8 (wr.drew.alloc (.cells #[.int .u8 y] 5)) (some ⟨wr.heap.size, 0, none⟩) [y] := (litMark (k := .u8) wr.drew 5 [y] 1 #[.int .u8 y] (0, 0) rfl rfl (by simp [maxLen]) (by intro x hx; simp only [List.mem_singleton] at hx; subst hx; exact hyw)).rd
        have hO : OwnI .u8 (wr.drew.alloc (.cells #[.int .u8 y] 5)) w.heap.size 5 _ _ := (ho.below (Below.refl _ _).drew).below (below1 _ _)
        have hB : Below wr.heap.size wr (wr.drew.alloc (.cells #[.int .u8 y] 5)) := (Below.refl _ _).drew.alloc (Nat.le_refl _) _
        have hZ2 : w.heap.size ≤ (wr.drew.alloc (.cells #[.int .u8 y] 5)).heap.size := Nat.le_trans hsz hB.size
        go_wp2
        go_region_law (refine appS rfl _ _ 28 (by rfl) w.heap.size 5 i0 (.int .u8 0) 1 Try.underlying28 hi hz0 hz1 hz2 rfl .u8 _ _ hO _ 1 1 [y] hR rfl (by rfl) (by rfl) hZ2 (by omega) (by omega) ?_; intro v' w2 hown hgr hb2)
        all_goals
          go_wp2
          go_roundw
          case rel => exact ⟨k + 1, by omega, by go_num, by rw [hs.out]; exact hown, (hb.trans (hB.mono hsz)).trans hb2⟩
          case measure => simp [intOf]; omega
      · obtain rfl : k = l0 := by omega
        obtain ⟨a', cap', hv, hrow⟩ := ho.row (HW k hk).out
        rw [zx_length] at hv hrow
        subst hv
        have r0' := r0.same hb
        have r1' := r1.same hb
        go_wp2_with (first  | ((with_reducible refine (N1.out _ _ _ r0').mono ?_); rintro e w' ⟨rfl, rfl⟩)  | ((with_reducible refine (N2.out _ _ _ r1').mono ?_); rintro e w' ⟨rfl, rfl⟩)  | ((with_reducible refine (N3.out _ _ _ hrow).mono ?_); rintro e w' ⟨rfl, rfl⟩)  | ((with_reducible refine (alive_any _).mono ?_); rintro e w' ⟨rfl, hbA⟩))
        go_ret
        exact ⟨rfl, hb.trans (hbA.mono hb.size)⟩
  · have f1 : ((l0 : Int) = (l1 : Int)) = False := eq_false (by omega)
    go_enter Try.func7, Try.ntmps7
    go_wp2_with ((with_reducible refine (alive_any _).mono ?_); rintro e w' ⟨rfl, hbA⟩)
    go_ret
    exact ⟨rfl, hbA⟩
  · have f2 : (500 < (l0 : Int)) = True := eq_true (by omega)
    go_enter Try.func7, Try.ntmps7
    go_wp2_with ((with_reducible refine (alive_any _).mono ?_); rintro e w' ⟨rfl, hbA⟩)
    go_ret
    exact ⟨rfl, hbA⟩
end Go.Proofs.Ythpopnpmaclncaa.Wk

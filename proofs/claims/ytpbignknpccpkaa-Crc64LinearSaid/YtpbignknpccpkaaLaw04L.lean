/- The law Crc64Linear. -/
import Derived.Test.YtpbignknpccpkaaLaw04
import Derived.Deep.RegionLaw
namespace Go.Proofs.Ytpbignknpccpkaa.Wk
open Go.RowKit Go.Proofs.Ytpbignknpccpkaa.Kit Go.Proofs.Ytpbignknpccpkaa.M04 Go.Proofs.Ytpbignknpccpkaa.Cr6 Go.Proofs.Ytpbignknpccpkaa.R04
open Go.Proofs.Ytpbignknpccpkaa.M03 (xor_u8)
set_option linter.unusedVariables false

/-- The changes of two strings together: the first k bytes. -/
def zx (a b : List Int) (k : Nat) : List Int := (List.range k).map fun i : Nat => (((a.getD i 0).toNat ^^^ (b.getD i 0).toNat : Nat) : Int)
theorem zx_length (a b : List Int) (k : Nat) : (zx a b k).length = k := by simp [zx]
theorem zx_get (a b : List Int) {k i : Nat} (h : i < k) : (zx a b k).getD i 0 = (((a.getD i 0).toNat ^^^ (b.getD i 0).toNat : Nat) : Int) := by
  rw [List.getD_eq_getElem?_getD]; simp [zx, h]
theorem zx_succ (a b : List Int) (k : Nat) : zx a b (k + 1) = zx a b k ++ [(((a.getD k 0).toNat ^^^ (b.getD k 0).toNat : Nat) : Int)] := by
  simp [zx, List.range_succ]
theorem getD_wf {xs : List Int} {k : IntKind} (h : ∀ x ∈ xs, (Lit.int k x).wf = true) {i : Nat} (hi : i < xs.length) : (Lit.int k (xs.getD i 0)).wf = true := by
  rw [List.getD_eq_getElem?_getD, List.getElem?_eq_getElem hi]; exact h _ (by simp)
theorem wf_u8 {x : Int} (h : 0 ≤ x) (h2 : x < 256) : (Lit.int .u8 x).wf = true := by
  simp [Lit.wf, IntKind.min, IntKind.max, IntKind.signed, IntKind.bits]; omega
theorem zx_wf {a b : List Int} (ha : ∀ x ∈ a, (Lit.int .u8 x).wf = true) (hb : ∀ x ∈ b, (Lit.int .u8 x).wf = true) {k : Nat} (hk : k ≤ a.length) (hk2 : k ≤ b.length) : ∀ x ∈ zx a b k, (Lit.int .u8 x).wf = true := by
  intro x hx
  simp only [zx, List.mem_map, List.mem_range] at hx
  obtain ⟨i, hi, rfl⟩ := hx
  have h1 := bd_u8 (getD_wf ha (show i < a.length by omega))
  have h2 := bd_u8 (getD_wf hb (show i < b.length by omega))
  have := Nat.xor_lt_two_pow (n := 8) (show (a.getD i 0).toNat < 2 ^ 8 by omega) (show (b.getD i 0).toNat < 2 ^ 8 by omega)
  exact wf_u8 (by omega) (by omega)

theorem zx_crc {a b : List Int} (ha : ∀ x ∈ a, (Lit.int .u8 x).wf = true) (hb : ∀ x ∈ b, (Lit.int .u8 x).wf = true) (hl : a.length = b.length) :
    bits .xor .u64 (crcI 0 a) (crcI 0 b) = crcI 0 (zx a b a.length) := by
  have d1 := crcI_bd (s := 0) (by omega) (by omega) ha
  have d2 := crcI_bd (s := 0) (by omega) (by omega) hb
  rw [xor_u64 d1.1 d1.2 d2.1 d2.2]
  have hv := crc_xor (s := 0) (t := 0) (xs := a) (ys := b) (zs := zx a b a.length) hl (zx_length _ _ _) (fun i hi => by rw [zx_get _ _ hi, Int.toNat_natCast])
  rw [Nat.xor_zero] at hv
  unfold crcI
  rw [Int.toNat_natCast, Int.toNat_natCast, Int.toNat_zero, hv]

theorem wf_zeros' (z : Nat) : ∀ x ∈ List.replicate z (0 : Int), (Lit.int .u8 x).wf = true := by
  intro x hx
  rw [List.mem_replicate] at hx
  rw [hx.2]; rfl

theorem zeros_crc {s : Int} (h : 0 ≤ s) (h2 : s < 18446744073709551616) {a : List Int} (ha : ∀ x ∈ a, (Lit.int .u8 x).wf = true) :
    bits .xor .u64 (crcI 0 a) (crcI s (List.replicate a.length 0)) = crcI s a := by
  have d1 := crcI_bd (s := 0) (by omega) (by omega) ha
  have d2 := crcI_bd h h2 (wf_zeros' a.length)
  rw [xor_u64 d1.1 d1.2 d2.1 d2.2]
  unfold crcI
  rw [Int.toNat_natCast, Int.toNat_natCast, Int.toNat_zero, Nat.xor_comm, ← crc_state]

set_option maxHeartbeats 4000000 in
set_option maxRecDepth 100000 in
theorem crc64Linear_walk (a0 : Int) (a1 : Option Addr) (l1 c1 : Nat) (x1 : List Int) (a2 : Option Addr) (l2 c2 : Nat) (x2 : List Int) (w : World) (b0 : 0 ≤ a0 ∧ a0 ≤ 18446744073709551615) (r1 : RowIn .u8 w a1 l1 c1 x1) (r2 : RowIn .u8 w a2 l2 c2 x2) :
    Calls Try.prog 5 #[.int .u64 a0, .slice a1 l1 c1, .slice a2 l2 c2] w fun e w' => e = .returned (.bool true) ∧ Below w.heap.size w w' := by
  obtain ⟨i0, hi, hz0, hz1, hz2⟩ := info_parts info_u8
  have h1 := r1.hl
  have h2 := r2.hl
  have h3 := r1.rd.len
  have h4 := r2.rd.len
  rcases (show (l1 = l2 ∧ l1 ≤ 500) ∨ l1 ≠ l2 ∨ (l1 = l2 ∧ 500 < l1) by omega) with ⟨rfl, g⟩ | g | ⟨rfl, g⟩
  · have f1 : (500 < (l1 : Int)) = False := eq_false (by omega)
    have hZ := hid (zx_crc r1.rd.2.2 r2.rd.2.2 (by omega))
    rw [h1] at hZ
    have hS := zeros_crc (s := a0) b0.1 (by omega) r1.rd.2.2
    rw [h1] at hS
    have N1 := sum_at (xs := x1) (len := l1) h1 (by omega) rfl
    have N2 := sum_at (xs := x2) (len := l1) h2 (by omega) rfl
    have N3 := sum_at (xs := zx x1 x2 l1) (len := l1) (zx_length _ _ _) (by omega) hZ.out.symm
    have N4 := next_at (s := a0) (xs := x1) (len := l1) b0.1 (by omega) h1 (by omega) hS.symm
    have N5 := next_at (s := a0) (xs := List.replicate l1 0) (len := l1) b0.1 (by omega) (by simp) (by omega) rfl
    have HW := fun k (hk : k ≤ l1) => hid (zx_wf r1.rd.2.2 r2.rd.2.2 (show k ≤ x1.length by omega) (show k ≤ x2.length by omega))
    have HZ := hid (wf_zeros' l1)
    clear hZ hS
    generalize crcI 0 x1 = p at *
    generalize crcI 0 x2 = q at *
    generalize crcI a0 (List.replicate l1 0) = z at *
    generalize hm : bits .xor .u64 p q = m at *
    generalize hm2 : bits .xor .u64 p z = m2 at *
    go_enter Try.func5, Try.ntmps5
    go_wp2
    go_loopw [7, 8] (fun v i wr => ∃ k : Nat, k ≤ l1 ∧ i = .int .i64 k ∧ OwnI .u8 wr w.heap.size 5 v (zx x1 x2 k) ∧ Below w.heap.size w wr) (fun _ i _ => l1 - (intOf i).toNat)
    case atStart => exact ⟨0, by omega, by go_num, OwnI.nil, Below.refl _ _⟩
    case round =>
      obtain ⟨k, hk, rfl, ho, hb⟩ := hrel
      by_cases hlt : k < l1
      · have r1' := r1.same hb
        have r2' := r2.same hb
        obtain ⟨b0, o0, rfl, hc0⟩ := r1'.rd.cells (by intro h; rw [h] at h1; simp at h1; omega)
        obtain ⟨b1, o1, rfl, hc1⟩ := r2'.rd.cells (by intro h; rw [h] at h2; simp at h2; omega)
        have e0 := hc0 k (by omega)
        have e1 := hc1 k (by omega)
        have y0 := bd_u8 (getD_wf r1.rd.2.2 (show k < x1.length by omega))
        have y1 := bd_u8 (getD_wf r2.rd.2.2 (show k < x2.length by omega))
        have hs := hid (zx_succ x1 x2 k)
        have hx := xor_u8 y0.1 (show x1.getD k 0 < 256 by omega) y1.1 (show x2.getD k 0 < 256 by omega)
        have hn := zx_length x1 x2 k
        have hsz := hb.size
        have hyw : (Lit.int .u8 (((x1.getD k 0).toNat ^^^ (x2.getD k 0).toNat : Nat) : Int)).wf = true := by
          have := Nat.xor_lt_two_pow (n := 8) (show (x1.getD k 0).toNat < 2 ^ 8 by omega) (show (x2.getD k 0).toNat < 2 ^ 8 by omega)
          exact wf_u8 (by omega) (by omega)
        generalize (((x1.getD k 0).toNat ^^^ (x2.getD k 0).toNat : Nat) : Int) = y at *
        generalize x1.getD k 0 = y2 at *
        generalize x2.getD k 0 = y3 at *
        clear hc0 hc1 r1' r2' N1 N2 N3 N4 N5 HW HZ
        have hR : Reads .u8 (wr.drew.alloc (.cells #[.int .u8 y] 5)) (some ⟨wr.heap.size, 0, none⟩) [y] := (litMark (k := .u8) wr.drew 5 [y] 1 #[.int .u8 y] (0, 0) rfl rfl (by simp [maxLen]) (by intro x hx; simp only [List.mem_singleton] at hx; subst hx; exact hyw)).rd
        have hO : OwnI .u8 (wr.drew.alloc (.cells #[.int .u8 y] 5)) w.heap.size 5 _ _ := (ho.below (Below.refl _ _).drew).below (below1 _ _)
        have hB : Below wr.heap.size wr (wr.drew.alloc (.cells #[.int .u8 y] 5)) := (Below.refl _ _).drew.alloc (Nat.le_refl _) _
        have hZ2 : w.heap.size ≤ (wr.drew.alloc (.cells #[.int .u8 y] 5)).heap.size := Nat.le_trans hsz hB.size
        go_wp2
        go_region_law (refine appS rfl _ _ 28 (by rfl) w.heap.size 5 i0 (.int .u8 0) 1 Try.underlying28 hi hz0 hz1 hz2 rfl .u8 _ _ hO _ 1 1 [y] hR rfl (by rfl) (by rfl) hZ2 (by omega) (by omega) ?_; intro v' w2 hown hgr hb2)
        all_goals
          go_wp2
          go_roundw
          case rel => exact ⟨k + 1, by omega, by go_num, by rw [hs.out]; exact hown, (hb.trans (hB.mono hsz)).trans hb2⟩
          case measure => simp [intOf]; omega
      · obtain rfl : k = l1 := by omega
        obtain ⟨a', cap', hv, hrow⟩ := ho.row (HW k hk).out
        rw [zx_length] at hv hrow
        subst hv
        have r1' := r1.same hb
        have r2' := r2.same hb
        have hsz := hb.size
        go_wp2_with (first  | ((with_reducible refine (N1.out _ _ _ r1').mono ?_); rintro e w' ⟨rfl, rfl⟩)  | ((with_reducible refine (N2.out _ _ _ r2').mono ?_); rintro e w' ⟨rfl, rfl⟩)  | ((with_reducible refine (N3.out _ _ _ hrow).mono ?_); rintro e w' ⟨rfl, rfl⟩)  | ((with_reducible refine (N4.out _ _ _ r1').mono ?_); rintro e w' ⟨rfl, rfl⟩)  | (at_make; refine makeI rfl _ _ 28 rfl wr.heap.size 5 i0 1 .u8 Try.underlying28 hi hz0 hz1 hz2 k k rfl rfl rfl (by omega) (by omega) (Nat.le_refl _) ?_; intro w3 o3 gr3 hb3 s3; have r3 := o3.rowLit HZ.out; clear o3 gr3)  | ((with_reducible refine (N5.out _ _ _ r3).mono ?_); rintro e w' ⟨rfl, rfl⟩)  | ((with_reducible refine (alive_any _).mono ?_); rintro e w' ⟨rfl, hbA⟩))
        go_ret
        have hF := hb.trans (hb3.mono hsz)
        exact ⟨rfl, hF.trans (hbA.mono hF.size)⟩
  · have f1 : ((l1 : Int) = (l2 : Int)) = False := eq_false (by omega)
    go_enter Try.func5, Try.ntmps5
    go_wp2_with ((with_reducible refine (alive_any _).mono ?_); rintro e w' ⟨rfl, hbA⟩)
    go_ret
    exact ⟨rfl, hbA⟩
  · have f2 : (500 < (l1 : Int)) = True := eq_true (by omega)
    go_enter Try.func5, Try.ntmps5
    go_wp2_with ((with_reducible refine (alive_any _).mono ?_); rintro e w' ⟨rfl, hbA⟩)
    go_ret
    exact ⟨rfl, hbA⟩
end Go.Proofs.Ytpbignknpccpkaa.Wk

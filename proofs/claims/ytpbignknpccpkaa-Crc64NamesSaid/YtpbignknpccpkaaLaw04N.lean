/- The law Crc64Names. -/
import Derived.Test.YtpbignknpccpkaaLaw04
namespace Go.Proofs.Ytpbignknpccpkaa.Wk
open Go.RowKit Go.Proofs.Ytpbignknpccpkaa.Kit Go.Proofs.Ytpbignknpccpkaa.M04 Go.Proofs.Ytpbignknpccpkaa.Cr6 Go.Proofs.Ytpbignknpccpkaa.R04
set_option linter.unusedVariables false

theorem crcI_zeros0 (n : Nat) : crcI 0 (List.replicate n 0) = 0 := by
  unfold crcI; rw [Int.toNat_zero, crc_zeros]; rfl
theorem wfz (n : Nat) : ∀ x ∈ List.replicate n (0 : Int), (Lit.int .u8 x).wf = true := by
  intro x hx; rw [List.mem_replicate] at hx; rw [hx.2]; rfl

theorem many_next {n : Nat} (h : 100000 < n) (s : Int) (h0 : 0 ≤ s) (h2 : s < 18446744073709551616) :
    Hid (∀ w b cap, RowIn .u8 w b n cap (List.replicate n 0) → Calls Try.prog 11 #[.int .u64 s, .slice b n cap] w fun e w' => e = .returned (.tuple #[.int .u64 0, .int .i64 4]) ∧ w = w') := by
  intro w b cap r
  have X := next_any s b n cap _ w r h0 h2
  rw [nxN, nxE, List.length_replicate, if_neg (by omega), if_neg (by omega)] at X
  exact X
theorem many_sum {n : Nat} (h : 100000 < n) :
    Hid (∀ w b cap, RowIn .u8 w b n cap (List.replicate n 0) → Calls Try.prog 10 #[.slice b n cap] w fun e w' => e = .returned (.tuple #[.int .u64 0, .int .i64 4]) ∧ w = w') := by
  intro w b cap r
  have X := sum_any b n cap _ w r
  rw [nxN, nxE, List.length_replicate, if_neg (by omega), if_neg (by omega)] at X
  exact X

set_option maxHeartbeats 4000000 in
set_option maxRecDepth 100000 in
theorem crc64Names_walk (w : World)  :
    Calls Try.prog 3 #[] w fun e w' => e = .returned (.bool true) ∧ Below w.heap.size w w' := by
  obtain ⟨i0, hi, hz0, hz1, hz2⟩ := info_parts info_u8
  have T1 := table_any w
  go_enter Try.func3, Try.ntmps3
  go_wp2_with ((with_reducible refine T1.mono ?_); rintro e w3 ⟨a, rfl, ho, hb⟩)
  go_loopw [2] (fun i wr => ∃ k : Nat, k ≤ 256 ∧ i = .int .i64 k ∧ ∃ ys, ys.length = 256 ∧ OwnI .u64 wr w.heap.size 41 (.slice (some ⟨a, 0, none⟩) 256 256) ys ∧ Below w.heap.size w wr) (fun i _ => 256 - (intOf i).toNat)
  case atStart => exact ⟨0, by omega, by go_num, _, tbl_length 256, ho, hb⟩
  case round =>
    obtain ⟨k, hk, rfl, ys, hyl, ho2, hbr⟩ := hrel
    clear ho hb T1
    by_cases hlt : k < 256
    · have hcell := ho2.cell k (by omega)
      have hfree := ho2.free k
      have H := hid (ho2.set k 7)
      generalize ys.getD k 0 = y at *
      clear ho2
      go_wp2
      go_roundw
      case rel => exact ⟨k + 1, by omega, by go_num, _, by rw [List.length_set]; exact hyl, H.out.1, hbr.trans H.out.2⟩
      case measure => simp [intOf]; omega
    · obtain rfl : k = 256 := by omega
      clear ho2
      have hsz := hbr.size
      have T2 := table_any wr
      have M1 := many_sum (n := 100001) (by omega)
      have M2 := many_next (n := 100001) (by omega) 0 (by omega) (by omega)
      have M3 := sum_at (xs := List.replicate 100000 0) (len := 100000) List.length_replicate (by omega) (crcI_zeros0 100000)
      have M5 := sum_at (xs := [2]) (len := 1) (v := 9647207206396128550) rfl (by omega) (by decide +kernel)
      have M6 := next_at (s := 5) (xs := []) (len := 0) (v := 5) (by omega) (by omega) rfl (by omega) (by decide +kernel)
      have L4 := fun w' => litMark (k := .u8) w' 5 [2] 1 #[.int .u8 2] (0, 0) rfl rfl (by decide) (by decide +kernel)
      have Z1 := hid (wfz 100001)
      have Z2 := hid (wfz 100000)
      go_wp2_with (first  | ((with_reducible refine T2.mono ?_); rintro e w4 ⟨a4, rfl, ho4, hb4⟩; have c0 := ho4.cell 0 (by rw [tbl_length]; decide); have c1 := ho4.cell 1 (by rw [tbl_length]; decide); have c2 := ho4.cell 2 (by rw [tbl_length]; decide); rw [tbl_get (by decide), show behI 0 ((0 : Nat) : Int) = 0 by decide +kernel] at c0; rw [tbl_get (by decide), show behI 0 ((1 : Nat) : Int) = 4823603603198064275 by decide +kernel] at c1; rw [tbl_get (by decide), show behI 0 ((2 : Nat) : Int) = 9647207206396128550 by decide +kernel] at c2; have g4 := ho4.base; have hB4 := hbr.trans (hb4.mono hsz); have hs4 := hB4.size; clear ho4 hb4 T2)  | (at_make; refine makeI rfl (.const (.int .i64 100001)) (.const (.int .i64 100001)) 28 rfl w4.heap.size 5 i0 1 .u8 Try.underlying28 hi hz0 hz1 hz2 100001 100001 rfl rfl rfl (by omega) (by omega) (Nat.le_refl _) ?_; intro w5 o5 gr5 b5 s5; have r5 := o5.rowLit Z1.out; clear o5 gr5)  | ((with_reducible refine (M1.out _ _ _ r5).mono ?_); rintro e w' ⟨rfl, rfl⟩)  | (at_make; refine makeI rfl (.const (.int .i64 100001)) (.const (.int .i64 100001)) 28 rfl w5.heap.size 5 i0 1 .u8 Try.underlying28 hi hz0 hz1 hz2 100001 100001 rfl rfl rfl (by omega) (by omega) (Nat.le_refl _) ?_; intro w6 o6 gr6 b6 s6; have r6 := o6.rowLit Z1.out; clear o6 gr6)  | ((with_reducible refine (M2.out _ _ _ r6).mono ?_); rintro e w' ⟨rfl, rfl⟩)  | (at_make; refine makeI rfl (.const (.int .i64 100000)) (.const (.int .i64 100000)) 28 rfl w6.heap.size 5 i0 1 .u8 Try.underlying28 hi hz0 hz1 hz2 100000 100000 rfl rfl rfl (by omega) (by omega) (Nat.le_refl _) ?_; intro w7 o7 gr7 b7 s7; have r7 := o7.rowLit Z2.out; clear o7 gr7)  | ((with_reducible refine (M3.out _ _ _ r7).mono ?_); rintro e w' ⟨rfl, rfl⟩)  | ((with_reducible refine (M6.out _ _ _ RowIn.nil).mono ?_); rintro e w' ⟨rfl, rfl⟩)  | ((with_reducible refine (M5.out _ _ _ (L4 _)).mono ?_); rintro e w' ⟨rfl, rfl⟩; have hX : Below w4.heap.size w4 (w7.alloc (.cells #[.int .u8 2] 5)) := ((b5.trans (b6.mono (by omega))).trans (b7.mono (by omega))).trans ((below1 w7 _).mono (by omega)); have x0 := hX.cell (p := ⟨a4, 0, none⟩) g4.2; rw [c0] at x0; have x1 := hX.cell (p := ⟨a4, 1, none⟩) g4.2; rw [c1] at x1; have x2 := hX.cell (p := ⟨a4, 2, none⟩) g4.2; rw [c2] at x2; clear c0 c1 c2)  | ((with_reducible refine (alive_any _).mono ?_); rintro e w' ⟨rfl, hbA⟩))
      go_ret
      have hF := hB4.trans (hX.mono hs4)
      exact ⟨rfl, hF.trans (hbA.mono hF.size)⟩
end Go.Proofs.Ytpbignknpccpkaa.Wk

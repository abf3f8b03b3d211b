/- What Table of package crc64 returns. -/
import Derived.Test.YtpbignknpccpkaaCrc6
namespace Go.Proofs.Ytpbignknpccpkaa.Cr6
open Go.RowKit Go.Proofs.Ytpbignknpccpkaa.Kit Go.Proofs.Ytpbignknpccpkaa.M04
set_option linter.unusedVariables false

theorem zero_table (w : World) : (zeroValue 41).run Try.prog w = .ok (.agg ((List.replicate 256 (0 : Int)).map (Value.int .u64)).toArray) w := by kernel_rfl

set_option maxHeartbeats 4000000 in
set_option maxRecDepth 100000 in
theorem table_any (w : World) :
    Calls Try.prog 9 #[] w fun e w' => ∃ a, e = .returned (.slice (some ⟨a, 0, none⟩) 256 256) ∧ OwnI .u64 w' w.heap.size 41 (.slice (some ⟨a, 0, none⟩) 256 256) (tbl 256) ∧ Below w.heap.size w w' := by
  have hz := zero_table w
  have O1 := OwnI.lit (k := .u64) w w.heap.size 41 (List.replicate 256 0) (Nat.le_refl _) (by decide)
  rw [List.length_replicate] at O1
  have hb1 := below1 w (.cells ((List.replicate 256 (0 : Int)).map (Value.int .u64)).toArray 41)
  generalize ((List.replicate 256 (0 : Int)).map (Value.int .u64)).toArray = Z at *
  go_enter Try.func9, Try.ntmps9
  go_wp2
  go_loopw [3] (fun i wr => ∃ k : Nat, k ≤ 256 ∧ i = .int .i64 k ∧ OwnI .u64 wr w.heap.size 41 (.slice (some ⟨w.heap.size, 0, none⟩) 256 256) (tbl k ++ List.replicate (256 - k) 0) ∧ Below w.heap.size w wr) (fun i _ => 256 - (intOf i).toNat)
  case atStart => exact ⟨0, by omega, by go_num, by rw [show tbl 0 = [] from rfl, List.nil_append]; exact O1, hb1⟩
  case round =>
    obtain ⟨k, hk, rfl, ho, hb⟩ := hrel
    clear O1 hb1 hz
    by_cases hlt : k < 256
    · have hl : (tbl k ++ List.replicate (256 - k) (0 : Int)).length = 256 := by rw [List.length_append, tbl_length, List.length_replicate]; omega
      have R1 := litMark (k := .u8) wr 5 [(k : Int)] 1 #[.int .u8 k] (0, 0) rfl rfl (by simp [maxLen]) (by intro x hx; simp only [List.mem_singleton] at hx; subst hx; simp [Lit.wf, IntKind.min, IntKind.max, IntKind.signed, IntKind.bits]; omega)
      have S1 := behind_any 0 _ _ _ _ _ R1 (by omega) (by omega)
      rw [crcI_one] at S1
      have hb2 := below1 wr (.cells #[.int .u8 k] 5)
      have ho2 : OwnI .u64 _ _ _ _ _ := ho.below hb2
      have hcell := ho2.cell k (by omega)
      have hfree := ho2.free k
      have H := hid (ho2.set k (behI 0 k))
      have hs := hid (tbl_set k hlt)
      have hB := hid (hb.trans (hb2.mono hb.size))
      generalize (tbl k ++ List.replicate (256 - k) (0 : Int)).getD k 0 = y at hcell
      have hm : (k : Int) % 256 = k := by omega
      clear ho ho2 R1 hb hb2
      go_wp2_with (go_at_call 16; (with_reducible refine S1.mono ?_); rintro e w' ⟨rfl, rfl⟩)
      go_roundw
      case rel => exact ⟨k + 1, by omega, by go_num, by rw [← hs.out]; exact H.out.1, hB.out.trans H.out.2⟩
      case measure => simp [intOf]; omega
    · obtain rfl : k = 256 := by omega
      go_wp2
      go_ret
      exact ⟨_, rfl, by simpa using ho, hb⟩
end Go.Proofs.Ytpbignknpccpkaa.Cr6

/- The laws of layer 4: the chapter's examples; what the calls return at given values. -/
import Derived.Test.YtpbignknpccpkaaRef04
import Derived.Test.YtpbignknpccpkaaCrc6t
namespace Go.Proofs.Ytpbignknpccpkaa.Wk
open Go.RowKit Go.Proofs.Ytpbignknpccpkaa.Kit Go.Proofs.Ytpbignknpccpkaa.M04 Go.Proofs.Ytpbignknpccpkaa.Cr6 Go.Proofs.Ytpbignknpccpkaa.R04
set_option linter.unusedVariables false

def nine : List Int := [49, 50, 51, 52, 53, 54, 55, 56, 57]

theorem nx_nine : nxN 0 nine = 7800480153909949255 := by decide +kernel
theorem nx_one : nxN 0 [1] = 4823603603198064275 := by decide +kernel

set_option maxHeartbeats 4000000 in
theorem alive_any (w : World) : Calls Try.prog 12 #[] w fun e w' => e = .returned (.bool true) ∧ Below w.heap.size w w' := by
  have kc := fun (C : Array Value) (n c : Nat) => Lib.run_convert_bytes_const (P := Try.prog) (w.alloc (.cells #[.int .u8 1] 5)) 28 5 C n c Try.underlying28 Try.underlying5
  simp only [World.size_alloc] at kc
  have S1 := sum_any none 0 0 [] w RowIn.nil
  have O2 := litMark (k := .u8) w 5 [1] 1 #[.int .u8 1] (0, 0) rfl rfl (by decide) (by decide +kernel)
  have S2 := sum_any _ _ _ [1] _ O2
  have hb1 := below1 w (.cells #[.int .u8 1] 5)
  generalize hw1 : w.alloc (.cells #[.int .u8 1] 5) = w1 at *
  have O3 := litMark (k := .u8) w1 5 nine 9 #[.int .u8 49, .int .u8 50, .int .u8 51, .int .u8 52, .int .u8 53, .int .u8 54, .int .u8 55, .int .u8 56, .int .u8 57] (9, 10) rfl rfl (by decide) (by decide +kernel)
  have S3 := sum_any _ _ _ nine _ O3
  have hb2 := hb1.trans ((below1 w1 (.cells #[.int .u8 49, .int .u8 50, .int .u8 51, .int .u8 52, .int .u8 53, .int .u8 54, .int .u8 55, .int .u8 56, .int .u8 57] 5 (9, 10))).mono hb1.size)
  rw [show nxN 0 [] = 0 by decide +kernel, show nxE [] = 0 by decide +kernel] at S1
  rw [nx_one, show nxE [1] = 0 by decide +kernel] at S2
  rw [nx_nine, show nxE nine = 0 by decide +kernel] at S3
  subst hw1
  simp only [World.size_alloc] at S3
  clear O2 O3
  go_enter Try.func12, Try.ntmps12
  go_wp2_with (first  | ((with_reducible refine S1.mono ?_); rintro e w' ⟨rfl, rfl⟩)  | ((with_reducible refine S2.mono ?_); rintro e w' ⟨rfl, rfl⟩)  | ((with_reducible refine S3.mono ?_); rintro e w' ⟨rfl, rfl⟩))
  go_ret
  exact ⟨rfl, hb2⟩

theorem info_u8 : (Try.prog.info? 5).map (fun i => (i.zero, i.size, i.bytes)) = some (some (.int .u8 0), 1, 1) := by kernel_rfl

theorem next_at {s v : Int} {xs : List Int} {len : Nat} (h : 0 ≤ s) (h2 : s < 18446744073709551616) (hl : xs.length = len) (hl2 : len ≤ 100000) (hv : crcI s xs = v) :
    Hid (∀ w b cap, RowIn .u8 w b len cap xs → Calls Try.prog 11 #[.int .u64 s, .slice b len cap] w fun e w' => e = .returned (.tuple #[.int .u64 v, .int .i64 0]) ∧ w = w') := by
  intro w b cap r
  have X := next_any s b len cap xs w r h h2
  rw [nxN, nxE, if_pos (by omega), if_pos (by omega), hv] at X
  exact X
theorem sum_at {v : Int} {xs : List Int} {len : Nat} (hl : xs.length = len) (hl2 : len ≤ 100000) (hv : crcI 0 xs = v) :
    Hid (∀ w b cap, RowIn .u8 w b len cap xs → Calls Try.prog 10 #[.slice b len cap] w fun e w' => e = .returned (.tuple #[.int .u64 v, .int .i64 0]) ∧ w = w') := by
  intro w b cap r
  have X := sum_any b len cap xs w r
  rw [nxN, nxE, if_pos (by omega), if_pos (by omega), hv] at X
  exact X
end Go.Proofs.Ytpbignknpccpkaa.Wk

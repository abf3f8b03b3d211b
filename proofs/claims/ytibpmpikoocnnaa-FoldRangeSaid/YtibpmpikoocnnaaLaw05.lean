/- The laws of layer 5: the chapter's examples; what the law's own helper returns. -/
import Derived.Test.YtibpmpikoocnnaaRef05
namespace Go.Proofs.Ytibpmpikoocnnaa.Wk
open Go.Proofs Go.RowKit Go.Proofs.Ytibpmpikoocnnaa.Kit Go.Proofs.Ytibpmpikoocnnaa.M05 Go.Proofs.Ytibpmpikoocnnaa.Fo Go.Proofs.Ytibpmpikoocnnaa.R05
set_option linter.unusedVariables false

def exX : List Int := [0, -1, 1, -2, 2, 2147483647, -2147483648]
def exN : List Int := [0, 1, 2, 3, 4, 4294967294, 4294967295]

theorem ex_same : sameL (exX.map foldI) exN = true := by decide +kernel

set_option maxHeartbeats 4000000 in
theorem alive_any (w : World) : Calls Try.prog 12 #[] w fun e w' => e = .returned (.bool true) ∧ Below w.heap.size w w' := by
  have O1 := litMark (k := .i32) w 21 exX 7 #[.int .i32 0, .int .i32 (-1), .int .i32 1, .int .i32 (-2), .int .i32 2, .int .i32 2147483647, .int .i32 (-2147483648)] (0, 0) rfl rfl (by decide) (by decide +kernel)
  have S1 := all_any _ _ _ exX _ O1 (by omega)
  have hb1 := below1 w (.cells #[.int .i32 0, .int .i32 (-1), .int .i32 1, .int .i32 (-2), .int .i32 2, .int .i32 2147483647, .int .i32 (-2147483648)] 21)
  have L2 := fun w' => litMark (k := .u32) w' 29 exN 7 #[.int .u32 0, .int .u32 1, .int .u32 2, .int .u32 3, .int .u32 4, .int .u32 4294967294, .int .u32 4294967295] (0, 0) rfl rfl (by decide) (by decide +kernel)
  have hs := hid ex_same
  generalize exX.map foldI = ys at *
  generalize exN = zs at *
  clear O1
  go_enter Try.func12, Try.ntmps12
  go_wp2_with (first  | ((with_reducible refine S1.mono ?_); rintro e w1 ⟨a, rfl, hr, hb⟩; have S2 := same_any _ _ _ _ _ _ _ _ _ (hr.same (below1 w1 _)) (L2 w1); rw [hs.out] at S2; replace hb := hb1.trans (hb.mono hb1.size))  | ((with_reducible refine S2.mono ?_); rintro e w' ⟨rfl, q, rfl⟩))
  go_ret
  exact ⟨rfl, below_drewN (hb.trans ((below1 _ _).mono hb.size)) _⟩

theorem size_any (x : Int) (w : World) (h : -2147483648 ≤ x) (h2 : x ≤ 2147483647) :
    Calls Try.prog 20 #[.int .i32 x] w fun e w' => e = .returned (.int .i64 (sizeI x)) ∧ w = w' := by
  rcases (show 0 ≤ x ∨ x < 0 by omega) with g | g
  · rw [sizeI_pos g]
    have t : (x < 0) = False := eq_false (by omega)
    go_enter Try.func20, Try.ntmps20
    go_wp2
    go_ret
    exact ⟨rfl, rfl⟩
  · rw [sizeI_neg g]
    have t : (x < 0) = True := eq_true g
    go_enter Try.func20, Try.ntmps20
    go_wp2
    go_ret
    exact ⟨rfl, rfl⟩
end Go.Proofs.Ytibpmpikoocnnaa.Wk

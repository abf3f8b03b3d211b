/- What the functions of package fold return: walks of their Go text. -/
import Derived.Test.YtdblcfajejhbaaaProg
import Derived.Test.YtdblcfajejhbaaaKit2
import Derived.Test.YtdblcfajejhbaaaKit4
import Derived.Test.YtdblcfajejhbaaaMath05
import Derived.Shelf.Abstract
namespace Go.Proofs.Ytdblcfajejhbaaa.Fo
open Go.Proofs Go.RowKit Go.Proofs.Ytdblcfajejhbaaa.Kit Go.Proofs.Ytdblcfajejhbaaa.M05
set_option linter.unusedVariables false

theorem fold_any (x : Int) (w : World) (h : -2147483648 ≤ x) (h2 : x ≤ 2147483647) :
    Calls Try.prog 27 #[.int .i32 x] w fun e w' => e = .returned (.int .u32 (foldI x)) ∧ w = w' := by
  rcases (show 0 ≤ x ∨ x < 0 by omega) with g | g
  · rw [foldI_pos g]
    have t : (2 * x < 0) = False := eq_false (by omega)
    go_enter Try.func27, Try.ntmps27
    go_wp2
    go_ret
    exact ⟨rfl, rfl⟩
  · rw [foldI_neg g, show -2 * x - 1 = -(2 * x) - 1 by omega]
    have t : (2 * x < 0) = True := eq_true (by omega)
    go_enter Try.func27, Try.ntmps27
    go_wp2
    go_ret
    exact ⟨rfl, rfl⟩

theorem back_any (n : Int) (w : World) (h : 0 ≤ n) (h2 : n ≤ 4294967295) :
    Calls Try.prog 35 #[.int .u32 n] w fun e w' => e = .returned (.int .i32 (backI n)) ∧ w = w' := by
  rcases (show n % 2 = 0 ∨ n % 2 = 1 by omega) with g | g
  · rw [backI_even g]
    have t : (n % 2 = 0) = True := eq_true g
    go_enter Try.func35, Try.ntmps35
    go_wp2
    go_ret
    exact ⟨rfl, rfl⟩
  · rw [backI_odd g]
    have t : (n % 2 = 0) = False := eq_false (by omega)
    go_enter Try.func35, Try.ntmps35
    go_wp2
    go_ret
    exact ⟨rfl, rfl⟩

theorem info_u32 : (Try.prog.info? 56).map (fun i => (i.zero, i.size, i.bytes)) = some (some (.int .u32 0), 1, 4) := by kernel_rfl
theorem info_i32 : (Try.prog.info? 21).map (fun i => (i.zero, i.size, i.bytes)) = some (some (.int .i32 0), 1, 4) := by kernel_rfl




end Go.Proofs.Ytdblcfajejhbaaa.Fo

/- The laws of layer 2: the chapter's examples. -/
import Derived.Test.YtgeldckfpjalfaaRef02g
namespace Go.Proofs.Ytgeldckfpjalfaa.Wk
open Go.RowKit Go.Proofs.Ytgeldckfpjalfaa.Kit Go.Proofs.Ytgeldckfpjalfaa.M01 Go.Proofs.Ytgeldckfpjalfaa.M02 Go.Proofs.Ytgeldckfpjalfaa.Bt Go.Proofs.Ytgeldckfpjalfaa.R02
set_option linter.unusedVariables false

theorem isInt_small {n : Int} (h0 : -1000000 ≤ n) (h1 : n ≤ 1000000) : isInt n := by unfold isInt; omega

set_option maxHeartbeats 4000000 in
theorem alive_any (w : World) : Calls Try.prog 19 #[] w fun e w' => e = .returned (.bool true) ∧ Below w.heap.size w w' := by
  have P1 := put_any none 0 0 [] 0 5 3 w RowIn.nil (isInt_small (by decide) (by decide)) (by decide) (by decide) (isInt_small (by decide) (by decide))
  have P2 := fun a' cap' w' (hr : RowIn .u8 w' a' 1 cap' [5]) => put_any a' 1 cap' [5] 3 6 4 w' hr (isInt_small (by decide) (by decide)) (by decide) (by decide) (isInt_small (by decide) (by decide))
  have P3 := fun a' cap' w' (hr : RowIn .u8 w' a' 1 cap' [53]) => get_any a' 1 cap' [53] 7 2 4 w' hr (isInt_small (by decide) (by decide)) (isInt_small (by decide) (by decide)) (isInt_small (by decide) (by decide))
  rw [show putE [] 0 5 3 = 0 by decide +kernel, show putL [] 0 5 3 = [5] by decide +kernel, show putN [] 0 5 3 = 3 by decide +kernel] at P1
  rw [show putE [5] 3 6 4 = 0 by decide +kernel, show putL [5] 3 6 4 = [53] by decide +kernel, show putN [5] 3 6 4 = 7 by decide +kernel] at P2
  rw [show getE [53] 7 2 4 = 0 by decide +kernel, show getN [53] 7 2 4 = 13 by decide +kernel] at P3
  have hs : ((bstr [53]).toList == [53]) = true := by decide +kernel
  simp only [List.length_cons, List.length_nil, Nat.zero_add] at P1 P2 P3
  unfold bv at P1 P2 P3
  go_enter Try.func19, Try.ntmps19
  go_wp2_with (first  | ((with_reducible refine P1.mono ?_); rintro e w1 ⟨a1, q1, rfl, h1, hb1, -⟩)  | ((with_reducible refine (P2 _ _ _ (h1.same (below1 _ _))).mono ?_); rintro e w2 ⟨a2, q2, rfl, h2, hb2, -⟩)  | ((with_reducible refine (P3 _ _ _ (h2.same (below1 _ _))).mono ?_); rintro e w3 ⟨rfl, hb3⟩; obtain ⟨c0, c1, c2, c3⟩ := (Box2.of (blk1 w2 _)).below hb3 (by simp); have hc := (((h2.same (below1 _ _)).same hb3).rd.strD (P := Try.prog) 1 q2 rfl (src := 22) (dst := 9) Try.underlying22 Try.underlying5 Try.underlying9).1))
  go_ret
  have s1 := hb1.size
  have hB2 : Below w.heap.size w w2 := hb1.trans (((below1 w1 _).trans (hb2.mono (by simp))).mono s1)
  exact ⟨rfl, hB2.trans (((below1 w2 _).trans (hb3.mono (by simp))).mono hB2.size)⟩

set_option maxHeartbeats 4000000 in
theorem cut_low (v n : Int) (w : World) (hv : 0 ≤ v) (hv2 : v < 18446744073709551616) (h0 : 0 ≤ n) (h1 : n ≤ 1000) :
    Calls Try.prog 20 #[.int .u64 v, .int .i64 n] w fun e w' => e = .returned (.int .u64 (v % p2 (min n 64))) ∧ w = w' := by
  by_cases h : 64 ≤ n
  · have f1 : (64 ≤ n) = True := eq_true h
    rw [show min n 64 = 64 by omega, p2_64, Int.emod_eq_of_lt hv hv2]
    go_enter Try.func20, Try.ntmps20
    go_wp2
    go_ret
    exact ⟨rfl, rfl⟩
  · have f1 : (64 ≤ n) = False := eq_false h
    have hA := and_low v n hv hv2 h0
    rw [show min n.toNat 64 = n.toNat by omega] at hA
    rw [← hA]
    go_enter Try.func20, Try.ntmps20
    go_wp2
    go_ret
    exact ⟨rfl, rfl⟩
end Go.Proofs.Ytgeldckfpjalfaa.Wk

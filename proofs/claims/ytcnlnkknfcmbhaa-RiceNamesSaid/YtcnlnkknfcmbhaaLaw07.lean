/- The laws of layer 7: the chapter's examples. -/
import Derived.Test.YtcnlnkknfcmbhaaLaw06
import Derived.Test.YtcnlnkknfcmbhaaRef07b
namespace Go.Proofs.Ytcnlnkknfcmbhaa.Wk
open Go.Proofs Go.RowKit Go.Proofs.Ytcnlnkknfcmbhaa.Kit Go.Proofs.Ytcnlnkknfcmbhaa.M01 Go.Proofs.Ytcnlnkknfcmbhaa.M02 Go.Proofs.Ytcnlnkknfcmbhaa.M06 Go.Proofs.Ytcnlnkknfcmbhaa.M07 Go.Proofs.Ytcnlnkknfcmbhaa.Bt Go.Proofs.Ytcnlnkknfcmbhaa.R02 Go.Proofs.Ytcnlnkknfcmbhaa.Un Go.Proofs.Ytcnlnkknfcmbhaa.R06 Go.Proofs.Ytcnlnkknfcmbhaa.Ri Go.Proofs.Ytcnlnkknfcmbhaa.R07
set_option linter.unusedVariables false

theorem isU32_of {v : Int} (h : 0 ≤ v ∧ v ≤ 4294967295) : isU32 v := h

/-- What Write answers, nothing being there. -/
theorem rw_nil {v k : Int} (hv : isU32 v) (h0 : 0 ≤ k) (h1 : k ≤ 24) : rwE [] 0 v k = 0 ∧ rwL [] 0 v k = bl (cdS v k) (cdV v k) ∧ rwN [] 0 v k = cdS v k ∧ okB (bl (cdS v k) (cdV v k)) (cdS v k) = true ∧ val (bl (cdS v k) (cdV v k)) = cdV v k := by
  have hs := cdS_bd hv.1 h0 h1
  have hl := cd_bd hv.1 h0 h1
  have e : rwE [] 0 v k = 0 := by rw [rwE, if_pos ok_nil, if_neg (by omega), if_neg (by omega)]
  refine ⟨e, ?_, ?_, ok_bl (by omega) (by omega) hl.1 hl.2, val_bl (by omega) hl.1 hl.2⟩
  · rw [rwL, if_pos e, p2_zero, Int.mul_one, Int.zero_add, show val [] = 0 from rfl, Int.zero_add]
  · rw [rwN, if_pos e, Int.zero_add]

set_option maxHeartbeats 8000000 in
theorem alive7_any (w : World) : Calls Try.prog 14 #[] w fun e w' => e = .returned (.bool true) ∧ Below w.heap.size w w' := by
  have hP := fun w' => rwr_any none 0 0 [] 0 9 2 w' RowIn.nil (isInt_small (by decide) (by decide)) (by unfold isU32; omega) (isInt_small (by decide) (by decide))
  simp only [show rwE [] 0 9 2 = 0 by decide +kernel, show rwL [] 0 9 2 = [11] by decide +kernel, show rwN [] 0 9 2 = 5 by decide +kernel] at hP
  have hL1 := fun w' => rlen_any 47 0 w' (by unfold isU32; omega) (isInt_small (by decide) (by decide))
  simp only [show rlN 47 0 = 48 by decide +kernel, show rlE 0 = 0 by decide +kernel] at hL1
  have hL2 := fun w' => rlen_any 48 0 w' (by unfold isU32; omega) (isInt_small (by decide) (by decide))
  simp only [show rlN 48 0 = 80 by decide +kernel, show rlE 0 = 0 by decide +kernel] at hL2
  have hs1 : ((bstr [11]).toList == [11]) = true := by decide +kernel
  simp only [List.length_cons, List.length_nil, Nat.zero_add] at hP
  unfold bv at hP
  go_enter Try.func14, Try.ntmps14
  go_wp2_with (first | ((with_reducible refine (hP _ ).mono ?_); rintro e w1 ⟨a1, q1, rfl, h1, hb1, -⟩; have hB1 := hb1; have z1 := hb1.size; have Ry_1 := h1; have hc1 := ((Ry_1.same (below1 w1 (.cells #[.slice a1 1 q1, .int .i64 5] 28))).rd.strD (P := Try.prog) 1 q1 rfl (src := 26) (dst := 9) Try.underlying26 Try.underlying5 Try.underlying9).1) | (go_at_call 9; (with_reducible refine (hL1 _).mono ?_); rintro e wz ⟨rfl, rfl⟩) | (go_at_call 9; (with_reducible refine (hL2 _).mono ?_); rintro e wz ⟨rfl, rfl⟩))
  go_ret
  exact ⟨rfl, hB1.trans ((below1 w1 _).mono hB1.size)⟩
end Go.Proofs.Ytcnlnkknfcmbhaa.Wk

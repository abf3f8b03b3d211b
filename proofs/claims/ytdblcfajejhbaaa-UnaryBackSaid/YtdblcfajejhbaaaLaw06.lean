/- The laws of layer 6: the chapter's examples. -/
import Derived.Test.YtdblcfajejhbaaaRef06
namespace Go.Proofs.Ytdblcfajejhbaaa.Wk
open Go.Proofs Go.RowKit Go.Proofs.Ytdblcfajejhbaaa.Kit Go.Proofs.Ytdblcfajejhbaaa.M01 Go.Proofs.Ytdblcfajejhbaaa.M02 Go.Proofs.Ytdblcfajejhbaaa.M06 Go.Proofs.Ytdblcfajejhbaaa.Bt Go.Proofs.Ytdblcfajejhbaaa.R02 Go.Proofs.Ytdblcfajejhbaaa.Un Go.Proofs.Ytdblcfajejhbaaa.R06
set_option linter.unusedVariables false

theorem isInt_small {n : Int} (h0 : -1000000 ≤ n) (h1 : n ≤ 1000000) : isInt n := by unfold isInt; omega

/-- What Write answers, nothing being there. -/
theorem wr_nil {m : Int} (h0 : 0 ≤ m) (h1 : m ≤ 48) : wrE [] 0 m = 0 ∧ wrL [] 0 m = bl (runS m) (p2 m - 1) ∧ wrN [] 0 m = runS m ∧ okB (bl (runS m) (p2 m - 1)) (runS m) = true ∧ val (bl (runS m) (p2 m - 1)) = p2 m - 1 := by
  have hs := runS_bd h0 h1
  have hl := run_lt h0 h1
  have e : wrE [] 0 m = 0 := by rw [wrE, if_pos ok_nil, if_neg (by omega), if_neg (by omega)]
  refine ⟨e, ?_, ?_, ok_bl (by omega) (by omega) hl.1 hl.2, val_bl (by omega) hl.1 hl.2⟩
  · rw [wrL, if_pos e, p2_zero, Int.mul_one, Int.zero_add, show val [] = 0 from rfl, Int.zero_add]
  · rw [wrN, if_pos e, Int.zero_add]

theorem ones_mod {m k : Int} (h0 : 0 ≤ k) (h1 : k ≤ m) : (p2 m - 1) % p2 k = p2 k - 1 := by
  have hp := p2_pos k
  have e : p2 m - 1 = (p2 k - 1) + p2 k * (p2 (m - k) - 1) := by
    rw [Int.mul_sub, ← p2_add h0 (by omega), show k + (m - k) = m by omega]; omega
  rw [e, Int.add_mul_emod_self_left, Int.emod_eq_of_lt (by omega) (by omega)]

theorem runs_apart_lt {n m : Int} (h0 : 0 ≤ n) (h3 : m ≤ 48) (h : n < m) : (p2 n - 1) % p2 (min (runS n) (runS m)) ≠ (p2 m - 1) % p2 (min (runS n) (runS m)) := by
  have e : min (runS n) (runS m) = n + 1 := by
    have := runS_lt (n := n) (by omega)
    have h2 : n + 1 ≤ runS m := by unfold runS; split <;> omega
    omega
  have hp := p2_pos n
  have h2 : p2 (n + 1) = 2 * p2 n := by rw [p2_add h0 (by omega), show p2 1 = 2 from rfl, Int.mul_comm]
  have e1 : (p2 m - 1) % p2 (n + 1) = p2 (n + 1) - 1 := ones_mod (by omega) (by omega)
  have e2 : (p2 n - 1) % p2 (n + 1) = p2 n - 1 := Int.emod_eq_of_lt (by omega) (by omega)
  rw [e, e1, e2]
  omega

theorem runs_apart {n m : Int} (h0 : 0 ≤ n) (h1 : n ≤ 48) (h2 : 0 ≤ m) (h3 : m ≤ 48) (h : ¬ n = m) : (p2 n - 1) % p2 (min (runS n) (runS m)) ≠ (p2 m - 1) % p2 (min (runS n) (runS m)) := by
  rcases (show n < m ∨ m < n by omega) with g | g
  · exact runs_apart_lt h0 h3 g
  · have := runs_apart_lt h2 h1 g
    rw [Int.min_comm] at this
    exact this.symm

theorem bl_apart {S A B : Int} (h : 0 ≤ S) (hA : 0 ≤ A ∧ A < p2 S) (hB : 0 ≤ B ∧ B < p2 S) (hne : A ≠ B) : bl S A ≠ bl S B := by
  intro e
  have := congrArg val e
  rw [val_bl h hA.1 hA.2, val_bl h hB.1 hB.2] at this
  exact hne this

/-- Twin, as a slice that is handed on. -/
theorem twin_row (a : Option Addr) (len cap : Nat) (xs : List Int) (n : Int) (w : World) (hr : RowIn .u8 w a len cap xs) (hl : len ≤ 100000) :
    Calls Try.prog 17 #[bv a len cap n] w fun e w' => ∃ a' cap', e = .returned (bv a' len cap' n) ∧ RowIn .u8 w' a' len cap' xs ∧ Below w.heap.size w w' := by
  refine (twin_any a len cap xs n w hr hl).mono ?_
  rintro e w' ⟨v, rfl, ho, hb⟩
  obtain ⟨a', cap', rfl, h⟩ := ho.row hr.rd.2.2
  rw [hr.hl] at h ⊢
  exact ⟨a', cap', rfl, h, hb⟩

set_option maxHeartbeats 8000000 in
theorem alive_any (w : World) : Calls Try.prog 15 #[] w fun e w' => e = .returned (.bool true) ∧ Below w.heap.size w w' := by
  have hP0 := fun w' => write_any none 0 0 [] 0 0 w' RowIn.nil (isInt_small (by decide) (by decide)) (isInt_small (by decide) (by decide))
  simp only [show wrE [] 0 0 = 0 by decide +kernel, show wrL [] 0 0 = [0] by decide +kernel, show wrN [] 0 0 = 1 by decide +kernel] at hP0
  have hP1 := fun w' => write_any none 0 0 [] 0 3 w' RowIn.nil (isInt_small (by decide) (by decide)) (isInt_small (by decide) (by decide))
  simp only [show wrE [] 0 3 = 0 by decide +kernel, show wrL [] 0 3 = [7] by decide +kernel, show wrN [] 0 3 = 4 by decide +kernel] at hP1
  have hP2 := fun w' => write_any none 0 0 [] 0 48 w' RowIn.nil (isInt_small (by decide) (by decide)) (isInt_small (by decide) (by decide))
  simp only [show wrE [] 0 48 = 0 by decide +kernel, show wrL [] 0 48 = [255, 255, 255, 255, 255, 255] by decide +kernel, show wrN [] 0 48 = 48 by decide +kernel] at hP2
  have hP3 := fun w' => write_any none 0 0 [] 0 47 w' RowIn.nil (isInt_small (by decide) (by decide)) (isInt_small (by decide) (by decide))
  simp only [show wrE [] 0 47 = 0 by decide +kernel, show wrL [] 0 47 = [255, 255, 255, 255, 255, 127] by decide +kernel, show wrN [] 0 47 = 48 by decide +kernel] at hP3
  have hs1 : ((bstr [0]).toList == [0]) = true := by decide +kernel
  have hs2 : ((bstr [7]).toList == [7]) = true := by decide +kernel
  have hs3 : ((bstr [255, 255, 255, 255, 255, 255]).toList == [255, 255, 255, 255, 255, 255]) = true := by decide +kernel
  have hs4 : ((bstr [255, 255, 255, 255, 255, 127]).toList == [255, 255, 255, 255, 255, 127]) = true := by decide +kernel
  simp only [List.length_cons, List.length_nil, Nat.zero_add, Nat.reduceAdd] at hP0 hP1 hP2 hP3
  unfold bv at hP0 hP1 hP2 hP3
  go_enter Try.func15, Try.ntmps15
  go_wp2_with (first | ((with_reducible refine (hP0 _ ).mono ?_); rintro e w1 ⟨a1, q1, rfl, h1, hb1, -⟩; have hB1 := hb1; have z1 := hb1.size; have Ry0_1 := h1) | ((with_reducible refine (hP1 _ ).mono ?_); rintro e w2 ⟨a2, q2, rfl, h2, hb2, -⟩; rw [size1] at hb2; have hq2 := (below1 w1 _).trans (hb2.mono (Nat.le_succ _)); have z2 := hb2.size; rw [size1] at z2; have hB2 := hB1.trans (hq2.mono hB1.size); have Xy0_2 := (Box2.of (blk1 w1 _)).below hb2 (Nat.lt_succ_self _); have Ry0_2 := Ry0_1.same hq2; have Ry1_2 := h2; have cy00_2 := Xy0_2.c0; have cy01_2 := Xy0_2.c1; have ly0_2 : w1.heap.size < w2.heap.size := (by omega)) | ((with_reducible refine (hP2 _ ).mono ?_); rintro e w3 ⟨a3, q3, rfl, h3, hb3, -⟩; rw [size1] at hb3; have hq3 := (below1 w2 _).trans (hb3.mono (Nat.le_succ _)); have z3 := hb3.size; rw [size1] at z3; have hB3 := hB2.trans (hq3.mono hB2.size); have Xy0_3 := Xy0_2.below hq3 (by omega); have Xy1_3 := (Box2.of (blk1 w2 _)).below hb3 (Nat.lt_succ_self _); have Ry0_3 := Ry0_2.same hq3; have Ry1_3 := Ry1_2.same hq3; have Ry2_3 := h3; have cy00_3 := Xy0_3.c0; have cy01_3 := Xy0_3.c1; have ly0_3 : w1.heap.size < w3.heap.size := (by omega); have cy10_3 := Xy1_3.c0; have cy11_3 := Xy1_3.c1; have ly1_3 : w2.heap.size < w3.heap.size := (by omega); clear cy00_2 cy01_2 ly0_2) | ((with_reducible refine (hP3 _ ).mono ?_); rintro e w4 ⟨a4, q4, rfl, h4, hb4, -⟩; rw [size1] at hb4; have hq4 := (below1 w3 _).trans (hb4.mono (Nat.le_succ _)); have z4 := hb4.size; rw [size1] at z4; have hB4 := hB3.trans (hq4.mono hB3.size); have Xy0_4 := Xy0_3.below hq4 (by omega); have Xy1_4 := Xy1_3.below hq4 (by omega); have Xy2_4 := (Box2.of (blk1 w3 _)).below hb4 (Nat.lt_succ_self _); have Ry0_4 := Ry0_3.same hq4; have Ry1_4 := Ry1_3.same hq4; have Ry2_4 := Ry2_3.same hq4; have Ry3_4 := h4; have cy00_4 := Xy0_4.c0; have cy01_4 := Xy0_4.c1; have ly0_4 : w1.heap.size < w4.heap.size := (by omega); have cy10_4 := Xy1_4.c0; have cy11_4 := Xy1_4.c1; have ly1_4 : w2.heap.size < w4.heap.size := (by omega); have cy20_4 := Xy2_4.c0; have cy21_4 := Xy2_4.c1; have ly2_4 : w3.heap.size < w4.heap.size := (by omega); have hc1 := ((Ry0_4.same (below1 w4 (.cells #[.slice a4 6 q4, .int .i64 48] 27))).rd.strD (P := Try.prog) 1 q1 rfl (src := 25) (dst := 9) Try.underlying25 Try.underlying5 Try.underlying9).1; have hc2 := ((Ry1_4.same (below1 w4 (.cells #[.slice a4 6 q4, .int .i64 48] 27))).rd.strD (P := Try.prog) 1 q2 rfl (src := 25) (dst := 9) Try.underlying25 Try.underlying5 Try.underlying9).1; have hc3 := ((Ry2_4.same (below1 w4 (.cells #[.slice a4 6 q4, .int .i64 48] 27))).rd.strD (P := Try.prog) 6 q3 rfl (src := 25) (dst := 9) Try.underlying25 Try.underlying5 Try.underlying9).1; have hc4 := ((Ry3_4.same (below1 w4 (.cells #[.slice a4 6 q4, .int .i64 48] 27))).rd.strD (P := Try.prog) 6 q4 rfl (src := 25) (dst := 9) Try.underlying25 Try.underlying5 Try.underlying9).1; clear cy00_3 cy01_3 ly0_3 cy10_3 cy11_3 ly1_3))
  go_ret
  exact ⟨rfl, hB4.trans ((below1 w4 _).mono hB4.size)⟩
end Go.Proofs.Ytdblcfajejhbaaa.Wk

/- The laws of layer 10: the chapter's examples. -/
import Derived.Test.YtmnhepcnbdbhoaaResume3
import Derived.Test.YtmnhepcnbdbhoaaRef10
import Derived.Test.YtmnhepcnbdbhoaaLaw09
namespace Go.Proofs.Ytmnhepcnbdbhoaa.Wk
open Go.Proofs Go.RowKit Go.Proofs.Ytmnhepcnbdbhoaa.Kit Go.Proofs.Ytmnhepcnbdbhoaa.M01 Go.Proofs.Ytmnhepcnbdbhoaa.M02 Go.Proofs.Ytmnhepcnbdbhoaa.M05 Go.Proofs.Ytmnhepcnbdbhoaa.M06 Go.Proofs.Ytmnhepcnbdbhoaa.M07 Go.Proofs.Ytmnhepcnbdbhoaa.M08 Go.Proofs.Ytmnhepcnbdbhoaa.M10 Go.Proofs.Ytmnhepcnbdbhoaa.Bt Go.Proofs.Ytmnhepcnbdbhoaa.R02 Go.Proofs.Ytmnhepcnbdbhoaa.R10 Go.Proofs.Ytmnhepcnbdbhoaa.Rs
set_option linter.unusedVariables false
set_option linter.unusedSimpArgs false

theorem isR_st (m : Int) (h0 : 0 ≤ m) (h1 : m ≤ 4000) : isR ⟨m, stD, [], 0⟩ := (st_ok h0 h1).2
theorem al_1 : reE ⟨1, stD, [], 0⟩ [10] = 0 ∧ reV ⟨1, stD, [], 0⟩ [10] = [] := by decide +kernel
theorem al_2 : (reR ⟨1, stD, [], 0⟩ [10]).l = 1 ∧ (reR ⟨1, stD, [], 0⟩ [10]).n = 8 ∧ (reR ⟨1, stD, [], 0⟩ [10]).xs = [10] ∧ ((reR ⟨1, stD, [], 0⟩ [10]).d.a = 10 ∧ (reR ⟨1, stD, [], 0⟩ [10]).d.b = 10 ∧ (reR ⟨1, stD, [], 0⟩ [10]).d.s = 16384 ∧ (reR ⟨1, stD, [], 0⟩ [10]).d.t = 16384) := by decide +kernel
theorem al_3 : reE ⟨1, stD, [10], 8⟩ [0] = 0 ∧ reV ⟨1, stD, [10], 8⟩ [0] = [5] ∧ (reR ⟨1, stD, [10], 8⟩ [0]).l = 0 ∧ (reR ⟨1, stD, [10], 8⟩ [0]).n = 5 := by decide +kernel
theorem al_4 : reR ⟨1, stD, [], 0⟩ [10] = ⟨1, stD, [10], 8⟩ := by
  obtain ⟨h1, h2, h3, h4, h5, h6, h7⟩ := al_2
  generalize reR ⟨1, stD, [], 0⟩ [10] = s at *
  obtain ⟨l, ⟨a, b, c, d⟩, xs, n⟩ := s
  simp only at *
  subst h1 h2 h3 h4 h5 h6 h7
  rfl
theorem exB (x : Int) (hx : 0 ≤ x ∧ x < 256) (w : World) (g : Nat) (hg : g = w.heap.size) : RowIn .u8 (w.alloc (.cells #[.int .u8 x] 5)) (some ⟨g, 0, none⟩) 1 1 [x] := by
  subst hg; exact rowLit w _ [x] _ 1 rfl rfl (by unfold maxLen; simp) (by simp; exact wf_u8 hx.1 hx.2)
theorem exU (x : Int) (hx : isU x) (w : World) (g : Nat) (hg : g = w.heap.size) : RowIn .u32 (w.alloc (.cells #[.int .u32 x] 40)) (some ⟨g, 0, none⟩) 1 1 [x] := by
  subst hg; exact rowLit w _ [x] _ 1 rfl rfl (by unfold maxLen; simp) (M09.okV_wf (fun y hy => by simp at hy; subst hy; exact hx))

set_option maxRecDepth 4000 in
set_option maxHeartbeats 8000000 in
theorem alive10_any (w : World) : Calls Try.prog 14 #[] w fun e w' => e = .returned (.bool true) ∧ Below w.heap.size w w' := by
  have hS := fun w' => start10_any 1 w' (by unfold isInt; omega)
  rw [show rsE 1 = 0 from rfl, show rsR 1 = ⟨1, stD, [], 0⟩ from rfl] at hS
  have hF1 := fun w' g hg => feed_any none 0 0 ⟨1, stD, [], 0⟩ (some ⟨g, 0, none⟩) 1 1 [10] _ RowIn.nil (isR_st 1 (by omega) (by omega)) (exB 10 (by omega) w' g hg)
  rw [al_4, al_1.1, al_1.2] at hF1
  have i2 : isR ⟨1, stD, [10], 8⟩ := ⟨by decide, (isR_st 1 (by omega) (by omega)).2.1, fun x hx => by simp at hx; subst hx; omega, by decide⟩
  have hF2 := fun a q w' g hg (r : RowIn .u8 w' a 1 q [10]) => feed_any a 1 q ⟨1, stD, [10], 8⟩ (some ⟨g, 0, none⟩) 1 1 [0] _ (rowA r) i2 (exB 0 (by omega) w' g hg)
  obtain ⟨f1, f2, f3, f4⟩ := al_3
  rw [f1, f2] at hF2
  obtain ⟨S, hS2⟩ : ∃ S, reR ⟨1, stD, [10], 8⟩ [0] = S := ⟨_, rfl⟩
  rw [hS2] at hF2 f3 f4
  have hT := fun a q w' g hg (r : RowIn .u32 w' a 1 q [5]) => same9b a 1 q [5] (some ⟨g, 0, none⟩) 1 1 [5] _ (rowA r) (exU 5 (by unfold isU; omega) w' g hg)
  simp only [sameL_self] at hT
  obtain ⟨l, ⟨da, db, ds, dt⟩, xs, n⟩ := S
  simp only at f3 f4
  subst f3 f4
  unfold vR stD at hS hF1 hF2
  simp only [List.length_cons, List.length_nil, Nat.zero_add, Nat.reduceAdd] at hS hF1 hF2
  obtain ⟨k, hk⟩ : ∃ k, xs.length = k := ⟨_, rfl⟩
  rw [hk] at hF2
  clear hS2 f1 f2 i2 hk
  go_enter Try.func14, Try.ntmps14
  go_wp2_with (first  | (go_at_call 9; (with_reducible refine (hS _).mono ?_); rintro e w1 ⟨rfl, hb1⟩; have z1 := hb1.size; have hB1 := hb1)  | (go_at_call 10; (with_reducible refine (hF1 _ _ (size1 _ _).symm).mono ?_); rintro e w2 ⟨a1, c1, a2, c2, rfl, h1, h2, hb2, -, -⟩; rw [size2] at hb2; have z2 := hb2.size; rw [size2] at z2; have hB2 := hB1.trans (((below2 w1 _ _).trans (hb2.mono (by omega))).mono z1); clear hb2)  | (go_at_call 10; (with_reducible refine (hF2 _ _ _ _ (size1 _ _).symm (rowA h1)).mono ?_); rintro e w3 ⟨a3, c3, a4, c4, rfl, h3, h4, hb3, -, -⟩; have z3 := hb3.size; rw [size2] at hb3 z3; have K2 := (Box7.of (blk2a w2 _ _)).below hb3 (by omega); have hB3 := hB2.trans (((below2 w2 _ _).trans (hb3.mono (by omega))).mono (by omega)); obtain ⟨p0, p1, p2, p3, p4, p5, p6, -, -, -, -, -, -, -⟩ := K2; have l2 : w2.heap.size < w3.heap.size := (by omega); have l21 : w2.heap.size < w3.heap.size + 1 := (by omega); clear hb3)  | (go_at_call 13; (with_reducible refine (hT _ _ _ _ (size1 _ _).symm (rowA h4)).mono ?_); rintro e w4 ⟨rfl, hb4⟩; rw [size2] at hb4; have z4 := hb4.size; rw [size2] at z4; have K3 := (Box7.of (blk2a w3 _ _)).below hb4 (by omega); have hB4 := hB3.trans (((below2 w3 _ _).trans (hb4.mono (by omega))).mono (by omega)); obtain ⟨r0, r1, r2, r3, r4, r5, r6, -, -, -, -, -, -, -⟩ := K3))
  go_ret
  exact ⟨rfl, hB4⟩
end Go.Proofs.Ytmnhepcnbdbhoaa.Wk

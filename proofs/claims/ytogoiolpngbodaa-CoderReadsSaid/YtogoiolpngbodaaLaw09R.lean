/- The law CoderReads. -/
import Derived.Test.YtogoiolpngbodaaLaw09
namespace Go.Proofs.Ytogoiolpngbodaa.Wk
open Go.Proofs Go.RowKit Go.Proofs.Ytogoiolpngbodaa.Kit Go.Proofs.Ytogoiolpngbodaa.M01 Go.Proofs.Ytogoiolpngbodaa.M02 Go.Proofs.Ytogoiolpngbodaa.M05 Go.Proofs.Ytogoiolpngbodaa.M06 Go.Proofs.Ytogoiolpngbodaa.M07 Go.Proofs.Ytogoiolpngbodaa.M08 Go.Proofs.Ytogoiolpngbodaa.M09 Go.Proofs.Ytogoiolpngbodaa.Bt Go.Proofs.Ytogoiolpngbodaa.R02 Go.Proofs.Ytogoiolpngbodaa.Co Go.Proofs.Ytogoiolpngbodaa.R09
set_option linter.unusedVariables false
set_option linter.unusedSimpArgs false

set_option maxRecDepth 100000 in
set_option maxHeartbeats 8000000 in
theorem coderReads_walk (a00 : Option Addr) (l00 c00 : Nat) (x00 : List Int) (n01 : Int) (a1 : Int) (w : World) (r00 : RowIn .u8 w a00 l00 c00 x00) (b01 : -9223372036854775808 ≤ n01 ∧ n01 ≤ 9223372036854775807) (b1 : -9223372036854775808 ≤ a1 ∧ a1 ≤ 9223372036854775807) :
    Calls Try.prog 5 #[.agg #[.slice a00 l00 c00, .int .i64 n01], .int .i64 a1] w fun e w' => e = .returned (.bool true) ∧ Below w.heap.size w w' := by
  have hG := fun w' (r : RowIn .u8 w' a00 l00 c00 x00) => great_any a00 l00 c00 x00 n01 w' r
  unfold bv at hG
  cases hg : greatB l00
  rotate_left
  · simp only [hg] at hG
    clear hg
    go_enter Try.func5, Try.ntmps5
    go_wp2_with (first | ((with_reducible refine (hG _ (r00.same ((below1 w _)))).mono ?_); rintro e w1 ⟨rfl, hb1⟩; rw [size1] at hb1; have z1 := hb1.size; rw [size1] at z1; have hq1 : Below w.heap.size w w1 := (below1 w _).trans (hb1.mono (by omega)); have hB1 := hq1; have Xb_1 := (Box2.of (blk1 w _)).below hb1 (by omega); have cb0_1 := Xb_1.c0; have cb1_1 := Xb_1.c1; have lb_1 : w.heap.size < w1.heap.size := (by omega)))
    go_ret
    exact ⟨rfl, hB1⟩
  have hl : l00 ≤ 100000 := by
    unfold greatB at hg
    have := of_decide_eq_false hg
    omega
  simp only [hg] at hG
  have hT := fun w' (r : RowIn .u8 w' a00 l00 c00 x00) => twin_row a00 l00 c00 x00 n01 w' r hl
  have hD := fun a q w' (r : RowIn .u8 w' a l00 q x00) => dec9_any a l00 q x00 n01 a1 w' r b01 b1
  have hRD := fun w' (r : RowIn .u8 w' a00 l00 c00 x00) => rdec9_any a00 l00 c00 x00 n01 a1 w' r b01 b1
  obtain ⟨L, hL⟩ : ∃ L, deL x00 n01 a1 = L := ⟨_, rfl⟩
  obtain ⟨X, hX⟩ : ∃ L, deX x00 n01 a1 = L := ⟨_, rfl⟩
  obtain ⟨E, hE⟩ : ∃ L, M09.deE x00 n01 a1 = L := ⟨_, rfl⟩
  obtain ⟨lL, hlL⟩ : ∃ l, L.length = l := ⟨_, rfl⟩
  simp only [hL, hX, hE, hlL] at hD hRD
  have hS := fun a q a' q' w' (r : RowIn .u32 w' a lL q L) (r' : RowIn .u32 w' a' lL q' L) => same9b a lL q L a' lL q' L w' r r'
  simp only [sameL_self] at hS
  have hB := fun a q w' (r : RowIn .u8 w' a l00 q x00) (r' : RowIn .u8 w' a00 l00 c00 x00) => same_any a l00 q x00 n01 a00 l00 c00 x00 n01 w' r r'
  have es : sameB x00 n01 x00 n01 = true := by simp [sameB]
  simp only [es] at hB
  clear hL hX hE hlL es hg
  unfold bv at hT hD hRD hB
  go_enter Try.func5, Try.ntmps5
  go_wp2_with (first | ((with_reducible refine (hG _ (r00.same ((below1 w _)))).mono ?_); rintro e w1 ⟨rfl, hb1⟩; rw [size1] at hb1; have z1 := hb1.size; rw [size1] at z1; have hq1 : Below w.heap.size w w1 := (below1 w _).trans (hb1.mono (by omega)); have hB1 := hq1; have Xb_1 := (Box2.of (blk1 w _)).below hb1 (by omega); have cb0_1 := Xb_1.c0; have cb1_1 := Xb_1.c1; have lb_1 : w.heap.size < w1.heap.size := (by omega)) | ((with_reducible refine (hT _ (r00.same (hB1))).mono ?_); rintro e w2 ⟨a2, q2, rfl, h2, hb2⟩; have z2 := hb2.size; have hq2 : Below w1.heap.size w1 w2 := (Below.refl _ w1).trans (hb2.mono (by omega)); have hB2 := hB1.trans (hq2.mono hB1.size); have Xb_2 := Xb_1.below hq2 (by omega); have Rt_2 := h2; have cb0_2 := Xb_2.c0; have cb1_2 := Xb_2.c1; have lb_2 : w.heap.size < w2.heap.size := (by omega); clear cb0_1 cb1_1 lb_1 Xb_1) | ((with_reducible refine (hD _ _ _ (Rt_2.same (below1 w2 _))).mono ?_); rintro e w3 ⟨a3, q3, rfl, h3, hb3⟩; rw [size1] at hb3; have z3 := hb3.size; rw [size1] at z3; have hq3 : Below w2.heap.size w2 w3 := (below1 w2 _).trans (hb3.mono (by omega)); have hB3 := hB2.trans (hq3.mono hB2.size); have Xb_3 := Xb_2.below hq3 (by omega); have Xo_3 := (Box2.of (blk1 w2 _)).below hb3 (by omega); have Rt_3 := Rt_2.same hq3; have Rm_3 := h3; have cb0_3 := Xb_3.c0; have cb1_3 := Xb_3.c1; have lb_3 : w.heap.size < w3.heap.size := (by omega); have co0_3 := Xo_3.c0; have co1_3 := Xo_3.c1; have lo_3 : w2.heap.size < w3.heap.size := (by omega); clear cb0_2 cb1_2 lb_2 Xb_2) | ((with_reducible refine (hRD _ (r00.same (hB3))).mono ?_); rintro e w4 ⟨a4, q4, rfl, h4, hb4⟩; have z4 := hb4.size; have hq4 : Below w3.heap.size w3 w4 := (Below.refl _ w3).trans (hb4.mono (by omega)); have hB4 := hB3.trans (hq4.mono hB3.size); have Xb_4 := Xb_3.below hq4 (by omega); have Xo_4 := Xo_3.below hq4 (by omega); have Rt_4 := Rt_3.same hq4; have Rm_4 := Rm_3.same hq4; have Rk_4 := h4; have cb0_4 := Xb_4.c0; have cb1_4 := Xb_4.c1; have lb_4 : w.heap.size < w4.heap.size := (by omega); have co0_4 := Xo_4.c0; have co1_4 := Xo_4.c1; have lo_4 : w2.heap.size < w4.heap.size := (by omega); clear cb0_3 cb1_3 lb_3 Xb_3 co0_3 co1_3 lo_3 Xo_3) | ((with_reducible refine (hS _ _ _ _ _ Rm_4 Rk_4).mono ?_); rintro e w5 ⟨rfl, hb5⟩; have z5 := hb5.size; have hq5 : Below w4.heap.size w4 w5 := (Below.refl _ w4).trans (hb5.mono (by omega)); have hB5 := hB4.trans (hq5.mono hB4.size); have Xb_5 := Xb_4.below hq5 (by omega); have Xo_5 := Xo_4.below hq5 (by omega); have Rt_5 := Rt_4.same hq5; have Rm_5 := Rm_4.same hq5; have Rk_5 := Rk_4.same hq5; have cb0_5 := Xb_5.c0; have cb1_5 := Xb_5.c1; have lb_5 : w.heap.size < w5.heap.size := (by omega); have co0_5 := Xo_5.c0; have co1_5 := Xo_5.c1; have lo_5 : w2.heap.size < w5.heap.size := (by omega); clear cb0_4 cb1_4 lb_4 Xb_4 co0_4 co1_4 lo_4 Xo_4) | ((with_reducible refine (hB _ _ _ Rt_5 (r00.same (hB5))).mono ?_); rintro e w6 ⟨rfl, hb6⟩; have z6 := hb6.size; have hq6 : Below w5.heap.size w5 w6 := (Below.refl _ w5).trans (hb6.mono (by omega)); have hB6 := hB5.trans (hq6.mono hB5.size); have Xb_6 := Xb_5.below hq6 (by omega); have Xo_6 := Xo_5.below hq6 (by omega); have Rt_6 := Rt_5.same hq6; have Rm_6 := Rm_5.same hq6; have Rk_6 := Rk_5.same hq6; have cb0_6 := Xb_6.c0; have cb1_6 := Xb_6.c1; have lb_6 : w.heap.size < w6.heap.size := (by omega); have co0_6 := Xo_6.c0; have co1_6 := Xo_6.c1; have lo_6 : w2.heap.size < w6.heap.size := (by omega); clear cb0_5 cb1_5 lb_5 Xb_5 co0_5 co1_5 lo_5 Xo_5))
  go_ret
  exact ⟨rfl, hB6⟩
end Go.Proofs.Ytogoiolpngbodaa.Wk

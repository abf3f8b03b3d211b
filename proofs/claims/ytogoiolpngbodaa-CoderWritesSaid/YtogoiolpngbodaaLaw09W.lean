/- The law CoderWrites. -/
import Derived.Test.YtogoiolpngbodaaLaw09
namespace Go.Proofs.Ytogoiolpngbodaa.Wk
open Go.Proofs Go.RowKit Go.Proofs.Ytogoiolpngbodaa.Kit Go.Proofs.Ytogoiolpngbodaa.M01 Go.Proofs.Ytogoiolpngbodaa.M02 Go.Proofs.Ytogoiolpngbodaa.M05 Go.Proofs.Ytogoiolpngbodaa.M06 Go.Proofs.Ytogoiolpngbodaa.M07 Go.Proofs.Ytogoiolpngbodaa.M08 Go.Proofs.Ytogoiolpngbodaa.M09 Go.Proofs.Ytogoiolpngbodaa.Bt Go.Proofs.Ytogoiolpngbodaa.R02 Go.Proofs.Ytogoiolpngbodaa.Co Go.Proofs.Ytogoiolpngbodaa.R09
set_option linter.unusedVariables false
set_option linter.unusedSimpArgs false

theorem info9l_u32 : (Try.prog.info? 57).map (fun i => (i.zero, i.size, i.bytes)) = some (some (.int .u32 0), 1, 4) := by kernel_rfl

set_option maxRecDepth 100000 in
set_option maxHeartbeats 8000000 in
theorem coderWrites_walk (a0 : Option Addr) (l0 c0 : Nat) (x0 : List Int) (w : World) (r0 : RowIn .u32 w a0 l0 c0 x0) :
    Calls Try.prog 4 #[.slice a0 l0 c0] w fun e w' => e = .returned (.bool true) ∧ Below w.heap.size w w' := by
  have hG := fun w' (r : RowIn .u32 w' a0 l0 c0 x0) => great9_any a0 l0 c0 x0 w' r
  have h0 := r0.hl
  cases hg : great9 l0
  rotate_left
  · simp only [hg] at hG
    clear hg
    go_enter Try.func4, Try.ntmps4
    go_wp2_with ((with_reducible refine (hG _ r0).mono ?_); rintro e w1 ⟨rfl, rfl⟩)
    go_ret
    exact ⟨rfl, Below.refl _ _⟩
  have hl : l0 ≤ 4010 := by
    unfold great9 at hg
    simp at hg
    omega
  simp only [hg] at hG
  clear hg
  obtain ⟨i0, hi, hz0, hz1, hz2⟩ := info_parts info9l_u32
  have hE := fun a q w' (r : RowIn .u32 w' a l0 q x0) => enc_any a l0 q x0 w' r
  have hRE := fun w' (r : RowIn .u32 w' a0 l0 c0 x0) => renc_any a0 l0 c0 x0 w' r
  have hF := fun a q w' (r : RowIn .u32 w' a l0 q x0) => aft_any a l0 q x0 w' r
  have hRF := fun w' (r : RowIn .u32 w' a0 l0 c0 x0) => raft_any a0 l0 c0 x0 w' r
  obtain ⟨L, hL⟩ : ∃ L, enL x0 = L := ⟨_, rfl⟩
  obtain ⟨N, hN⟩ : ∃ L, enN x0 = L := ⟨_, rfl⟩
  obtain ⟨E, hEE⟩ : ∃ L, enE x0 = L := ⟨_, rfl⟩
  obtain ⟨D, hD⟩ : ∃ L, afD x0 = L := ⟨_, rfl⟩
  obtain ⟨lL, hlL⟩ : ∃ l, L.length = l := ⟨_, rfl⟩
  simp only [hL, hN, hEE, hlL] at hE hRE
  simp only [hEE, hD] at hF hRF
  obtain ⟨da, db, ds, dt⟩ := D
  have hS := fun a q a' q' w' (r : RowIn .u8 w' a lL q L) (r' : RowIn .u8 w' a' lL q' L) => same_any a lL q L N a' lL q' L N w' r r'
  have es : sameB L N L N = true := by simp [sameB]
  simp only [es] at hS
  have hT := fun a q w' (r : RowIn .u32 w' a l0 q x0) (r' : RowIn .u32 w' a0 l0 c0 x0) => same9b a l0 q x0 a0 l0 c0 x0 w' r r'
  simp only [sameL_self] at hT
  clear hL hN hEE hD hlL es
  unfold bv at hE hRE hS
  unfold Du.dv at hF hRF
  simp only at hF hRF
  have O1 : OwnI .u32 (w.alloc (.cells #[] 57)) w.heap.size 57 (.slice (some ⟨w.heap.size, 0, none⟩) 0 0) [] := OwnI.lit w w.heap.size 57 [] (Nat.le_refl _) (by simp)
  go_enter Try.func4, Try.ntmps4
  go_wp2_with (first | ((with_reducible refine (hG _ r0).mono ?_); rintro e w1 ⟨rfl, rfl⟩) | (at_builtin; refine appN rfl _ _ 28 rfl w.heap.size 57 i0 (.int .u32 0) 4 Try.underlying28 hi hz0 hz1 hz2 rfl .u32 _ _ O1 a0 l0 c0 x0 (r0.same (below1 _ _)).rd h0 rfl rfl (by simp) (by simp; omega) (by simp; omega) ?_; intro v' wa hown hgr hbw; replace hbw := (below1 w _).trans hbw; rw [List.nil_append] at hown; obtain ⟨ao, co, rfl, ro⟩ := hown.row r0.rd.2.2; simp only [h0] at ro ⊢; have r0a := r0.same hbw))
  clear hgr hown O1 hG
  go_wp2_with (first | ((with_reducible refine (hE _ _ _ (ro.same ((Below.refl _ wa)))).mono ?_); rintro e w1 ⟨a1, q1, rfl, h1, hb1, -⟩; have z1 := hb1.size; have hq1 : Below wa.heap.size wa w1 := (Below.refl _ wa).trans (hb1.mono (by omega)); have hB1 := hq1; have Ra_1 := h1) | ((with_reducible refine (hRE _ (r0a.same (hB1.trans ((below1 w1 _).mono hB1.size)))).mono ?_); rintro e w2 ⟨a2, q2, rfl, h2, hb2⟩; rw [size1] at hb2; have z2 := hb2.size; rw [size1] at z2; have hq2 : Below w1.heap.size w1 w2 := (below1 w1 _).trans (hb2.mono (by omega)); have hB2 := hB1.trans (hq2.mono hB1.size); have Xa_2 := (Box2.of (blk1 w1 _)).below hb2 (by omega); have Ra_2 := Ra_1.same hq2; have Rb_2 := h2; have ca0_2 := Xa_2.c0; have ca1_2 := Xa_2.c1; have la_2 : w1.heap.size < w2.heap.size := (by omega)) | ((with_reducible refine (hF _ _ _ (ro.same (hB2.trans ((below1 w2 _).mono hB2.size)))).mono ?_); rintro e w3 ⟨rfl, hb3⟩; rw [size1] at hb3; have z3 := hb3.size; rw [size1] at z3; have hq3 : Below w2.heap.size w2 w3 := (below1 w2 _).trans (hb3.mono (by omega)); have hB3 := hB2.trans (hq3.mono hB2.size); have Xa_3 := Xa_2.below hq3 (by omega); have Xb_3 := (Box2.of (blk1 w2 _)).below hb3 (by omega); have Ra_3 := Ra_2.same hq3; have Rb_3 := Rb_2.same hq3; have ca0_3 := Xa_3.c0; have ca1_3 := Xa_3.c1; have la_3 : w1.heap.size < w3.heap.size := (by omega); have cb0_3 := Xb_3.c0; have cb1_3 := Xb_3.c1; have lb_3 : w2.heap.size < w3.heap.size := (by omega); clear ca0_2 ca1_2 la_2 Xa_2) | ((with_reducible refine (hRF _ (r0a.same (hB3.trans ((below1 w3 _).mono hB3.size)))).mono ?_); rintro e w4 ⟨rfl, hb4⟩; rw [size1] at hb4; have z4 := hb4.size; rw [size1] at z4; have hq4 : Below w3.heap.size w3 w4 := (below1 w3 _).trans (hb4.mono (by omega)); have hB4 := hB3.trans (hq4.mono hB3.size); have Xa_4 := Xa_3.below hq4 (by omega); have Xb_4 := Xb_3.below hq4 (by omega); have Xx_4 := (Box4.of (blk1 w3 _)).below hb4 (by omega); have Ra_4 := Ra_3.same hq4; have Rb_4 := Rb_3.same hq4; have ca0_4 := Xa_4.c0; have ca1_4 := Xa_4.c1; have la_4 : w1.heap.size < w4.heap.size := (by omega); have cb0_4 := Xb_4.c0; have cb1_4 := Xb_4.c1; have lb_4 : w2.heap.size < w4.heap.size := (by omega); have cx0_4 := Xx_4.c0; have cx1_4 := Xx_4.c1; have cx2_4 := Xx_4.c2; have cx3_4 := Xx_4.c3; have lx_4 : w3.heap.size < w4.heap.size := (by omega); clear ca0_3 ca1_3 la_3 Xa_3 cb0_3 cb1_3 lb_3 Xb_3) | ((with_reducible refine (hS _ _ _ _ _ (Ra_4.same (below1 w4 _)) (Rb_4.same (below1 w4 _))).mono ?_); rintro e w5 ⟨rfl, hb5⟩; rw [size1] at hb5; have z5 := hb5.size; rw [size1] at z5; have hq5 : Below w4.heap.size w4 w5 := (below1 w4 _).trans (hb5.mono (by omega)); have hB5 := hB4.trans (hq5.mono hB4.size); have Xa_5 := Xa_4.below hq5 (by omega); have Xb_5 := Xb_4.below hq5 (by omega); have Xx_5 := Xx_4.below hq5 (by omega); have Xy_5 := (Box4.of (blk1 w4 _)).below hb5 (by omega); have Ra_5 := Ra_4.same hq5; have Rb_5 := Rb_4.same hq5; have ca0_5 := Xa_5.c0; have ca1_5 := Xa_5.c1; have la_5 : w1.heap.size < w5.heap.size := (by omega); have cb0_5 := Xb_5.c0; have cb1_5 := Xb_5.c1; have lb_5 : w2.heap.size < w5.heap.size := (by omega); have cx0_5 := Xx_5.c0; have cx1_5 := Xx_5.c1; have cx2_5 := Xx_5.c2; have cx3_5 := Xx_5.c3; have lx_5 : w3.heap.size < w5.heap.size := (by omega); have cy0_5 := Xy_5.c0; have cy1_5 := Xy_5.c1; have cy2_5 := Xy_5.c2; have cy3_5 := Xy_5.c3; have ly_5 : w4.heap.size < w5.heap.size := (by omega); clear ca0_4 ca1_4 la_4 Xa_4 cb0_4 cb1_4 lb_4 Xb_4 cx0_4 cx1_4 cx2_4 cx3_4 lx_4 Xx_4) | ((with_reducible refine (hT _ _ _ (ro.same (hB5)) (r0a.same (hB5))).mono ?_); rintro e w6 ⟨rfl, hb6⟩; have z6 := hb6.size; have hq6 : Below w5.heap.size w5 w6 := (Below.refl _ w5).trans (hb6.mono (by omega)); have hB6 := hB5.trans (hq6.mono hB5.size); have Xa_6 := Xa_5.below hq6 (by omega); have Xb_6 := Xb_5.below hq6 (by omega); have Xx_6 := Xx_5.below hq6 (by omega); have Xy_6 := Xy_5.below hq6 (by omega); have Ra_6 := Ra_5.same hq6; have Rb_6 := Rb_5.same hq6; have ca0_6 := Xa_6.c0; have ca1_6 := Xa_6.c1; have la_6 : w1.heap.size < w6.heap.size := (by omega); have cb0_6 := Xb_6.c0; have cb1_6 := Xb_6.c1; have lb_6 : w2.heap.size < w6.heap.size := (by omega); have cx0_6 := Xx_6.c0; have cx1_6 := Xx_6.c1; have cx2_6 := Xx_6.c2; have cx3_6 := Xx_6.c3; have lx_6 : w3.heap.size < w6.heap.size := (by omega); have cy0_6 := Xy_6.c0; have cy1_6 := Xy_6.c1; have cy2_6 := Xy_6.c2; have cy3_6 := Xy_6.c3; have ly_6 : w4.heap.size < w6.heap.size := (by omega); clear ca0_5 ca1_5 la_5 Xa_5 cb0_5 cb1_5 lb_5 Xb_5 cx0_5 cx1_5 cx2_5 cx3_5 lx_5 Xx_5 cy0_5 cy1_5 cy2_5 cy3_5 ly_5 Xy_5))
  go_ret
  exact ⟨rfl, hbw.trans (hB6.mono hbw.size)⟩
end Go.Proofs.Ytogoiolpngbodaa.Wk

/- The law CoderNames. -/
import Derived.Test.YtogoiolpngbodaaLaw09
import Derived.Test.YtogoiolpngbodaaGB
import Derived.Deep.RegionHeld3
namespace Go.Proofs.Ytogoiolpngbodaa.Wk
open Go.Proofs Go.RowKit Go.Proofs.Ytogoiolpngbodaa.Kit Go.Proofs.Ytogoiolpngbodaa.M01 Go.Proofs.Ytogoiolpngbodaa.M02 Go.Proofs.Ytogoiolpngbodaa.M05 Go.Proofs.Ytogoiolpngbodaa.M06 Go.Proofs.Ytogoiolpngbodaa.M07 Go.Proofs.Ytogoiolpngbodaa.M08 Go.Proofs.Ytogoiolpngbodaa.M09 Go.Proofs.Ytogoiolpngbodaa.Bt Go.Proofs.Ytogoiolpngbodaa.R02 Go.Proofs.Ytogoiolpngbodaa.Co Go.Proofs.Ytogoiolpngbodaa.R09
set_option linter.unusedVariables false
set_option linter.unusedSimpArgs false
attribute [local irreducible] wpStill

theorem info9n_u32 : (Try.prog.info? 57).map (fun i => (i.zero, i.size, i.bytes)) = some (some (.int .u32 0), 1, 4) := by kernel_rfl
def n49 : List Int := [255, 255, 255, 255, 255, 255, 1]
def n81 : List Int := [255, 255, 255, 255, 255, 255, 11, 0, 0, 0, 0]

set_option maxRecDepth 100000 in
set_option maxHeartbeats 8000000 in
theorem coderNames_walk (w : World)  :
    Calls Try.prog 3 #[] w fun e w' => e = .returned (.bool true) ∧ Below w.heap.size w w' := by
  obtain ⟨nn, hnn⟩ : ∃ n : Nat, n = 4001 := ⟨_, rfl⟩
  have hnb : nn ≤ 5000 := by omega
  have HN := hid hnn
  obtain ⟨i0, hi, hz0, hz1, hz2⟩ := info_parts info9n_u32
  have zwf : ∀ x ∈ List.replicate nn (0 : Int), (Lit.int .u32 x).wf = true := by intro x hx; rw [(List.mem_replicate.1 hx).2]; decide
  obtain ⟨m1, m2, m3, m4⟩ := c_en_many (l := List.replicate nn (0 : Int)) (by rw [List.length_replicate]; omega)
  have hE1 := fun a w' (r : RowIn .u32 w' a nn nn (List.replicate nn 0)) => enc_any a nn nn _ w' r
  have hF1 := fun a w' (r : RowIn .u32 w' a nn nn (List.replicate nn 0)) => aft_any a nn nn _ w' r
  simp only [m1, m2, m3, List.length_nil] at hE1
  simp only [m1, m4] at hF1
  have hD1 := fun w' => dec9_any none 0 0 [] 1 (-1) w' RowIn.nil (isInt_small (by decide) (by decide)) (isInt_small (by decide) (by decide))
  simp only [show M09.deE [] 1 (-1) = 8 by decide +kernel, show deX [] 1 (-1) = 0 by decide +kernel, show deL [] 1 (-1) = [] by decide +kernel, List.length_nil] at hD1
  have hD2 := fun w' => dec9_any none 0 0 [] 0 (-1) w' RowIn.nil (isInt_small (by decide) (by decide)) (isInt_small (by decide) (by decide))
  simp only [show M09.deE [] 0 (-1) = 2 by decide +kernel, show deX [] 0 (-1) = 0 by decide +kernel, show deL [] 0 (-1) = [] by decide +kernel, List.length_nil] at hD2
  have hD3 := fun w' => dec9_any none 0 0 [] 0 4001 w' RowIn.nil (isInt_small (by decide) (by decide)) (isInt_small (by decide) (by decide))
  simp only [show M09.deE [] 0 4001 = 4 by decide +kernel, show deX [] 0 4001 = 0 by decide +kernel, show deL [] 0 4001 = [] by decide +kernel, List.length_nil] at hD3
  have hD4 := fun w' => dec9_any none 0 0 [] 0 1 w' RowIn.nil (isInt_small (by decide) (by decide)) (isInt_small (by decide) (by decide))
  simp only [show M09.deE [] 0 1 = 24 by decide +kernel, show deX [] 0 1 = 0 by decide +kernel, show deL [] 0 1 = [] by decide +kernel, List.length_nil] at hD4
  have hD5 := fun w' => dec9_any none 0 0 [] 0 0 w' RowIn.nil (isInt_small (by decide) (by decide)) (isInt_small (by decide) (by decide))
  simp only [show M09.deE [] 0 0 = 0 by decide +kernel, show deX [] 0 0 = 0 by decide +kernel, show deL [] 0 0 = [] by decide +kernel, List.length_nil] at hD5
  have hEn := fun w' => enc_any none 0 0 [] w' RowIn.nil
  simp only [show enE [] = 0 by decide +kernel, show enN [] = 0 by decide +kernel, show enL [] = [] by decide +kernel, List.length_nil] at hEn
  have hFn := fun w' => aft_any none 0 0 [] w' RowIn.nil
  simp only [show enE [] = 0 by decide +kernel, show afD [] = stD from rfl] at hFn
  have hP1 := fun w' => put_any none 0 0 [] 0 562949953421311 49 w' RowIn.nil (isInt_small (by decide) (by decide)) (by decide) (by decide) (isInt_small (by decide) (by decide))
  simp only [show putE [] 0 562949953421311 49 = 0 by decide +kernel, show putL [] 0 562949953421311 49 = n49 by decide +kernel, show putN [] 0 562949953421311 49 = 49 by decide +kernel, show n49.length = 7 from rfl] at hP1
  have hP2 := fun a q w' (r : RowIn .u8 w' a 7 q n49) => put_any a 7 q n49 49 5 32 w' r (isInt_small (by decide) (by decide)) (by decide) (by decide) (isInt_small (by decide) (by decide))
  simp only [show putE n49 49 5 32 = 0 by decide +kernel, show putL n49 49 5 32 = n81 by decide +kernel, show putN n49 49 5 32 = 81 by decide +kernel, show n81.length = 11 from rfl] at hP2
  have hD6 := fun a q w' (r : RowIn .u8 w' a 11 q n81) => dec9_any a 11 q n81 81 1 w' r (isInt_small (by decide) (by decide)) (isInt_small (by decide) (by decide))
  simp only [show M09.deE n81 81 1 = 12 by decide +kernel, show deX n81 81 1 = 0 by decide +kernel, show deL n81 81 1 = [] by decide +kernel, List.length_nil] at hD6
  have hSt := fun w' => Du.start_any w'
  unfold bv at hE1 hD1 hD2 hD3 hD4 hD5 hEn hP1 hP2 hD6
  unfold Du.dv at hF1 hFn hSt
  unfold zD at hF1
  unfold stD at hFn hSt
  simp only at hF1 hFn hSt
  clear m1 m2 m3 m4 hnn
  go_enter Try.func3, Try.ntmps3
  go_wp2_with (first | (at_make; refine makeI (w := w) rfl _ _ 28 rfl w.heap.size 57 i0 4 .u32 Try.underlying28 hi hz0 hz1 hz2 _ nn (by have t := HN.out; omega) rfl rfl (by omega) (by omega) (Nat.le_refl _) ?_; intro w1 hown1 hgr1 hbm hsz; have rz := hown1.rowLit zwf; have hB1 : Below w.heap.size w w1 := hbm) | ((with_reducible refine (hE1 _ _ rz).mono ?_); rintro e w2 ⟨a2, q2, rfl, -, hb2, -⟩; have hB2 : Below w.heap.size w w2 := hB1.trans (hb2.mono hB1.size)) | (at_make; refine makeI (w := w2.alloc (.cells #[.slice a2 0 q2, .int .i64 0] 24)) rfl _ _ 28 rfl w2.heap.size 57 i0 4 .u32 Try.underlying28 hi hz0 hz1 hz2 _ nn (by have t := HN.out; omega) rfl rfl (by omega) (by omega) (by simp) ?_; intro w3 hown3 hgr3 hbm3 hsz3; have rz3 := hown3.rowLit zwf; rw [size1] at rz3; have hB3 : Below w.heap.size w w3 := (bA hB2 hB2.size).trans (hbm3.mono (by rw [size1]; have := hB2.size; omega))) | ((with_reducible refine (hF1 _ _ rz3).mono ?_); rintro e w4 ⟨rfl, hb4⟩; have hB4 : Below w.heap.size w w4 := hB3.trans (hb4.mono hB3.size)))
  have hBu := bA (o := (.cells #[.int .i64 0, .int .i64 0, .int .u64 0, .int .u64 0] 31)) hB4 hB4.size
  generalize w4.alloc (.cells #[.int .i64 0, .int .i64 0, .int .u64 0, .int .u64 0] 31) = u at *
  generalize w4.heap.size = G4 at *
  clear hB1 hB2 hB3 hB4 hb2 hb4 hbm hbm3 hown1 hown3 hgr1 hgr3 hsz hsz3 rz rz3 hE1 hF1 zwf
  go_wp2_with (first | ((with_reducible refine (hD1 _ ).mono ?_); rintro e w1 ⟨a1, q1, rfl, h1, hb1⟩; have z1 := hb1.size; have hq1 : Below u.heap.size u w1 := (Below.refl _ u).trans (hb1.mono (by omega)); have hB1 := hq1) | ((with_reducible refine (hD2 _ ).mono ?_); rintro e w2 ⟨a2, q2, rfl, h2, hb2⟩; have z2 := hb2.size; have hq2 : Below w1.heap.size w1 w2 := (Below.refl _ w1).trans (hb2.mono (by omega)); have hB2 := hB1.trans (hq2.mono hB1.size)) | ((with_reducible refine (hD3 _ ).mono ?_); rintro e w3 ⟨a3, q3, rfl, h3, hb3⟩; have z3 := hb3.size; have hq3 : Below w2.heap.size w2 w3 := (Below.refl _ w2).trans (hb3.mono (by omega)); have hB3 := hB2.trans (hq3.mono hB2.size)) | ((with_reducible refine (hD4 _ ).mono ?_); rintro e w4 ⟨a4, q4, rfl, h4, hb4⟩; have z4 := hb4.size; have hq4 : Below w3.heap.size w3 w4 := (Below.refl _ w3).trans (hb4.mono (by omega)); have hB4 := hB3.trans (hq4.mono hB3.size)) | ((with_reducible refine (hD5 _ ).mono ?_); rintro e w5 ⟨a5, q5, rfl, h5, hb5⟩; have z5 := hb5.size; have hq5 : Below w4.heap.size w4 w5 := (Below.refl _ w4).trans (hb5.mono (by omega)); have hB5 := hB4.trans (hq5.mono hB4.size)) | ((with_reducible refine (hEn _ ).mono ?_); rintro e w6 ⟨a6, q6, rfl, h6, hb6, -⟩; have z6 := hb6.size; have hq6 : Below w5.heap.size w5 w6 := (Below.refl _ w5).trans (hb6.mono (by omega)); have hB6 := hB5.trans (hq6.mono hB5.size)) | ((with_reducible refine (hFn _ ).mono ?_); rintro e w7 ⟨rfl, hb7⟩; rw [size1] at hb7; have z7 := hb7.size; rw [size1] at z7; have hq7 : Below w6.heap.size w6 w7 := (below1 w6 _).trans (hb7.mono (by omega)); have hB7 := hB6.trans (hq7.mono hB6.size); have Xe_7 := (Box2.of (blk1 w6 _)).below hb7 (by omega); have ce0_7 := Xe_7.c0; have ce1_7 := Xe_7.c1; have le_7 : w6.heap.size < w7.heap.size := (by omega)) | ((with_reducible refine (hP1 _ ).mono ?_); rintro e w8 ⟨a8, q8, rfl, h8, hb8, -⟩; rw [size1] at hb8; have z8 := hb8.size; rw [size1] at z8; have hq8 : Below w7.heap.size w7 w8 := (below1 w7 _).trans (hb8.mono (by omega)); have hB8 := hB7.trans (hq8.mono hB7.size); have Xe_8 := Xe_7.below hq8 (by omega); have Xf_8 := (Box4.of (blk1 w7 _)).below hb8 (by omega); have Rp_8 := h8; have ce0_8 := Xe_8.c0; have ce1_8 := Xe_8.c1; have le_8 : w6.heap.size < w8.heap.size := (by omega); have cf0_8 := Xf_8.c0; have cf1_8 := Xf_8.c1; have cf2_8 := Xf_8.c2; have cf3_8 := Xf_8.c3; have lf_8 : w7.heap.size < w8.heap.size := (by omega); clear ce0_7 ce1_7 le_7 Xe_7) | ((with_reducible refine (hP2 _ _ _ (Rp_8.same (below1 w8 _))).mono ?_); rintro e w9 ⟨a9, q9, rfl, h9, hb9, hfq⟩; rw [size1] at hb9; have z9 := hb9.size; rw [size1] at z9; have hq9 : Below w8.heap.size w8 w9 := (below1 w8 _).trans (hb9.mono (by omega)); have hB9 := hB8.trans (hq9.mono hB8.size); have Xe_9 := Xe_8.below hq9 (by omega); have Xf_9 := Xf_8.below hq9 (by omega); have Xw_9 := (Box2.of (blk1 w8 _)).below hb9 (by omega); have Rp_9 := Rp_8.same hq9; have Rq_9 := h9; have ce0_9 := Xe_9.c0; have ce1_9 := Xe_9.c1; have le_9 : w6.heap.size < w9.heap.size := (by omega); have cf0_9 := Xf_9.c0; have cf1_9 := Xf_9.c1; have cf2_9 := Xf_9.c2; have cf3_9 := Xf_9.c3; have lf_9 : w7.heap.size < w9.heap.size := (by omega); have cw0_9 := Xw_9.c0; have cw1_9 := Xw_9.c1; have lw_9 : w8.heap.size < w9.heap.size := (by omega); clear ce0_8 ce1_8 le_8 Xe_8 cf0_8 cf1_8 cf2_8 cf3_8 lf_8 Xf_8; have wf0 := Xw_9.f0; have wf1 := Xw_9.f1))
  have Yw := Xw_9.put (.slice a9 11 q9) (.int .i64 81)
  have Ye := (Xe_9.set (g' := w8.heap.size) (i := 0) (x := .slice a9 11 q9) (by omega)).set (g' := w8.heap.size) (i := 1) (x := .int .i64 81) (by omega)
  have Yf := (Xf_9.set (g' := w8.heap.size) (i := 0) (x := .slice a9 11 q9) (by omega)).set (g' := w8.heap.size) (i := 1) (x := .int .i64 81) (by omega)
  have Rq := rowK (g := w8.heap.size) (i := 1) (u := .int .i64 81) (rowK (g := w8.heap.size) (i := 0) (u := .slice a9 11 q9) Rq_9 (fun _ x hx => by have t : (w8.alloc _).heap.size ≤ x.block := hfq x hx; rw [size1] at t; omega)) (fun _ x hx => by have t : (w8.alloc _).heap.size ≤ x.block := hfq x hx; rw [size1] at t; omega)
  have hB10 := Below.set2 ((hBu.trans (hB9.mono hBu.size))) (show w.heap.size ≤ w8.heap.size by have := hBu.size; have := hB8.size; omega) (.slice a9 11 q9) (.int .i64 81)
  have lw := box2_lt Yw
  have le := box2_lt Ye
  have lf := Yf.lt
  generalize ((w9.setCell ⟨w8.heap.size, 0, none⟩ (.slice a9 11 q9)).setCell ⟨w8.heap.size, 1, none⟩ (.int .i64 81)) = y at *
  generalize w8.heap.size = W at *
  generalize w7.heap.size = F at *
  generalize w6.heap.size = E at *
  obtain ⟨y0, y1, -, -⟩ := Yw
  obtain ⟨e0, e1, -, -⟩ := Ye
  obtain ⟨f0, f1, f2, f3, -, -, -, -⟩ := Yf
  clear Xw_9 Xe_9 Xf_9 Rq_9 hfq wf0 wf1 cw0_9 cw1_9 ce0_9 ce1_9 cf0_9 cf1_9 cf2_9 cf3_9
  go_wp2_with ((with_reducible refine (hD6 _ _ _ Rq).mono ?_); rintro e v1 ⟨b1, p1, rfl, -, hb1⟩; have z1 := hb1.size; have e1' := cell_below e1 hb1 le; have f0' := cell_below f0 hb1 lf; have f1' := cell_below f1 hb1 lf; have f2' := cell_below f2 hb1 lf; have f3' := cell_below f3 hb1 lf; have le' : E < v1.heap.size := (by omega); have lf' : F < v1.heap.size := (by omega); have hV1 := hB10.trans (hb1.mono hB10.size))
  simp only [List.append_eq, List.cons_append, List.nil_append]
  go_region_held3 (fun w' => w'.cell? ⟨F, 0, none⟩ = some (.int .i64 10) ∧ w'.cell? ⟨F, 1, none⟩ = some (.int .i64 10) ∧ w'.cell? ⟨F, 2, none⟩ = some (.int .u64 16384) ∧ w'.cell? ⟨F, 3, none⟩ = some (.int .u64 16384) ∧ w'.cell? ⟨E, 1, none⟩ = some (.int .i64 0)) (first | (simp only [kD, k0, k1, k2, k3, k4, and_self]; done) | (simp only [kD, g0, g1, g2, g3, g4, and_self]; done) | (simp only [kD, f0', f1', f2', f3', e1', and_self]; done)) (first | (go_at_call 15; (with_reducible refine (hSt _).mono ?_); rintro e v2 ⟨rfl, hb2⟩; have hbq : Below v1.heap.size v1 v2 := (Below.refl v1.heap.size v1).drew.trans hb2; have hV2 := hV1.trans (hbq.mono hV1.size); have lf2 : F < v2.heap.size := Nat.lt_of_lt_of_le lf' hbq.size; have le2 : E < v2.heap.size := Nat.lt_of_lt_of_le le' hbq.size; have g0 := cell_below f0' hbq lf'; have g1 := cell_below f1' hbq lf'; have g2 := cell_below f2' hbq lf'; have g3 := cell_below f3' hbq lf'; have g4 := cell_below e1' hbq le') | (go_at_call 16; (with_reducible refine (alive9_any _).mono ?_); rintro e wA ⟨rfl, hbA⟩; have k0 := cell_below g0 hbA lf2; have k1 := cell_below g1 hbA lf2; have k2 := cell_below g2 hbA lf2; have k3 := cell_below g3 hbA lf2; have k4 := cell_below g4 hbA le2) | fail)
  all_goals go_wp2
  all_goals go_ret
  all_goals exact ⟨rfl, hV2.trans (hbA.mono hV2.size)⟩
end Go.Proofs.Ytogoiolpngbodaa.Wk

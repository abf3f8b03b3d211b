/- The law BitsBytes. -/
import Derived.Test.YtgeldckfpjalfaaLaw02
namespace Go.Proofs.Ytgeldckfpjalfaa.Wk
open Go.RowKit Go.Proofs.Ytgeldckfpjalfaa.Kit Go.Proofs.Ytgeldckfpjalfaa.M01 Go.Proofs.Ytgeldckfpjalfaa.M02 Go.Proofs.Ytgeldckfpjalfaa.Bt Go.Proofs.Ytgeldckfpjalfaa.R02
set_option linter.unusedVariables false

theorem mask1 (y : Int) (h0 : 0 ≤ y) (h1 : y < 256) : bits .and .u8 y 1 = y % 2 :=
  bits_mask .u8 8 (by decide) wraps_u8 1 (by decide) y h0 h1

set_option maxHeartbeats 8000000 in
theorem bitsBytes_walk (a00 : Option Addr) (l00 c00 : Nat) (x00 : List Int) (n01 : Int) (a1 : Int) (w : World) (r00 : RowIn .u8 w a00 l00 c00 x00) (b01 : -9223372036854775808 ≤ n01 ∧ n01 ≤ 9223372036854775807) (b1 : -9223372036854775808 ≤ a1 ∧ a1 ≤ 9223372036854775807) :
    Calls Try.prog 7 #[.agg #[.slice a00 l00 c00, .int .i64 n01], .int .i64 a1] w fun e w' => e = .returned (.bool true) ∧ Below w.heap.size w w' := by
  have hC := fun w' (r : RowIn .u8 w' a00 l00 c00 x00) => rcheck_any a00 l00 c00 x00 n01 w' r b01
  unfold bv at hC
  by_cases hok : okB x00 n01 = true
  · have e1 : chkE x00 n01 = 0 := by simp [chkE, hok]
    simp only [e1] at hC
    obtain ⟨hn0, hn1, hxl, hval⟩ := okB_iff.1 hok
    have hll := r00.hl
    have hby := byte_of r00.rd
    have hv0 := val_nonneg hby
    by_cases hbig : 1500 < n01
    · have f1 : (1500 < n01) = True := eq_true hbig
      go_enter Try.func7, Try.ntmps7
      go_wp2_with (first | ((with_reducible refine (hC _ (r00.same (below1 w _))).mono ?_); rintro e w1 ⟨rfl, hb1⟩; rw [size1] at hb1; have hB1 := (below1 w _).trans (hb1.mono (by omega)); have z1 := hb1.size; rw [size1] at z1; have Xb_1 := (Box2.of (blk1 w _)).below hb1 (by omega); have cb0_1 := Xb_1.c0; have cb1_1 := Xb_1.c1; have lb_1 : w.heap.size < w1.heap.size := (by omega)) | (go_at_call 19; refine (alive_any _).mono ?_; rintro e wA ⟨rfl, hbA⟩))
      go_ret
      exact ⟨rfl, hB1.trans (hbA.mono hB1.size)⟩
    have f1 : (1500 < n01) = False := eq_false hbig
    have hA := fun w' (r : RowIn .u8 w' a00 l00 c00 x00) => align_any a00 l00 c00 x00 n01 w' r b01
    have hO := fun w' (r : RowIn .u8 w' a00 l00 c00 x00) => of_any a00 l00 c00 x00 w' r
    have e2 : alL x00 n01 = x00 := by simp [alL, e1]
    have e3 : alN x00 n01 = 8 * l00 := by simp [alN, e1, hll]
    have hle := ok_len hok
    have e4 : ofL x00 = x00 := by simp [ofL, hle]
    have e5 : ofN x00 = 8 * l00 := by rw [ofN, if_pos hle, hll]
    have e6 : ofE x00 = 0 := by simp [ofE, hle]
    simp only [e1, e2, e3, hll] at hA
    simp only [e4, e5, e6, hll] at hO
    have hokx : okB x00 (8 * l00) = true := okB_iff.2 ⟨by omega, by omega, by omega, by have := val_lt hby; rw [← p2_pw, hll] at this; exact this⟩
    have e7 : cuE x00 (8 * l00) 0 n01 = 0 := by simp [cuE, hokx]; omega
    have e8 : cuL x00 (8 * l00) 0 n01 = x00 := by
      rw [cuL, if_pos e7, p2_zero, Int.ediv_one, Int.sub_zero, Int.emod_eq_of_lt hv0 hval, ← ok_eq hby hok]
    have e9 : cuN x00 (8 * l00) 0 n01 = n01 := by rw [cuN, if_pos e7]; omega
    have hK := fun a q w' (r : RowIn .u8 w' a l00 q x00) => cut_any a l00 q x00 (8 * l00) 0 n01 w' r (isInt_small (by omega) (by omega)) (isInt_small (by omega) (by omega)) b01
    simp only [e7, e8, e9, hll] at hK
    have hS1 := fun a q a' q' w' (r : RowIn .u8 w' a l00 q x00) (r' : RowIn .u8 w' a' l00 q' x00) => same_any a l00 q x00 (8 * l00) a' l00 q' x00 (8 * l00) w' r r'
    have hS2 := fun a q w' (r' : RowIn .u8 w' a00 l00 c00 x00) (r : RowIn .u8 w' a l00 q x00) => same_any a l00 q x00 n01 a00 l00 c00 x00 n01 w' r r'
    have e10 : sameB x00 (8 * l00) x00 (8 * l00) = true := by simp [sameB]
    have e11 : sameB x00 n01 x00 n01 = true := by simp [sameB]
    simp only [e10] at hS1
    simp only [e11] at hS2
    unfold bv at hA hO hK hS1 hS2
    clear e1 e2 e3 e4 e5 e6 e7 e8 e9 e10 e11 hokx
    by_cases h1 : a1 < 0
    · have f2 : (a1 < 0) = True := eq_true h1
      go_enter Try.func7, Try.ntmps7
      go_wp2_with (first | ((with_reducible refine (hC _ (r00.same (below1 w _))).mono ?_); rintro e w1 ⟨rfl, hb1⟩; rw [size1] at hb1; have hB1 := (below1 w _).trans (hb1.mono (by omega)); have z1 := hb1.size; rw [size1] at z1; have Xb_1 := (Box2.of (blk1 w _)).below hb1 (by omega); have cb0_1 := Xb_1.c0; have cb1_1 := Xb_1.c1; have lb_1 : w.heap.size < w1.heap.size := (by omega)) | ((with_reducible refine (hA _ (r00.same (hB1))).mono ?_); rintro e w2 ⟨a2, q2, rfl, h2, hb2, -⟩; have hq2 := hb2; have z2 := hb2.size; have hB2 := hB1.trans (hq2.mono hB1.size); have Xb_2 := Xb_1.below hq2 (by omega); have Rx_2 := h2; have cb0_2 := Xb_2.c0; have cb1_2 := Xb_2.c1; have lb_2 : w.heap.size < w2.heap.size := (by omega); clear cb0_1 cb1_1 lb_1) | ((with_reducible refine (hO _ (r00.same (hB2.trans ((below1 w2 _).mono hB2.size)))).mono ?_); rintro e w3 ⟨a3, q3, rfl, h3, hb3, -⟩; rw [size1] at hb3; have hq3 := (below1 w2 _).trans (hb3.mono (Nat.le_succ _)); have z3 := hb3.size; rw [size1] at z3; have hB3 := hB2.trans (hq3.mono hB2.size); have Xb_3 := Xb_2.below hq3 (by omega); have Xx_3 := (Box2.of (blk1 w2 _)).below hb3 (Nat.lt_succ_self _); have Rx_3 := Rx_2.same hq3; have Ry_3 := h3; have cb0_3 := Xb_3.c0; have cb1_3 := Xb_3.c1; have lb_3 : w.heap.size < w3.heap.size := (by omega); have cx0_3 := Xx_3.c0; have cx1_3 := Xx_3.c1; have lx_3 : w2.heap.size < w3.heap.size := (by omega); clear cb0_2 cb1_2 lb_2) | ((with_reducible refine (hK _ _ _ (Rx_3.same (below1 w3 _))).mono ?_); rintro e w4 ⟨a4, q4, rfl, h4, hb4, -⟩; rw [size1] at hb4; have hq4 := (below1 w3 _).trans (hb4.mono (Nat.le_succ _)); have z4 := hb4.size; rw [size1] at z4; have hB4 := hB3.trans (hq4.mono hB3.size); have Xb_4 := Xb_3.below hq4 (by omega); have Xx_4 := Xx_3.below hq4 (by omega); have Xy_4 := (Box2.of (blk1 w3 _)).below hb4 (Nat.lt_succ_self _); have Rx_4 := Rx_3.same hq4; have Ry_4 := Ry_3.same hq4; have Rk_4 := h4; have cb0_4 := Xb_4.c0; have cb1_4 := Xb_4.c1; have lb_4 : w.heap.size < w4.heap.size := (by omega); have cx0_4 := Xx_4.c0; have cx1_4 := Xx_4.c1; have lx_4 : w2.heap.size < w4.heap.size := (by omega); have cy0_4 := Xy_4.c0; have cy1_4 := Xy_4.c1; have ly_4 : w3.heap.size < w4.heap.size := (by omega); clear cb0_3 cb1_3 lb_3 cx0_3 cx1_3 lx_3) | ((with_reducible refine (hS1 _ _ _ _ _ (Rx_4.same (below1 w4 _)) (Ry_4.same (below1 w4 _))).mono ?_); rintro e w5 ⟨rfl, hb5⟩; rw [size1] at hb5; have hq5 := (below1 w4 _).trans (hb5.mono (Nat.le_succ _)); have z5 := hb5.size; rw [size1] at z5; have hB5 := hB4.trans (hq5.mono hB4.size); have Xb_5 := Xb_4.below hq5 (by omega); have Xx_5 := Xx_4.below hq5 (by omega); have Xy_5 := Xy_4.below hq5 (by omega); have Xk_5 := (Box2.of (blk1 w4 _)).below hb5 (Nat.lt_succ_self _); have Rx_5 := Rx_4.same hq5; have Ry_5 := Ry_4.same hq5; have Rk_5 := Rk_4.same hq5; have cb0_5 := Xb_5.c0; have cb1_5 := Xb_5.c1; have lb_5 : w.heap.size < w5.heap.size := (by omega); have cx0_5 := Xx_5.c0; have cx1_5 := Xx_5.c1; have lx_5 : w2.heap.size < w5.heap.size := (by omega); have cy0_5 := Xy_5.c0; have cy1_5 := Xy_5.c1; have ly_5 : w3.heap.size < w5.heap.size := (by omega); have ck0_5 := Xk_5.c0; have ck1_5 := Xk_5.c1; have lk_5 : w4.heap.size < w5.heap.size := (by omega); clear cb0_4 cb1_4 lb_4 cx0_4 cx1_4 lx_4 cy0_4 cy1_4 ly_4) | ((with_reducible refine (hS2 _ _ _ (r00.same (hB5)) Rk_5).mono ?_); rintro e w6 ⟨rfl, hb6⟩; have hq6 := hb6; have z6 := hb6.size; have hB6 := hB5.trans (hq6.mono hB5.size); have Xb_6 := Xb_5.below hq6 (by omega); have Xx_6 := Xx_5.below hq6 (by omega); have Xy_6 := Xy_5.below hq6 (by omega); have Xk_6 := Xk_5.below hq6 (by omega); have Rx_6 := Rx_5.same hq6; have Ry_6 := Ry_5.same hq6; have Rk_6 := Rk_5.same hq6; have cb0_6 := Xb_6.c0; have cb1_6 := Xb_6.c1; have lb_6 : w.heap.size < w6.heap.size := (by omega); have cx0_6 := Xx_6.c0; have cx1_6 := Xx_6.c1; have lx_6 : w2.heap.size < w6.heap.size := (by omega); have cy0_6 := Xy_6.c0; have cy1_6 := Xy_6.c1; have ly_6 : w3.heap.size < w6.heap.size := (by omega); have ck0_6 := Xk_6.c0; have ck1_6 := Xk_6.c1; have lk_6 : w4.heap.size < w6.heap.size := (by omega); clear cb0_5 cb1_5 lb_5 cx0_5 cx1_5 lx_5 cy0_5 cy1_5 ly_5 ck0_5 ck1_5 lk_5) | (go_at_call 19; refine (alive_any _).mono ?_; rintro e wA ⟨rfl, hbA⟩))
      go_ret
      exact ⟨rfl, hB6.trans (hbA.mono hB6.size)⟩
    have f2 : (a1 < 0) = False := eq_false h1
    by_cases h2 : n01 ≤ a1
    · have f3 : (n01 ≤ a1) = True := eq_true h2
      go_enter Try.func7, Try.ntmps7
      go_wp2_with (first | ((with_reducible refine (hC _ (r00.same (below1 w _))).mono ?_); rintro e w1 ⟨rfl, hb1⟩; rw [size1] at hb1; have hB1 := (below1 w _).trans (hb1.mono (by omega)); have z1 := hb1.size; rw [size1] at z1; have Xb_1 := (Box2.of (blk1 w _)).below hb1 (by omega); have cb0_1 := Xb_1.c0; have cb1_1 := Xb_1.c1; have lb_1 : w.heap.size < w1.heap.size := (by omega)) | ((with_reducible refine (hA _ (r00.same (hB1))).mono ?_); rintro e w2 ⟨a2, q2, rfl, h2, hb2, -⟩; have hq2 := hb2; have z2 := hb2.size; have hB2 := hB1.trans (hq2.mono hB1.size); have Xb_2 := Xb_1.below hq2 (by omega); have Rx_2 := h2; have cb0_2 := Xb_2.c0; have cb1_2 := Xb_2.c1; have lb_2 : w.heap.size < w2.heap.size := (by omega); clear cb0_1 cb1_1 lb_1) | ((with_reducible refine (hO _ (r00.same (hB2.trans ((below1 w2 _).mono hB2.size)))).mono ?_); rintro e w3 ⟨a3, q3, rfl, h3, hb3, -⟩; rw [size1] at hb3; have hq3 := (below1 w2 _).trans (hb3.mono (Nat.le_succ _)); have z3 := hb3.size; rw [size1] at z3; have hB3 := hB2.trans (hq3.mono hB2.size); have Xb_3 := Xb_2.below hq3 (by omega); have Xx_3 := (Box2.of (blk1 w2 _)).below hb3 (Nat.lt_succ_self _); have Rx_3 := Rx_2.same hq3; have Ry_3 := h3; have cb0_3 := Xb_3.c0; have cb1_3 := Xb_3.c1; have lb_3 : w.heap.size < w3.heap.size := (by omega); have cx0_3 := Xx_3.c0; have cx1_3 := Xx_3.c1; have lx_3 : w2.heap.size < w3.heap.size := (by omega); clear cb0_2 cb1_2 lb_2) | ((with_reducible refine (hK _ _ _ (Rx_3.same (below1 w3 _))).mono ?_); rintro e w4 ⟨a4, q4, rfl, h4, hb4, -⟩; rw [size1] at hb4; have hq4 := (below1 w3 _).trans (hb4.mono (Nat.le_succ _)); have z4 := hb4.size; rw [size1] at z4; have hB4 := hB3.trans (hq4.mono hB3.size); have Xb_4 := Xb_3.below hq4 (by omega); have Xx_4 := Xx_3.below hq4 (by omega); have Xy_4 := (Box2.of (blk1 w3 _)).below hb4 (Nat.lt_succ_self _); have Rx_4 := Rx_3.same hq4; have Ry_4 := Ry_3.same hq4; have Rk_4 := h4; have cb0_4 := Xb_4.c0; have cb1_4 := Xb_4.c1; have lb_4 : w.heap.size < w4.heap.size := (by omega); have cx0_4 := Xx_4.c0; have cx1_4 := Xx_4.c1; have lx_4 : w2.heap.size < w4.heap.size := (by omega); have cy0_4 := Xy_4.c0; have cy1_4 := Xy_4.c1; have ly_4 : w3.heap.size < w4.heap.size := (by omega); clear cb0_3 cb1_3 lb_3 cx0_3 cx1_3 lx_3) | ((with_reducible refine (hS1 _ _ _ _ _ (Rx_4.same (below1 w4 _)) (Ry_4.same (below1 w4 _))).mono ?_); rintro e w5 ⟨rfl, hb5⟩; rw [size1] at hb5; have hq5 := (below1 w4 _).trans (hb5.mono (Nat.le_succ _)); have z5 := hb5.size; rw [size1] at z5; have hB5 := hB4.trans (hq5.mono hB4.size); have Xb_5 := Xb_4.below hq5 (by omega); have Xx_5 := Xx_4.below hq5 (by omega); have Xy_5 := Xy_4.below hq5 (by omega); have Xk_5 := (Box2.of (blk1 w4 _)).below hb5 (Nat.lt_succ_self _); have Rx_5 := Rx_4.same hq5; have Ry_5 := Ry_4.same hq5; have Rk_5 := Rk_4.same hq5; have cb0_5 := Xb_5.c0; have cb1_5 := Xb_5.c1; have lb_5 : w.heap.size < w5.heap.size := (by omega); have cx0_5 := Xx_5.c0; have cx1_5 := Xx_5.c1; have lx_5 : w2.heap.size < w5.heap.size := (by omega); have cy0_5 := Xy_5.c0; have cy1_5 := Xy_5.c1; have ly_5 : w3.heap.size < w5.heap.size := (by omega); have ck0_5 := Xk_5.c0; have ck1_5 := Xk_5.c1; have lk_5 : w4.heap.size < w5.heap.size := (by omega); clear cb0_4 cb1_4 lb_4 cx0_4 cx1_4 lx_4 cy0_4 cy1_4 ly_4) | ((with_reducible refine (hS2 _ _ _ (r00.same (hB5)) Rk_5).mono ?_); rintro e w6 ⟨rfl, hb6⟩; have hq6 := hb6; have z6 := hb6.size; have hB6 := hB5.trans (hq6.mono hB5.size); have Xb_6 := Xb_5.below hq6 (by omega); have Xx_6 := Xx_5.below hq6 (by omega); have Xy_6 := Xy_5.below hq6 (by omega); have Xk_6 := Xk_5.below hq6 (by omega); have Rx_6 := Rx_5.same hq6; have Ry_6 := Ry_5.same hq6; have Rk_6 := Rk_5.same hq6; have cb0_6 := Xb_6.c0; have cb1_6 := Xb_6.c1; have lb_6 : w.heap.size < w6.heap.size := (by omega); have cx0_6 := Xx_6.c0; have cx1_6 := Xx_6.c1; have lx_6 : w2.heap.size < w6.heap.size := (by omega); have cy0_6 := Xy_6.c0; have cy1_6 := Xy_6.c1; have ly_6 : w3.heap.size < w6.heap.size := (by omega); have ck0_6 := Xk_6.c0; have ck1_6 := Xk_6.c1; have lk_6 : w4.heap.size < w6.heap.size := (by omega); clear cb0_5 cb1_5 lb_5 cx0_5 cx1_5 lx_5 cy0_5 cy1_5 ly_5 ck0_5 ck1_5 lk_5) | (go_at_call 19; refine (alive_any _).mono ?_; rintro e wA ⟨rfl, hbA⟩))
      go_ret
      exact ⟨rfl, hB6.trans (hbA.mono hB6.size)⟩
    have f3 : (n01 ≤ a1) = False := eq_false h2
    have hG := fun w' (r : RowIn .u8 w' a00 l00 c00 x00) => get_any a00 l00 c00 x00 n01 a1 1 w' r b01 b1 (isInt_small (by omega) (by omega))
    have g1 : getE x00 n01 a1 1 = 0 := by simp [getE, hok]; omega
    have hj : (a1 / 8).toNat < x00.length := by omega
    obtain ⟨yb, hyb⟩ : ∃ y, x00.getD (a1 / 8).toNat 0 = y := ⟨_, rfl⟩
    have hyr := isByte_at hby hj
    rw [hyb] at hyr
    have hp8 := p2_pos (a1 % 8)
    have hq0 : 0 ≤ yb / p2 (a1 % 8) := Int.ediv_nonneg hyr.1 (by omega)
    have hq1 : yb / p2 (a1 % 8) ≤ yb := Int.ediv_le_self _ hyr.1
    have g2 : getN x00 n01 a1 1 = bits .and .u8 (yb / p2 (a1 % 8)) 1 := by
      rw [getN, if_pos g1, mask1 _ hq0 (by omega), ← hyb, val_bit hby (by omega) (by omega)]; rfl
    have hm := mask1 _ hq0 (by omega)
    simp only [g1, g2] at hG
    obtain ⟨bit, hbit⟩ : ∃ b, bits .and .u8 (yb / p2 (a1 % 8)) 1 = b := ⟨_, rfl⟩
    rw [hbit] at hm
    simp only [hbit] at hG
    have hbit0 : 0 ≤ bit ∧ bit < 256 := by omega
    obtain ⟨off0, off1, ea, hcc⟩ := r00.rd.cells (by intro h; rw [h] at hj; simp at hj)
    have hcell := hcc _ hj
    rw [hyb] at hcell
    have hidx : a1 / 8 < (l00 : Int) := by omega
    unfold p2 at hbit
    subst ea
    have hcell0 := fun w' (hb : Below w.heap.size w w') => (hb.cell (World.block_lt_of_cell? w _ hcell)).trans hcell
    unfold bv at hG
    clear g1 g2 hm hcc hyb hp8
    go_enter Try.func7, Try.ntmps7
    go_wp2_with (first | ((with_reducible refine (hC _ (r00.same (below1 w _))).mono ?_); rintro e w1 ⟨rfl, hb1⟩; rw [size1] at hb1; have hB1 := (below1 w _).trans (hb1.mono (by omega)); have z1 := hb1.size; rw [size1] at z1; have Xb_1 := (Box2.of (blk1 w _)).below hb1 (by omega); have cb0_1 := Xb_1.c0; have cb1_1 := Xb_1.c1; have lb_1 : w.heap.size < w1.heap.size := (by omega)) | ((with_reducible refine (hA _ (r00.same (hB1))).mono ?_); rintro e w2 ⟨a2, q2, rfl, h2, hb2, -⟩; have hq2 := hb2; have z2 := hb2.size; have hB2 := hB1.trans (hq2.mono hB1.size); have Xb_2 := Xb_1.below hq2 (by omega); have Rx_2 := h2; have cb0_2 := Xb_2.c0; have cb1_2 := Xb_2.c1; have lb_2 : w.heap.size < w2.heap.size := (by omega); clear cb0_1 cb1_1 lb_1) | ((with_reducible refine (hO _ (r00.same (hB2.trans ((below1 w2 _).mono hB2.size)))).mono ?_); rintro e w3 ⟨a3, q3, rfl, h3, hb3, -⟩; rw [size1] at hb3; have hq3 := (below1 w2 _).trans (hb3.mono (Nat.le_succ _)); have z3 := hb3.size; rw [size1] at z3; have hB3 := hB2.trans (hq3.mono hB2.size); have Xb_3 := Xb_2.below hq3 (by omega); have Xx_3 := (Box2.of (blk1 w2 _)).below hb3 (Nat.lt_succ_self _); have Rx_3 := Rx_2.same hq3; have Ry_3 := h3; have cb0_3 := Xb_3.c0; have cb1_3 := Xb_3.c1; have lb_3 : w.heap.size < w3.heap.size := (by omega); have cx0_3 := Xx_3.c0; have cx1_3 := Xx_3.c1; have lx_3 : w2.heap.size < w3.heap.size := (by omega); clear cb0_2 cb1_2 lb_2) | ((with_reducible refine (hK _ _ _ (Rx_3.same (below1 w3 _))).mono ?_); rintro e w4 ⟨a4, q4, rfl, h4, hb4, -⟩; rw [size1] at hb4; have hq4 := (below1 w3 _).trans (hb4.mono (Nat.le_succ _)); have z4 := hb4.size; rw [size1] at z4; have hB4 := hB3.trans (hq4.mono hB3.size); have Xb_4 := Xb_3.below hq4 (by omega); have Xx_4 := Xx_3.below hq4 (by omega); have Xy_4 := (Box2.of (blk1 w3 _)).below hb4 (Nat.lt_succ_self _); have Rx_4 := Rx_3.same hq4; have Ry_4 := Ry_3.same hq4; have Rk_4 := h4; have cb0_4 := Xb_4.c0; have cb1_4 := Xb_4.c1; have lb_4 : w.heap.size < w4.heap.size := (by omega); have cx0_4 := Xx_4.c0; have cx1_4 := Xx_4.c1; have lx_4 : w2.heap.size < w4.heap.size := (by omega); have cy0_4 := Xy_4.c0; have cy1_4 := Xy_4.c1; have ly_4 : w3.heap.size < w4.heap.size := (by omega); clear cb0_3 cb1_3 lb_3 cx0_3 cx1_3 lx_3) | ((with_reducible refine (hS1 _ _ _ _ _ (Rx_4.same (below1 w4 _)) (Ry_4.same (below1 w4 _))).mono ?_); rintro e w5 ⟨rfl, hb5⟩; rw [size1] at hb5; have hq5 := (below1 w4 _).trans (hb5.mono (Nat.le_succ _)); have z5 := hb5.size; rw [size1] at z5; have hB5 := hB4.trans (hq5.mono hB4.size); have Xb_5 := Xb_4.below hq5 (by omega); have Xx_5 := Xx_4.below hq5 (by omega); have Xy_5 := Xy_4.below hq5 (by omega); have Xk_5 := (Box2.of (blk1 w4 _)).below hb5 (Nat.lt_succ_self _); have Rx_5 := Rx_4.same hq5; have Ry_5 := Ry_4.same hq5; have Rk_5 := Rk_4.same hq5; have cb0_5 := Xb_5.c0; have cb1_5 := Xb_5.c1; have lb_5 : w.heap.size < w5.heap.size := (by omega); have cx0_5 := Xx_5.c0; have cx1_5 := Xx_5.c1; have lx_5 : w2.heap.size < w5.heap.size := (by omega); have cy0_5 := Xy_5.c0; have cy1_5 := Xy_5.c1; have ly_5 : w3.heap.size < w5.heap.size := (by omega); have ck0_5 := Xk_5.c0; have ck1_5 := Xk_5.c1; have lk_5 : w4.heap.size < w5.heap.size := (by omega); clear cb0_4 cb1_4 lb_4 cx0_4 cx1_4 lx_4 cy0_4 cy1_4 ly_4) | ((with_reducible refine (hS2 _ _ _ (r00.same (hB5)) Rk_5).mono ?_); rintro e w6 ⟨rfl, hb6⟩; have hq6 := hb6; have z6 := hb6.size; have hB6 := hB5.trans (hq6.mono hB5.size); have Xb_6 := Xb_5.below hq6 (by omega); have Xx_6 := Xx_5.below hq6 (by omega); have Xy_6 := Xy_5.below hq6 (by omega); have Xk_6 := Xk_5.below hq6 (by omega); have Rx_6 := Rx_5.same hq6; have Ry_6 := Ry_5.same hq6; have Rk_6 := Rk_5.same hq6; have cb0_6 := Xb_6.c0; have cb1_6 := Xb_6.c1; have lb_6 : w.heap.size < w6.heap.size := (by omega); have cx0_6 := Xx_6.c0; have cx1_6 := Xx_6.c1; have lx_6 : w2.heap.size < w6.heap.size := (by omega); have cy0_6 := Xy_6.c0; have cy1_6 := Xy_6.c1; have ly_6 : w3.heap.size < w6.heap.size := (by omega); have ck0_6 := Xk_6.c0; have ck1_6 := Xk_6.c1; have lk_6 : w4.heap.size < w6.heap.size := (by omega); clear cb0_5 cb1_5 lb_5 cx0_5 cx1_5 lx_5 cy0_5 cy1_5 ly_5 ck0_5 ck1_5 lk_5) | ((with_reducible refine (hG _ (r00.same (hB6))).mono ?_); rintro e w7 ⟨rfl, hb7⟩; have hq7 := hb7; have z7 := hb7.size; have hB7 := hB6.trans (hq7.mono hB6.size); have Xb_7 := Xb_6.below hq7 (by omega); have Xx_7 := Xx_6.below hq7 (by omega); have Xy_7 := Xy_6.below hq7 (by omega); have Xk_7 := Xk_6.below hq7 (by omega); have Rx_7 := Rx_6.same hq7; have Ry_7 := Ry_6.same hq7; have Rk_7 := Rk_6.same hq7; have cb0_7 := Xb_7.c0; have cb1_7 := Xb_7.c1; have lb_7 : w.heap.size < w7.heap.size := (by omega); have cx0_7 := Xx_7.c0; have cx1_7 := Xx_7.c1; have lx_7 : w2.heap.size < w7.heap.size := (by omega); have cy0_7 := Xy_7.c0; have cy1_7 := Xy_7.c1; have ly_7 : w3.heap.size < w7.heap.size := (by omega); have ck0_7 := Xk_7.c0; have ck1_7 := Xk_7.c1; have lk_7 : w4.heap.size < w7.heap.size := (by omega); have hcl := (hcell0 _ hB7); clear cb0_6 cb1_6 lb_6 cx0_6 cx1_6 lx_6 cy0_6 cy1_6 ly_6 ck0_6 ck1_6 lk_6) | (go_at_call 19; refine (alive_any _).mono ?_; rintro e wA ⟨rfl, hbA⟩))
    go_ret
    exact ⟨rfl, hB7.trans (hbA.mono hB7.size)⟩
  · have e1 : chkE x00 n01 = 8 := by simp [chkE, hok]
    simp only [e1] at hC
    go_enter Try.func7, Try.ntmps7
    go_wp2_with (first | ((with_reducible refine (hC _ (r00.same (below1 w _))).mono ?_); rintro e w1 ⟨rfl, hb1⟩; rw [size1] at hb1; have hB1 := (below1 w _).trans (hb1.mono (by omega)); have z1 := hb1.size; rw [size1] at z1; have Xb_1 := (Box2.of (blk1 w _)).below hb1 (by omega); have cb0_1 := Xb_1.c0; have cb1_1 := Xb_1.c1; have lb_1 : w.heap.size < w1.heap.size := (by omega)) | (go_at_call 19; refine (alive_any _).mono ?_; rintro e wA ⟨rfl, hbA⟩))
    go_ret
    exact ⟨rfl, hB1.trans (hbA.mono hB1.size)⟩
end Go.Proofs.Ytgeldckfpjalfaa.Wk

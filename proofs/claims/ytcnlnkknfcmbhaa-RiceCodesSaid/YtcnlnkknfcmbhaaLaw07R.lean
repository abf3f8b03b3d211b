/- The law RiceCodes. -/
import Derived.Test.YtcnlnkknfcmbhaaLaw07
namespace Go.Proofs.Ytcnlnkknfcmbhaa.Wk
open Go.Proofs Go.RowKit Go.Proofs.Ytcnlnkknfcmbhaa.Kit Go.Proofs.Ytcnlnkknfcmbhaa.M01 Go.Proofs.Ytcnlnkknfcmbhaa.M02 Go.Proofs.Ytcnlnkknfcmbhaa.M06 Go.Proofs.Ytcnlnkknfcmbhaa.M07 Go.Proofs.Ytcnlnkknfcmbhaa.Bt Go.Proofs.Ytcnlnkknfcmbhaa.R02 Go.Proofs.Ytcnlnkknfcmbhaa.Un Go.Proofs.Ytcnlnkknfcmbhaa.R06 Go.Proofs.Ytcnlnkknfcmbhaa.Ri Go.Proofs.Ytcnlnkknfcmbhaa.R07
set_option linter.unusedVariables false

set_option maxRecDepth 100000 in
set_option maxHeartbeats 8000000 in
theorem riceCodes_walk (a00 : Option Addr) (l00 c00 : Nat) (x00 : List Int) (n01 : Int) (a1 : Int) (a2 : Int) (a3 : Int) (w : World) (r00 : RowIn .u8 w a00 l00 c00 x00) (b01 : -9223372036854775808 ≤ n01 ∧ n01 ≤ 9223372036854775807) (b1 : 0 ≤ a1 ∧ a1 ≤ 4294967295) (b2 : -9223372036854775808 ≤ a2 ∧ a2 ≤ 9223372036854775807) (b3 : -9223372036854775808 ≤ a3 ∧ a3 ≤ 9223372036854775807) :
    Calls Try.prog 4 #[.agg #[.slice a00 l00 c00, .int .i64 n01], .int .u32 a1, .int .i64 a2, .int .i64 a3] w fun e w' => e = .returned (.bool true) ∧ Below w.heap.size w w' := by
  have hG := fun w' (r : RowIn .u8 w' a00 l00 c00 x00) => great_any a00 l00 c00 x00 n01 w' r
  unfold bv at hG
  cases hg : greatB l00
  rotate_left
  · simp only [hg] at hG
    clear hg
    go_enter Try.func4, Try.ntmps4
    go_wp2_with (first | ((with_reducible refine (hG _ (r00.same (below1 w _))).mono ?_); rintro e w1 ⟨rfl, hb1⟩; rw [size1] at hb1; have hB1 := (below1 w _).trans (hb1.mono (by omega)); have z1 := hb1.size; rw [size1] at z1; have Xb_1 := (Box2.of (blk1 w _)).below hb1 (by omega); have cb0_1 := Xb_1.c0; have cb1_1 := Xb_1.c1; have lb_1 : w.heap.size < w1.heap.size := (by omega)))
    go_ret
    exact ⟨rfl, hB1⟩
  simp only [hg] at hG
  have hlen : l00 ≤ 100000 := by
    have := of_decide_eq_false hg
    omega
  have hT := fun w' (r : RowIn .u8 w' a00 l00 c00 x00) => twin_row a00 l00 c00 x00 n01 w' r hlen
  have hL1 := fun w' => rlen_any a1 a2 w' b1 b2
  have hL2 := fun w' => rlength7_any a1 a2 w' b1
  have hW := fun a q w' (r : RowIn .u8 w' a l00 q x00) => rwr_any a l00 q x00 n01 a1 a2 w' r b01 b1 b2
  have hRW := fun w' (r : RowIn .u8 w' a00 l00 c00 x00) => rwrite7_any a00 l00 c00 x00 n01 a1 a2 w' r b01 b1
  have hR := fun a q w' (r : RowIn .u8 w' a l00 q x00) => rrd_any a l00 q x00 n01 a3 a2 w' r b01 b3 b2
  have hRR := fun w' (r : RowIn .u8 w' a00 l00 c00 x00) => rread7_any a00 l00 c00 x00 n01 a3 a2 w' r b01 b3
  have hS2 := fun a q w' (r : RowIn .u8 w' a l00 q x00) (r' : RowIn .u8 w' a00 l00 c00 x00) => same_any a l00 q x00 n01 a00 l00 c00 x00 n01 w' r r'
  have es2 : sameB x00 n01 x00 n01 = true := by simp [sameB]
  simp only [es2] at hS2
  obtain ⟨LX, eLX⟩ : ∃ L, rwL x00 n01 a1 a2 = L := ⟨_, rfl⟩
  obtain ⟨NX, eNX⟩ : ∃ L, rwN x00 n01 a1 a2 = L := ⟨_, rfl⟩
  obtain ⟨EX, eEX⟩ : ∃ L, rwE x00 n01 a1 a2 = L := ⟨_, rfl⟩
  obtain ⟨lX, elX⟩ : ∃ L, LX.length = L := ⟨_, rfl⟩
  obtain ⟨LN, eLN⟩ : ∃ L, rlN a1 a2 = L := ⟨_, rfl⟩
  obtain ⟨LE, eLE⟩ : ∃ L, rlE a2 = L := ⟨_, rfl⟩
  obtain ⟨RN, eRN⟩ : ∃ L, rrN x00 n01 a3 a2 = L := ⟨_, rfl⟩
  obtain ⟨RX, eRX⟩ : ∃ L, rrX x00 n01 a3 a2 = L := ⟨_, rfl⟩
  obtain ⟨RE, eRE⟩ : ∃ L, rrE x00 n01 a3 a2 = L := ⟨_, rfl⟩
  simp only [eLX, eNX, eEX, elX] at hW hRW
  simp only [eLN, eLE] at hL1 hL2
  simp only [eRN, eRX, eRE] at hR hRR
  have hS1 := fun a q a' q' w' (r : RowIn .u8 w' a lX q LX) (r' : RowIn .u8 w' a' lX q' LX) => same_any a lX q LX NX a' lX q' LX NX w' r r'
  have es1 : sameB LX NX LX NX = true := by simp [sameB]
  simp only [es1] at hS1
  clear eLX eNX eEX elX eLN eLE eRN eRX eRE es1 es2 hg hlen
  unfold bv at hT hW hRW hR hRR hS1 hS2
  go_enter Try.func4, Try.ntmps4
  go_wp2_with (first | ((with_reducible refine (hG _ (r00.same (below1 w _))).mono ?_); rintro e w1 ⟨rfl, hb1⟩; rw [size1] at hb1; have hB1 := (below1 w _).trans (hb1.mono (by omega)); have z1 := hb1.size; rw [size1] at z1; have Xb_1 := (Box2.of (blk1 w _)).below hb1 (by omega); have cb0_1 := Xb_1.c0; have cb1_1 := Xb_1.c1; have lb_1 : w.heap.size < w1.heap.size := (by omega)) | ((with_reducible refine (hT _ (r00.same (hB1))).mono ?_); rintro e w2 ⟨a2, q2, rfl, h2, hb2⟩; have hq2 := hb2; have z2 := hb2.size; have hB2 := hB1.trans (hq2.mono hB1.size); have Xb_2 := Xb_1.below hq2 (by omega); have Ro_2 := h2; have cb0_2 := Xb_2.c0; have cb1_2 := Xb_2.c1; have lb_2 : w.heap.size < w2.heap.size := (by omega); clear cb0_1 cb1_1 lb_1) | (go_at_call 9; (with_reducible refine (hL1 _).mono ?_); rintro e wz ⟨rfl, rfl⟩) | (go_at_call 17; (with_reducible refine (hL2 _).mono ?_); rintro e wz ⟨rfl, rfl⟩) | ((with_reducible refine (hW _ _ _ (Ro_2.same (below1 w2 _))).mono ?_); rintro e w3 ⟨a3, q3, rfl, h3, hb3, -⟩; rw [size1] at hb3; have hq3 := (below1 w2 _).trans (hb3.mono (Nat.le_succ _)); have z3 := hb3.size; rw [size1] at z3; have hB3 := hB2.trans (hq3.mono hB2.size); have Xb_3 := Xb_2.below hq3 (by omega); have Xo_3 := (Box2.of (blk1 w2 _)).below hb3 (Nat.lt_succ_self _); have Ro_3 := Ro_2.same hq3; have Rx_3 := h3; have cb0_3 := Xb_3.c0; have cb1_3 := Xb_3.c1; have lb_3 : w.heap.size < w3.heap.size := (by omega); have co0_3 := Xo_3.c0; have co1_3 := Xo_3.c1; have lo_3 : w2.heap.size < w3.heap.size := (by omega); clear cb0_2 cb1_2 lb_2) | ((with_reducible refine (hRW _ (r00.same (hB3.trans ((below1 w3 _).mono hB3.size)))).mono ?_); rintro e w4 ⟨a4, q4, rfl, h4, hb4⟩; rw [size1] at hb4; have hq4 := (below1 w3 _).trans (hb4.mono (Nat.le_succ _)); have z4 := hb4.size; rw [size1] at z4; have hB4 := hB3.trans (hq4.mono hB3.size); have Xb_4 := Xb_3.below hq4 (by omega); have Xo_4 := Xo_3.below hq4 (by omega); have Xx_4 := (Box2.of (blk1 w3 _)).below hb4 (Nat.lt_succ_self _); have Ro_4 := Ro_3.same hq4; have Rx_4 := Rx_3.same hq4; have Ry_4 := h4; have cb0_4 := Xb_4.c0; have cb1_4 := Xb_4.c1; have lb_4 : w.heap.size < w4.heap.size := (by omega); have co0_4 := Xo_4.c0; have co1_4 := Xo_4.c1; have lo_4 : w2.heap.size < w4.heap.size := (by omega); have cx0_4 := Xx_4.c0; have cx1_4 := Xx_4.c1; have lx_4 : w3.heap.size < w4.heap.size := (by omega); clear cb0_3 cb1_3 lb_3 co0_3 co1_3 lo_3) | ((with_reducible refine (hR _ _ _ (Ro_4.same (below1 w4 _))).mono ?_); rintro e w5 ⟨rfl, hb5⟩; rw [size1] at hb5; have hq5 := (below1 w4 _).trans (hb5.mono (Nat.le_succ _)); have z5 := hb5.size; rw [size1] at z5; have hB5 := hB4.trans (hq5.mono hB4.size); have Xb_5 := Xb_4.below hq5 (by omega); have Xo_5 := Xo_4.below hq5 (by omega); have Xx_5 := Xx_4.below hq5 (by omega); have Xy_5 := (Box2.of (blk1 w4 _)).below hb5 (Nat.lt_succ_self _); have Ro_5 := Ro_4.same hq5; have Rx_5 := Rx_4.same hq5; have Ry_5 := Ry_4.same hq5; have cb0_5 := Xb_5.c0; have cb1_5 := Xb_5.c1; have lb_5 : w.heap.size < w5.heap.size := (by omega); have co0_5 := Xo_5.c0; have co1_5 := Xo_5.c1; have lo_5 : w2.heap.size < w5.heap.size := (by omega); have cx0_5 := Xx_5.c0; have cx1_5 := Xx_5.c1; have lx_5 : w3.heap.size < w5.heap.size := (by omega); have cy0_5 := Xy_5.c0; have cy1_5 := Xy_5.c1; have ly_5 : w4.heap.size < w5.heap.size := (by omega); clear cb0_4 cb1_4 lb_4 co0_4 co1_4 lo_4 cx0_4 cx1_4 lx_4) | ((with_reducible refine (hRR _ (r00.same (hB5))).mono ?_); rintro e w6 ⟨rfl, hb6⟩; have hq6 := hb6; have z6 := hb6.size; have hB6 := hB5.trans (hq6.mono hB5.size); have Xb_6 := Xb_5.below hq6 (by omega); have Xo_6 := Xo_5.below hq6 (by omega); have Xx_6 := Xx_5.below hq6 (by omega); have Xy_6 := Xy_5.below hq6 (by omega); have Ro_6 := Ro_5.same hq6; have Rx_6 := Rx_5.same hq6; have Ry_6 := Ry_5.same hq6; have cb0_6 := Xb_6.c0; have cb1_6 := Xb_6.c1; have lb_6 : w.heap.size < w6.heap.size := (by omega); have co0_6 := Xo_6.c0; have co1_6 := Xo_6.c1; have lo_6 : w2.heap.size < w6.heap.size := (by omega); have cx0_6 := Xx_6.c0; have cx1_6 := Xx_6.c1; have lx_6 : w3.heap.size < w6.heap.size := (by omega); have cy0_6 := Xy_6.c0; have cy1_6 := Xy_6.c1; have ly_6 : w4.heap.size < w6.heap.size := (by omega); clear cb0_5 cb1_5 lb_5 co0_5 co1_5 lo_5 cx0_5 cx1_5 lx_5 cy0_5 cy1_5 ly_5) | ((with_reducible refine (hS1 _ _ _ _ _ Rx_6 Ry_6).mono ?_); rintro e w7 ⟨rfl, hb7⟩; have hq7 := hb7; have z7 := hb7.size; have hB7 := hB6.trans (hq7.mono hB6.size); have Xb_7 := Xb_6.below hq7 (by omega); have Xo_7 := Xo_6.below hq7 (by omega); have Xx_7 := Xx_6.below hq7 (by omega); have Xy_7 := Xy_6.below hq7 (by omega); have Ro_7 := Ro_6.same hq7; have Rx_7 := Rx_6.same hq7; have Ry_7 := Ry_6.same hq7; have cb0_7 := Xb_7.c0; have cb1_7 := Xb_7.c1; have lb_7 : w.heap.size < w7.heap.size := (by omega); have co0_7 := Xo_7.c0; have co1_7 := Xo_7.c1; have lo_7 : w2.heap.size < w7.heap.size := (by omega); have cx0_7 := Xx_7.c0; have cx1_7 := Xx_7.c1; have lx_7 : w3.heap.size < w7.heap.size := (by omega); have cy0_7 := Xy_7.c0; have cy1_7 := Xy_7.c1; have ly_7 : w4.heap.size < w7.heap.size := (by omega); clear cb0_6 cb1_6 lb_6 co0_6 co1_6 lo_6 cx0_6 cx1_6 lx_6 cy0_6 cy1_6 ly_6) | ((with_reducible refine (hS2 _ _ _ Ro_7 (r00.same (hB7))).mono ?_); rintro e w8 ⟨rfl, hb8⟩; have hq8 := hb8; have z8 := hb8.size; have hB8 := hB7.trans (hq8.mono hB7.size); have Xb_8 := Xb_7.below hq8 (by omega); have Xo_8 := Xo_7.below hq8 (by omega); have Xx_8 := Xx_7.below hq8 (by omega); have Xy_8 := Xy_7.below hq8 (by omega); have Ro_8 := Ro_7.same hq8; have Rx_8 := Rx_7.same hq8; have Ry_8 := Ry_7.same hq8; have cb0_8 := Xb_8.c0; have cb1_8 := Xb_8.c1; have lb_8 : w.heap.size < w8.heap.size := (by omega); have co0_8 := Xo_8.c0; have co1_8 := Xo_8.c1; have lo_8 : w2.heap.size < w8.heap.size := (by omega); have cx0_8 := Xx_8.c0; have cx1_8 := Xx_8.c1; have lx_8 : w3.heap.size < w8.heap.size := (by omega); have cy0_8 := Xy_8.c0; have cy1_8 := Xy_8.c1; have ly_8 : w4.heap.size < w8.heap.size := (by omega); clear cb0_7 cb1_7 lb_7 co0_7 co1_7 lo_7 cx0_7 cx1_7 lx_7 cy0_7 cy1_7 ly_7))
  go_ret
  exact ⟨rfl, hB8⟩
end Go.Proofs.Ytcnlnkknfcmbhaa.Wk

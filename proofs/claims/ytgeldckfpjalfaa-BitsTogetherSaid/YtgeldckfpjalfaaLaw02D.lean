/- The law BitsTogether. -/
import Derived.Test.YtgeldckfpjalfaaLaw02
namespace Go.Proofs.Ytgeldckfpjalfaa.Wk
open Go.RowKit Go.Proofs.Ytgeldckfpjalfaa.Kit Go.Proofs.Ytgeldckfpjalfaa.M01 Go.Proofs.Ytgeldckfpjalfaa.M02 Go.Proofs.Ytgeldckfpjalfaa.Bt Go.Proofs.Ytgeldckfpjalfaa.R02
set_option linter.unusedVariables false

theorem or_shift (y z n m : Int) (hn : 0 ≤ n) (hm : 0 ≤ m) (hnm : n + m ≤ 64) (hy0 : 0 ≤ y) (hy : y < p2 n) (hz0 : 0 ≤ z) (hz : z < p2 m) :
    0 ≤ z * p2 n ∧ y + z * p2 n < p2 (n + m) ∧ bits .or .u64 y (z * p2 n) = y + z * p2 n := by
  have hp := p2_pos n
  have h1 := join_lt hn hm hy hz
  have h2 := p2_le64 hnm
  have h3 : 0 ≤ z * p2 n := Int.mul_nonneg hz0 (by omega)
  have e64 : (2 : Int) ^ 64 = 18446744073709551616 := by decide +kernel
  have e : bits .or .u64 y (z * p2 n) = bits .or .u64 (z * p2 n) y := by simp only [bits, BitVec.or_comm]
  refine ⟨h3, h1, ?_⟩
  rw [e, bits_join .u64 64 (by decide) (fun n h h' => by rw [e64] at h'; simp [IntKind.wrap, IntKind.bits, IntKind.signed]; omega) n.toNat _ _ h3 (by show z * p2 n % p2 n = 0; exact Int.mul_emod_left ..) (by rw [e64]; omega) hy0 hy (by rw [e64]; omega), Int.add_comm]

set_option maxHeartbeats 8000000 in
theorem bitsTogether_walk (a00 : Option Addr) (l00 c00 : Nat) (x00 : List Int) (n01 : Int) (a1 : Int) (a2 : Int) (a3 : Int) (a4 : Int) (w : World) (r00 : RowIn .u8 w a00 l00 c00 x00) (b01 : -9223372036854775808 ≤ n01 ∧ n01 ≤ 9223372036854775807) (b1 : 0 ≤ a1 ∧ a1 ≤ 18446744073709551615) (b2 : 0 ≤ a2 ∧ a2 ≤ 18446744073709551615) (b3 : -9223372036854775808 ≤ a3 ∧ a3 ≤ 9223372036854775807) (b4 : -9223372036854775808 ≤ a4 ∧ a4 ≤ 9223372036854775807) :
    Calls Try.prog 5 #[.agg #[.slice a00 l00 c00, .int .i64 n01], .int .u64 a1, .int .u64 a2, .int .i64 a3, .int .i64 a4] w fun e w' => e = .returned (.bool true) ∧ Below w.heap.size w w' := by
  have hC := fun w' (r : RowIn .u8 w' a00 l00 c00 x00) => rcheck_any a00 l00 c00 x00 n01 w' r b01
  unfold bv at hC
  by_cases hok : okB x00 n01 = true
  · have e1 : chkE x00 n01 = 0 := by simp [chkE, hok]
    simp only [e1] at hC
    clear e1
    obtain ⟨hn0, hn1, hxl, hval⟩ := okB_iff.1 hok
    have hby := byte_of r00.rd
    have hv0 := val_nonneg hby
    by_cases t0 : 1500 < n01
    · have f0 : (1500 < n01) = True := eq_true t0
      go_enter Try.func5, Try.ntmps5
      go_wp2_with (first | ((with_reducible refine (hC _ (r00.same (below1 w _))).mono ?_); rintro e w1 ⟨rfl, hb1⟩; rw [size1] at hb1; have hB1 := (below1 w _).trans (hb1.mono (by omega)); have z1 := hb1.size; rw [size1] at z1; have Xb_1 := (Box2.of (blk1 w _)).below hb1 (by omega); have cb0_1 := Xb_1.c0; have cb1_1 := Xb_1.c1; have lb_1 : w.heap.size < w1.heap.size := (by omega)) | (go_at_call 19; refine (alive_any _).mono ?_; rintro e wA ⟨rfl, hbA⟩))
      go_ret
      exact ⟨rfl, hB1.trans (hbA.mono hB1.size)⟩
    have f0 : (1500 < n01) = False := eq_false t0
    by_cases t1 : a3 < 0
    · have f1 : (a3 < 0) = True := eq_true t1
      go_enter Try.func5, Try.ntmps5
      go_wp2_with (first | ((with_reducible refine (hC _ (r00.same (below1 w _))).mono ?_); rintro e w1 ⟨rfl, hb1⟩; rw [size1] at hb1; have hB1 := (below1 w _).trans (hb1.mono (by omega)); have z1 := hb1.size; rw [size1] at z1; have Xb_1 := (Box2.of (blk1 w _)).below hb1 (by omega); have cb0_1 := Xb_1.c0; have cb1_1 := Xb_1.c1; have lb_1 : w.heap.size < w1.heap.size := (by omega)) | (go_at_call 19; refine (alive_any _).mono ?_; rintro e wA ⟨rfl, hbA⟩))
      go_ret
      exact ⟨rfl, hB1.trans (hbA.mono hB1.size)⟩
    have f1 : (a3 < 0) = False := eq_false t1
    by_cases t2 : a4 < 0
    · have f2 : (a4 < 0) = True := eq_true t2
      go_enter Try.func5, Try.ntmps5
      go_wp2_with (first | ((with_reducible refine (hC _ (r00.same (below1 w _))).mono ?_); rintro e w1 ⟨rfl, hb1⟩; rw [size1] at hb1; have hB1 := (below1 w _).trans (hb1.mono (by omega)); have z1 := hb1.size; rw [size1] at z1; have Xb_1 := (Box2.of (blk1 w _)).below hb1 (by omega); have cb0_1 := Xb_1.c0; have cb1_1 := Xb_1.c1; have lb_1 : w.heap.size < w1.heap.size := (by omega)) | (go_at_call 19; refine (alive_any _).mono ?_; rintro e wA ⟨rfl, hbA⟩))
      go_ret
      exact ⟨rfl, hB1.trans (hbA.mono hB1.size)⟩
    have f2 : (a4 < 0) = False := eq_false t2
    by_cases t3 : 64 < a3
    · have f3 : (64 < a3) = True := eq_true t3
      go_enter Try.func5, Try.ntmps5
      go_wp2_with (first | ((with_reducible refine (hC _ (r00.same (below1 w _))).mono ?_); rintro e w1 ⟨rfl, hb1⟩; rw [size1] at hb1; have hB1 := (below1 w _).trans (hb1.mono (by omega)); have z1 := hb1.size; rw [size1] at z1; have Xb_1 := (Box2.of (blk1 w _)).below hb1 (by omega); have cb0_1 := Xb_1.c0; have cb1_1 := Xb_1.c1; have lb_1 : w.heap.size < w1.heap.size := (by omega)) | (go_at_call 19; refine (alive_any _).mono ?_; rintro e wA ⟨rfl, hbA⟩))
      go_ret
      exact ⟨rfl, hB1.trans (hbA.mono hB1.size)⟩
    have f3 : (64 < a3) = False := eq_false t3
    by_cases t4 : 64 - a3 < a4
    · have f4 : (64 - a3 < a4) = True := eq_true t4
      go_enter Try.func5, Try.ntmps5
      go_wp2_with (first | ((with_reducible refine (hC _ (r00.same (below1 w _))).mono ?_); rintro e w1 ⟨rfl, hb1⟩; rw [size1] at hb1; have hB1 := (below1 w _).trans (hb1.mono (by omega)); have z1 := hb1.size; rw [size1] at z1; have Xb_1 := (Box2.of (blk1 w _)).below hb1 (by omega); have cb0_1 := Xb_1.c0; have cb1_1 := Xb_1.c1; have lb_1 : w.heap.size < w1.heap.size := (by omega)) | (go_at_call 19; refine (alive_any _).mono ?_; rintro e wA ⟨rfl, hbA⟩))
      go_ret
      exact ⟨rfl, hB1.trans (hbA.mono hB1.size)⟩
    have f4 : (64 - a3 < a4) = False := eq_false t4
    have hcut1 := fun w' => cut_low a1 a3 w' b1.1 (by omega) (by omega) (by omega)
    have hcut2 := fun w' => cut_low a2 a4 w' b2.1 (by omega) (by omega) (by omega)
    rw [show min a3 64 = a3 by omega] at hcut1
    rw [show min a4 64 = a4 by omega] at hcut2
    obtain ⟨V, hV⟩ : ∃ V, val x00 = V := ⟨_, rfl⟩
    obtain ⟨y, hy⟩ : ∃ y, a1 % p2 a3 = y := ⟨_, rfl⟩
    obtain ⟨z, hz⟩ : ∃ z, a2 % p2 a4 = z := ⟨_, rfl⟩
    have hyb := emod_bd a1 a3
    have hzb := emod_bd a2 a4
    rw [hy] at hyb
    rw [hz] at hzb
    rw [hV] at hval hv0
    simp only [hy] at hcut1
    simp only [hz] at hcut2
    have hy64 := p2_le64 (show a3 ≤ 64 by omega)
    have hz64 := p2_le64 (show a4 ≤ 64 by omega)
    have hyz64 := p2_le64 (show a3 + a4 ≤ 64 by omega)
    obtain ⟨o1, o2, o3⟩ := or_shift y z a3 a4 (by omega) (by omega) (by omega) hyb.1 hyb.2 hzb.1 hzb.2
    have hP := fun w' (r : RowIn .u8 w' a00 l00 c00 x00) => put_any a00 l00 c00 x00 n01 y a3 w' r b01 hyb.1 (by omega) b3
    have g1 : putE x00 n01 y a3 = 0 := by
      have h1 : ¬ p2 a3 ≤ y := by omega
      have h2 : ¬ 330000 < n01 + a3 := by omega
      simp [putE, hok, t1, t3, h1, h2]
    have hT0 : 0 ≤ V + y * p2 n01 := by have := Int.mul_nonneg hyb.1 (show 0 ≤ p2 n01 by have := p2_pos n01; omega); omega
    have hT1 := join_lt hn0 (show 0 ≤ a3 by omega) hval hyb.2
    have g2 : putL x00 n01 y a3 = bl (n01 + a3) (V + y * p2 n01) := by rw [putL, if_pos g1, hV]
    have g3 : putN x00 n01 y a3 = n01 + a3 := by rw [putN, if_pos g1]
    have hokX : okB (bl (n01 + a3) (V + y * p2 n01)) (n01 + a3) = true := ok_bl (by omega) (by omega) hT0 hT1
    have hvX : val (bl (n01 + a3) (V + y * p2 n01)) = V + y * p2 n01 := val_bl (by omega) hT0 hT1
    obtain ⟨X, hX⟩ : ∃ X, bl (n01 + a3) (V + y * p2 n01) = X := ⟨_, rfl⟩
    obtain ⟨lx, hlx⟩ : ∃ lx, X.length = lx := ⟨_, rfl⟩
    rw [hX] at hokX hvX g2
    simp only [g1, g2, g3, hlx] at hP
    have k1 : putE X (n01 + a3) z a4 = 0 := by
      have h1 : ¬ p2 a4 ≤ z := by omega
      have h2 : ¬ 330000 < n01 + a3 + a4 := by omega
      have h3 : ¬ 64 < a4 := by omega
      simp [putE, hokX, t2, h3, h1, h2]
    have hall : V + y * p2 n01 + z * p2 (n01 + a3) = V + (y + z * p2 a3) * p2 n01 := by
      rw [p2_add hn0 (by omega), Int.add_mul, Int.mul_comm (p2 n01), ← Int.mul_assoc, Int.add_assoc]
    have k2 : putL X (n01 + a3) z a4 = bl (n01 + a3 + a4) (V + (y + z * p2 a3) * p2 n01) := by rw [putL, if_pos k1, hvX, hall]
    have k3 : putN X (n01 + a3) z a4 = n01 + a3 + a4 := by rw [putN, if_pos k1]
    have hQ := fun a q w' (r : RowIn .u8 w' a lx q X) => put_any a lx q X (n01 + a3) z a4 w' r (isInt_small (by omega) (by omega)) hzb.1 (by omega) b4
    obtain ⟨Z, hZ⟩ : ∃ Z, bl (n01 + a3 + a4) (V + (y + z * p2 a3) * p2 n01) = Z := ⟨_, rfl⟩
    obtain ⟨lz, hlz⟩ : ∃ lz, Z.length = lz := ⟨_, rfl⟩
    rw [hZ] at k2
    simp only [k1, k2, k3, hlz] at hQ
    have j1 : putE x00 n01 (y + z * p2 a3) (a3 + a4) = 0 := by
      have h1 : ¬ p2 (a3 + a4) ≤ y + z * p2 a3 := by omega
      have h2 : ¬ 330000 < n01 + (a3 + a4) := by omega
      have h3 : ¬ 64 < a3 + a4 := by omega
      have h4 : ¬ a3 + a4 < 0 := by omega
      simp [putE, hok, h1, h2, h3, h4]
    have j2 : putL x00 n01 (y + z * p2 a3) (a3 + a4) = Z := by rw [putL, if_pos j1, hV, ← Int.add_assoc, hZ]
    have j3 : putN x00 n01 (y + z * p2 a3) (a3 + a4) = n01 + a3 + a4 := by rw [putN, if_pos j1, Int.add_assoc]
    have hR := fun w' (r : RowIn .u8 w' a00 l00 c00 x00) => put_any a00 l00 c00 x00 n01 (y + z * p2 a3) (a3 + a4) w' r b01 (by omega) (by omega) (isInt_small (by omega) (by omega))
    simp only [j1, j2, j3, hlz] at hR
    have hS := fun a q a' q' w' (r : RowIn .u8 w' a lz q Z) (r' : RowIn .u8 w' a' lz q' Z) => same_any a lz q Z (n01 + a3 + a4) a' lz q' Z (n01 + a3 + a4) w' r r'
    have e10 : sameB Z (n01 + a3 + a4) Z (n01 + a3 + a4) = true := by simp [sameB]
    simp only [e10] at hS
    have ob : z * p2 a3 < 18446744073709551616 := by omega
    unfold bv at hP hQ hR hS
    clear g1 g2 g3 k1 k2 k3 j1 j2 j3 e10 hT0 hT1 hX hlx hZ hlz hokX hvX hall hok hy hz hyz64
    by_cases h64 : a3 < 64
    · have f6 : (a3 < 64) = True := eq_true h64
      unfold p2 at o1 o2 o3 ob hR hyb hzb hy64 hz64
      go_enter Try.func5, Try.ntmps5
      go_wp2_with (first | ((with_reducible refine (hC _ (r00.same (below1 w _))).mono ?_); rintro e w1 ⟨rfl, hb1⟩; rw [size1] at hb1; have hB1 := (below1 w _).trans (hb1.mono (by omega)); have z1 := hb1.size; rw [size1] at z1; have Xb_1 := (Box2.of (blk1 w _)).below hb1 (by omega); have cb0_1 := Xb_1.c0; have cb1_1 := Xb_1.c1; have lb_1 : w.heap.size < w1.heap.size := (by omega)) | (go_at_call 20; (with_reducible refine (hcut1 _).mono ?_); rintro e wz ⟨rfl, rfl⟩) | (go_at_call 20; (with_reducible refine (hcut2 _).mono ?_); rintro e wz ⟨rfl, rfl⟩) | ((with_reducible refine (hP _ (r00.same (hB1))).mono ?_); rintro e w2 ⟨a2, q2, rfl, h2, hb2, -⟩; have hq2 := hb2; have z2 := hb2.size; have hB2 := hB1.trans (hq2.mono hB1.size); have Xb_2 := Xb_1.below hq2 (by omega); have Rx_2 := h2; have cb0_2 := Xb_2.c0; have cb1_2 := Xb_2.c1; have lb_2 : w.heap.size < w2.heap.size := (by omega); clear cb0_1 cb1_1 lb_1) | ((with_reducible refine (hQ _ _ _ (Rx_2.same (below1 w2 _))).mono ?_); rintro e w3 ⟨a3, q3, rfl, h3, hb3, -⟩; rw [size1] at hb3; have hq3 := (below1 w2 _).trans (hb3.mono (Nat.le_succ _)); have z3 := hb3.size; rw [size1] at z3; have hB3 := hB2.trans (hq3.mono hB2.size); have Xb_3 := Xb_2.below hq3 (by omega); have Xx_3 := (Box2.of (blk1 w2 _)).below hb3 (Nat.lt_succ_self _); have Rx_3 := Rx_2.same hq3; have Ry_3 := h3; have cb0_3 := Xb_3.c0; have cb1_3 := Xb_3.c1; have lb_3 : w.heap.size < w3.heap.size := (by omega); have cx0_3 := Xx_3.c0; have cx1_3 := Xx_3.c1; have lx_3 : w2.heap.size < w3.heap.size := (by omega); clear cb0_2 cb1_2 lb_2) | ((with_reducible refine (hR _ (r00.same (hB3.trans ((below1 w3 _).mono hB3.size)))).mono ?_); rintro e w4 ⟨a4, q4, rfl, h4, hb4, -⟩; rw [size1] at hb4; have hq4 := (below1 w3 _).trans (hb4.mono (Nat.le_succ _)); have z4 := hb4.size; rw [size1] at z4; have hB4 := hB3.trans (hq4.mono hB3.size); have Xb_4 := Xb_3.below hq4 (by omega); have Xx_4 := Xx_3.below hq4 (by omega); have Xy_4 := (Box2.of (blk1 w3 _)).below hb4 (Nat.lt_succ_self _); have Rx_4 := Rx_3.same hq4; have Ry_4 := Ry_3.same hq4; have Rz_4 := h4; have cb0_4 := Xb_4.c0; have cb1_4 := Xb_4.c1; have lb_4 : w.heap.size < w4.heap.size := (by omega); have cx0_4 := Xx_4.c0; have cx1_4 := Xx_4.c1; have lx_4 : w2.heap.size < w4.heap.size := (by omega); have cy0_4 := Xy_4.c0; have cy1_4 := Xy_4.c1; have ly_4 : w3.heap.size < w4.heap.size := (by omega); clear cb0_3 cb1_3 lb_3 cx0_3 cx1_3 lx_3) | ((with_reducible refine (hS _ _ _ _ _ (Ry_4.same (below1 w4 _)) (Rz_4.same (below1 w4 _))).mono ?_); rintro e w5 ⟨rfl, hb5⟩; rw [size1] at hb5; have hq5 := (below1 w4 _).trans (hb5.mono (Nat.le_succ _)); have z5 := hb5.size; rw [size1] at z5; have hB5 := hB4.trans (hq5.mono hB4.size); have Xb_5 := Xb_4.below hq5 (by omega); have Xx_5 := Xx_4.below hq5 (by omega); have Xy_5 := Xy_4.below hq5 (by omega); have Xz_5 := (Box2.of (blk1 w4 _)).below hb5 (Nat.lt_succ_self _); have Rx_5 := Rx_4.same hq5; have Ry_5 := Ry_4.same hq5; have Rz_5 := Rz_4.same hq5; have cb0_5 := Xb_5.c0; have cb1_5 := Xb_5.c1; have lb_5 : w.heap.size < w5.heap.size := (by omega); have cx0_5 := Xx_5.c0; have cx1_5 := Xx_5.c1; have lx_5 : w2.heap.size < w5.heap.size := (by omega); have cy0_5 := Xy_5.c0; have cy1_5 := Xy_5.c1; have ly_5 : w3.heap.size < w5.heap.size := (by omega); have cz0_5 := Xz_5.c0; have cz1_5 := Xz_5.c1; have lz_5 : w4.heap.size < w5.heap.size := (by omega); clear cb0_4 cb1_4 lb_4 cx0_4 cx1_4 lx_4 cy0_4 cy1_4 ly_4) | (go_at_call 19; refine (alive_any _).mono ?_; rintro e wA ⟨rfl, hbA⟩))
      go_ret
      exact ⟨rfl, hB5.trans (hbA.mono hB5.size)⟩
    · have f6 : (a3 < 64) = False := eq_false h64
      obtain rfl : a3 = 64 := by omega
      obtain rfl : a4 = 0 := by omega
      have hz0 : z = 0 := by have : p2 0 = 1 := rfl; omega
      subst hz0
      simp only [Int.zero_mul, Int.add_zero] at hR hQ hS
      clear o1 o2 o3 ob hyb hzb hy64 hz64
      go_enter Try.func5, Try.ntmps5
      go_wp2_with (first | ((with_reducible refine (hC _ (r00.same (below1 w _))).mono ?_); rintro e w1 ⟨rfl, hb1⟩; rw [size1] at hb1; have hB1 := (below1 w _).trans (hb1.mono (by omega)); have z1 := hb1.size; rw [size1] at z1; have Xb_1 := (Box2.of (blk1 w _)).below hb1 (by omega); have cb0_1 := Xb_1.c0; have cb1_1 := Xb_1.c1; have lb_1 : w.heap.size < w1.heap.size := (by omega)) | (go_at_call 20; (with_reducible refine (hcut1 _).mono ?_); rintro e wz ⟨rfl, rfl⟩) | (go_at_call 20; (with_reducible refine (hcut2 _).mono ?_); rintro e wz ⟨rfl, rfl⟩) | ((with_reducible refine (hP _ (r00.same (hB1))).mono ?_); rintro e w2 ⟨a2, q2, rfl, h2, hb2, -⟩; have hq2 := hb2; have z2 := hb2.size; have hB2 := hB1.trans (hq2.mono hB1.size); have Xb_2 := Xb_1.below hq2 (by omega); have Rx_2 := h2; have cb0_2 := Xb_2.c0; have cb1_2 := Xb_2.c1; have lb_2 : w.heap.size < w2.heap.size := (by omega); clear cb0_1 cb1_1 lb_1) | ((with_reducible refine (hQ _ _ _ (Rx_2.same (below1 w2 _))).mono ?_); rintro e w3 ⟨a3, q3, rfl, h3, hb3, -⟩; rw [size1] at hb3; have hq3 := (below1 w2 _).trans (hb3.mono (Nat.le_succ _)); have z3 := hb3.size; rw [size1] at z3; have hB3 := hB2.trans (hq3.mono hB2.size); have Xb_3 := Xb_2.below hq3 (by omega); have Xx_3 := (Box2.of (blk1 w2 _)).below hb3 (Nat.lt_succ_self _); have Rx_3 := Rx_2.same hq3; have Ry_3 := h3; have cb0_3 := Xb_3.c0; have cb1_3 := Xb_3.c1; have lb_3 : w.heap.size < w3.heap.size := (by omega); have cx0_3 := Xx_3.c0; have cx1_3 := Xx_3.c1; have lx_3 : w2.heap.size < w3.heap.size := (by omega); clear cb0_2 cb1_2 lb_2) | ((with_reducible refine (hR _ (r00.same (hB3.trans ((below1 w3 _).mono hB3.size)))).mono ?_); rintro e w4 ⟨a4, q4, rfl, h4, hb4, -⟩; rw [size1] at hb4; have hq4 := (below1 w3 _).trans (hb4.mono (Nat.le_succ _)); have z4 := hb4.size; rw [size1] at z4; have hB4 := hB3.trans (hq4.mono hB3.size); have Xb_4 := Xb_3.below hq4 (by omega); have Xx_4 := Xx_3.below hq4 (by omega); have Xy_4 := (Box2.of (blk1 w3 _)).below hb4 (Nat.lt_succ_self _); have Rx_4 := Rx_3.same hq4; have Ry_4 := Ry_3.same hq4; have Rz_4 := h4; have cb0_4 := Xb_4.c0; have cb1_4 := Xb_4.c1; have lb_4 : w.heap.size < w4.heap.size := (by omega); have cx0_4 := Xx_4.c0; have cx1_4 := Xx_4.c1; have lx_4 : w2.heap.size < w4.heap.size := (by omega); have cy0_4 := Xy_4.c0; have cy1_4 := Xy_4.c1; have ly_4 : w3.heap.size < w4.heap.size := (by omega); clear cb0_3 cb1_3 lb_3 cx0_3 cx1_3 lx_3) | ((with_reducible refine (hS _ _ _ _ _ (Ry_4.same (below1 w4 _)) (Rz_4.same (below1 w4 _))).mono ?_); rintro e w5 ⟨rfl, hb5⟩; rw [size1] at hb5; have hq5 := (below1 w4 _).trans (hb5.mono (Nat.le_succ _)); have z5 := hb5.size; rw [size1] at z5; have hB5 := hB4.trans (hq5.mono hB4.size); have Xb_5 := Xb_4.below hq5 (by omega); have Xx_5 := Xx_4.below hq5 (by omega); have Xy_5 := Xy_4.below hq5 (by omega); have Xz_5 := (Box2.of (blk1 w4 _)).below hb5 (Nat.lt_succ_self _); have Rx_5 := Rx_4.same hq5; have Ry_5 := Ry_4.same hq5; have Rz_5 := Rz_4.same hq5; have cb0_5 := Xb_5.c0; have cb1_5 := Xb_5.c1; have lb_5 : w.heap.size < w5.heap.size := (by omega); have cx0_5 := Xx_5.c0; have cx1_5 := Xx_5.c1; have lx_5 : w2.heap.size < w5.heap.size := (by omega); have cy0_5 := Xy_5.c0; have cy1_5 := Xy_5.c1; have ly_5 : w3.heap.size < w5.heap.size := (by omega); have cz0_5 := Xz_5.c0; have cz1_5 := Xz_5.c1; have lz_5 : w4.heap.size < w5.heap.size := (by omega); clear cb0_4 cb1_4 lb_4 cx0_4 cx1_4 lx_4 cy0_4 cy1_4 ly_4) | (go_at_call 19; refine (alive_any _).mono ?_; rintro e wA ⟨rfl, hbA⟩))
      go_ret
      exact ⟨rfl, hB5.trans (hbA.mono hB5.size)⟩
  · have e1 : chkE x00 n01 = 8 := by simp [chkE, hok]
    simp only [e1] at hC
    go_enter Try.func5, Try.ntmps5
    go_wp2_with (first | ((with_reducible refine (hC _ (r00.same (below1 w _))).mono ?_); rintro e w1 ⟨rfl, hb1⟩; rw [size1] at hb1; have hB1 := (below1 w _).trans (hb1.mono (by omega)); have z1 := hb1.size; rw [size1] at z1; have Xb_1 := (Box2.of (blk1 w _)).below hb1 (by omega); have cb0_1 := Xb_1.c0; have cb1_1 := Xb_1.c1; have lb_1 : w.heap.size < w1.heap.size := (by omega)) | (go_at_call 19; refine (alive_any _).mono ?_; rintro e wA ⟨rfl, hbA⟩))
    go_ret
    exact ⟨rfl, hB1.trans (hbA.mono hB1.size)⟩
end Go.Proofs.Ytgeldckfpjalfaa.Wk

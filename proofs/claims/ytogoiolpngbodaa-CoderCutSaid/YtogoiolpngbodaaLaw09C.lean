/- The law CoderCut. -/
import Derived.Test.YtogoiolpngbodaaLaw09
import Derived.Test.YtogoiolpngbodaaGL8
namespace Go.Proofs.Ytogoiolpngbodaa.Wk
open Go.Proofs Go.RowKit Go.Proofs.Ytogoiolpngbodaa.Kit Go.Proofs.Ytogoiolpngbodaa.M01 Go.Proofs.Ytogoiolpngbodaa.M02 Go.Proofs.Ytogoiolpngbodaa.M05 Go.Proofs.Ytogoiolpngbodaa.M06 Go.Proofs.Ytogoiolpngbodaa.M07 Go.Proofs.Ytogoiolpngbodaa.M08 Go.Proofs.Ytogoiolpngbodaa.M09 Go.Proofs.Ytogoiolpngbodaa.Bt Go.Proofs.Ytogoiolpngbodaa.R02 Go.Proofs.Ytogoiolpngbodaa.Co Go.Proofs.Ytogoiolpngbodaa.R09
set_option linter.unusedVariables false
set_option linter.unusedSimpArgs false

/-- The first bits of a code. -/
theorem cut9 {l : List Int} {left : Int} (hl : okV l) (hlen : l.length ≤ 100) (h0 : 0 ≤ left) (h1 : left < enN l) :
    cuE (enL l) (enN l) 0 left = 0 ∧ cuN (enL l) (enN l) 0 left = left ∧ ∀ k : Nat, k ≤ l.length → enE (l.take k) = 0 ∧ (enN (l.take k) ≤ left → M09.deE (cuL (enL l) (enN l) 0 left) left k = 0 ∧ deL (cuL (enL l) (enN l) 0 left) left k = l.take k ∧ deX (cuL (enL l) (enN l) 0 left) left k = enN (l.take k)) ∧ (left < enN (l.take k) → M09.deE (cuL (enL l) (enN l) 0 left) left k = 24 ∧ deL (cuL (enL l) (enN l) 0 left) left k = [] ∧ deX (cuL (enL l) (enN l) 0 left) left k = 0) := by
  obtain ⟨e1, e2, e3, -⟩ := c_en (l := l) (by omega)
  obtain ⟨b1, b2, b3, b4, b5, b6⟩ := c_bd isD_st' okD_st hl (by omega)
  rw [e2] at h1
  rw [e2, e3]
  have q1 : ∀ m, MP.jN 0 (pcd stD m) = cN stD m := fun m => by unfold MP.jN cN; omega
  have q2 : MP.jV 0 0 (pcd stD l) = cV stD l := by unfold MP.jV cV; rw [p2_zero]; omega
  have cE : cuE (cL stD l) (cN stD l) 0 left = 0 := by rw [cuE, if_pos b5, if_neg (by omega)]
  have cL' : cuL (cL stD l) (cN stD l) 0 left = bl left (MP.jV 0 0 (pcd stD l) % p2 left) := by rw [cuL, if_pos cE, p2_zero, Int.ediv_one, Int.sub_zero, b6, q2]
  refine ⟨cE, by rw [cuN, if_pos cE]; omega, fun k hk => ?_⟩
  obtain ⟨d1, d2, -, -⟩ := c_en (l := l.take k) (by rw [List.length_take]; omega)
  obtain ⟨-, g2, g3⟩ := de_cut (l := l) (k := k) hl (by omega) h0 (by rw [q1]; exact h1) hk
  rw [q1] at g2 g3
  rw [d2, cL']
  exact ⟨d1, g2, g3⟩

set_option maxRecDepth 100000 in
set_option maxHeartbeats 8000000 in
theorem coderCut_walk (a0 : Option Addr) (l0 c0 : Nat) (x0 : List Int) (a1 : Int) (w : World) (r0 : RowIn .u32 w a0 l0 c0 x0) (b1 : -9223372036854775808 ≤ a1 ∧ a1 ≤ 9223372036854775807) :
    Calls Try.prog 9 #[.slice a0 l0 c0, .int .i64 a1] w fun e w' => e = .returned (.bool true) ∧ Below w.heap.size w w' := by
  obtain ⟨lf, rfl⟩ : ∃ z : Int, z = a1 := ⟨_, rfl⟩
  have h0 := r0.hl
  by_cases t0 : l0 < 1
  · have f0 : ((l0 : Int) < 1) = True := eq_true (by omega)
    go_enter Try.func9, Try.ntmps9
    go_wp2_with (first | ((with_reducible refine (alive9_any _).mono ?_); rintro e wA ⟨rfl, hbA⟩))
    go_ret
    exact ⟨rfl, hbA⟩
  have f0 : ((l0 : Int) < 1) = False := eq_false (by omega)
  by_cases t1 : 100 < l0
  · have f1 : (100 < (l0 : Int)) = True := eq_true (by omega)
    go_enter Try.func9, Try.ntmps9
    go_wp2_with (first | ((with_reducible refine (alive9_any _).mono ?_); rintro e wA ⟨rfl, hbA⟩))
    go_ret
    exact ⟨rfl, hbA⟩
  have f1 : (100 < (l0 : Int)) = False := eq_false (by omega)
  have hU := Co.okV_row r0.rd.2.2
  have hE := fun w' (r : RowIn .u32 w' a0 l0 c0 x0) => enc_any a0 l0 c0 x0 w' r
  have hE2 := fun k a q w' (r : RowIn .u32 w' a k q (x0.take k)) => enc_any a k q (x0.take k) w' r
  obtain ⟨e1, -, -, -⟩ := c_en (l := x0) (by omega)
  simp only [e1] at hE
  obtain ⟨N, hN⟩ : ∃ L, enN x0 = L := ⟨_, rfl⟩
  obtain ⟨L, hL⟩ : ∃ L, enL x0 = L := ⟨_, rfl⟩
  obtain ⟨lL, hlL⟩ : ∃ l, L.length = l := ⟨_, rfl⟩
  simp only [hL, hlL, hN] at hE
  have hc9 := cut9 (left := lf) hU (by omega)
  rw [hL, hN] at hc9
  have hNb : 0 ≤ N ∧ N ≤ 330000 := by
    obtain ⟨_, g2, _, _⟩ := c_en (l := x0) (by omega)
    obtain ⟨b1, b2, _, _, _, _⟩ := c_bd isD_st' okD_st hU (by omega)
    rw [← hN, g2]; omega
  unfold bv at hE
  have hN' := hN
  clear e1 hL hN
  by_cases t2 : lf < 0
  · have f2 : (lf < 0) = True := eq_true t2
    go_enter Try.func9, Try.ntmps9
    go_wp2_with (first | ((with_reducible refine (hE _ (r0.same ((Below.refl _ w)))).mono ?_); rintro e w1 ⟨a1, q1, rfl, h1, hb1, -⟩; have z1 := hb1.size; have hq1 : Below w.heap.size w w1 := (Below.refl _ w).trans (hb1.mono (by omega)); have hB1 := hq1; have Rc_1 := h1) | (go_at_call 16; (with_reducible refine (alive9_any _).mono ?_); rintro e wA ⟨rfl, hbA⟩; rw [size1] at hbA))
    go_ret
    exact ⟨rfl, (hB1.trans ((below1 w1 _).mono hB1.size)).trans (hbA.mono (by have := hB1.size; omega))⟩
  have f2 : (lf < 0) = False := eq_false t2
  by_cases t3 : N ≤ lf
  · have f3 : (N ≤ lf) = True := eq_true t3
    go_enter Try.func9, Try.ntmps9
    go_wp2_with (first | ((with_reducible refine (hE _ (r0.same ((Below.refl _ w)))).mono ?_); rintro e w1 ⟨a1, q1, rfl, h1, hb1, -⟩; have z1 := hb1.size; have hq1 : Below w.heap.size w w1 := (Below.refl _ w).trans (hb1.mono (by omega)); have hB1 := hq1; have Rc_1 := h1) | (go_at_call 16; (with_reducible refine (alive9_any _).mono ?_); rintro e wA ⟨rfl, hbA⟩; rw [size1] at hbA))
    go_ret
    exact ⟨rfl, (hB1.trans ((below1 w1 _).mono hB1.size)).trans (hbA.mono (by have := hB1.size; omega))⟩
  have f3 : (N ≤ lf) = False := eq_false t3
  obtain ⟨kE, kN, kk⟩ := hc9 (by omega) (by omega)
  have hK := fun a q w' (r : RowIn .u8 w' a lL q L) => cut_any a lL q L N 0 lf w' r (isInt_small (by omega) (by omega)) (isInt_small (by decide) (by decide)) b1
  obtain ⟨P, hP⟩ : ∃ z, cuL L N 0 lf = z := ⟨_, rfl⟩
  obtain ⟨lP, hlP⟩ : ∃ l, P.length = l := ⟨_, rfl⟩
  simp only [kE, kN, hP, hlP] at hK
  simp only [hP] at kk
  have hD := fun a q w' (r : RowIn .u8 w' a lP q P) => dec9_any a lP q P lf l0 w' r b1 (isInt_small (by omega) (by omega))
  obtain ⟨-, -, kl⟩ := kk l0 (by omega)
  obtain ⟨kl1, kl2, kl3⟩ := kl (by rw [List.take_of_length_le (by omega), hN']; omega)
  simp only [kl1, kl2, kl3, List.length_nil] at hD
  have HK := hid kk
  have hcl := r0.hc
  obtain ⟨b, off, rfl, -⟩ := r0.rd.cells (by intro h; rw [h] at h0; simp at h0; omega)
  unfold bv at hK hD
  clear kl kl1 kl2 kl3 kE kN hP hlP hlL hc9 kk hN'
  go_enter Try.func9, Try.ntmps9
  go_wp2_with (first | ((with_reducible refine (hE _ (r0.same ((Below.refl _ w)))).mono ?_); rintro e w1 ⟨a1, q1, rfl, h1, hb1, -⟩; have z1 := hb1.size; have hq1 : Below w.heap.size w w1 := (Below.refl _ w).trans (hb1.mono (by omega)); have hB1 := hq1; have Rc_1 := h1) | ((with_reducible refine (hK _ _ _ (Rc_1.same (below1 w1 _))).mono ?_); rintro e w2 ⟨a2, q2, rfl, h2, hb2, -⟩; rw [size1] at hb2; have z2 := hb2.size; rw [size1] at z2; have hq2 : Below w1.heap.size w1 w2 := (below1 w1 _).trans (hb2.mono (by omega)); have hB2 := hB1.trans (hq2.mono hB1.size); have Xc_2 := (Box2.of (blk1 w1 _)).below hb2 (by omega); have Rc_2 := Rc_1.same hq2; have Rp_2 := h2; have cc0_2 := Xc_2.c0; have cc1_2 := Xc_2.c1; have lc_2 : w1.heap.size < w2.heap.size := (by omega)) | ((with_reducible refine (hD _ _ _ (Rp_2.same (below1 w2 _))).mono ?_); rintro e w3 ⟨a3, q3, rfl, h3, hb3⟩; rw [size1] at hb3; have z3 := hb3.size; rw [size1] at z3; have hq3 : Below w2.heap.size w2 w3 := (below1 w2 _).trans (hb3.mono (by omega)); have hB3 := hB2.trans (hq3.mono hB2.size); have Xc_3 := Xc_2.below hq3 (by omega); have Xp_3 := (Box2.of (blk1 w2 _)).below hb3 (by omega); have Rc_3 := Rc_2.same hq3; have Rp_3 := Rp_2.same hq3; have Rm_3 := h3; have cc0_3 := Xc_3.c0; have cc1_3 := Xc_3.c1; have lc_3 : w1.heap.size < w3.heap.size := (by omega); have cp0_3 := Xp_3.c0; have cp1_3 := Xp_3.c1; have lp_3 : w2.heap.size < w3.heap.size := (by omega); clear cc0_2 cc1_2 lc_2 Xc_2))
  have hB0 := hB3
  generalize w2.heap.size = G at Xp_3 lp_3 ⊢
  clear cp0_3 cp1_3 cc0_3 cc1_3 lc_3 Xc_3 Rc_3 Rm_3 hE hK hD hb1 hb2 hb3 h1 h2 h3 hq1 hq2 hq3 hB1 hB2 hB3 z1 z2 z3
  go_loopw [12] (fun t wr => ∃ k : Nat, k ≤ l0 ∧ t = .int .i64 k ∧ Box2 wr G (.slice a2 lP q2) (.int .i64 lf) ∧ RowIn .u8 wr a2 lP q2 P ∧ Below w.heap.size w wr ∧ G < wr.heap.size) (fun t _ => l0 - (intOf t).toNat)
  case atStart => exact ⟨0, by omega, by go_num, Xp_3, Rp_3, hB0, lp_3⟩
  case round =>
    obtain ⟨k, hk, rfl, Xp_0, Rp_0, hbr, lp_0⟩ := hrel
    clear Xp_3 Rp_3 hB0 lp_3
    by_cases hlt : k < l0
    · have r0r := r0.same hbr
      have Rf := Co.row_front r0r (n := k) (by omega)
      have hE := fun w' (r : RowIn .u32 w' (some ⟨b, off, none⟩) k c0 (x0.take k)) => hE2 k (some ⟨b, off, none⟩) c0 w' r
      have hD := fun w' (r : RowIn .u8 w' a2 lP q2 P) => dec9_any a2 lP q2 P lf k w' r b1 (isInt_small (by omega) (by omega))
      obtain ⟨k1, k2, k3⟩ := HK.out k (by omega)
      have hfl : (x0.take k).length = k := by rw [List.length_take]; omega
      have hkc : k ≤ c0 := by omega
      obtain ⟨L2, hL2⟩ : ∃ z, enL (x0.take k) = z := ⟨_, rfl⟩
      obtain ⟨N2, hN2⟩ : ∃ z, enN (x0.take k) = z := ⟨_, rfl⟩
      obtain ⟨lL2, hlL2⟩ : ∃ z, L2.length = z := ⟨_, rfl⟩
      simp only [hL2, hN2, hlL2, k1] at hE
      simp only [hN2] at k2 k3
      obtain ⟨F, hF⟩ : ∃ z, x0.take k = z := ⟨_, rfl⟩
      rw [hF] at Rf hfl
      simp only [hF] at hE k2 k3
      have cp0_0 := Xp_0.c0
      have cp1_0 := Xp_0.c1
      clear hL2 hN2 hlL2 k1 hF r0r
      by_cases hle : N2 ≤ lf
      · obtain ⟨y1, y2, y3⟩ := k2 hle
        simp only [y1, y2, y3, hfl] at hD
        have hS := fun a q w' (r : RowIn .u32 w' a k q F) (r' : RowIn .u32 w' (some ⟨b, off, none⟩) k c0 F) => same9b a k q F (some ⟨b, off, none⟩) k c0 F w' r r'
        simp only [sameL_self] at hS
        have f5 : (N2 ≤ lf) = True := eq_true hle
        clear k2 k3 y1 y2 y3
        unfold bv at hE hD
        go_wp2_with (first | ((with_reducible refine (hE _ (Rf.same ((Below.refl _ wr)))).mono ?_); rintro e w1 ⟨a1, q1, rfl, h1, hb1, -⟩; have z1 := hb1.size; have hq1 : Below wr.heap.size wr w1 := (Below.refl _ wr).trans (hb1.mono (by omega)); have hB1 := hq1; have Xp_1 := Xp_0.below hq1 (by omega); have Rc_1 := h1; have cp0_1 := Xp_1.c0; have cp1_1 := Xp_1.c1; have lp_1 : G < w1.heap.size := (by omega); clear cp0_0 cp1_0 lp_0 Xp_0) | ((with_reducible refine (hD _ (Rp_0.same (hB1.trans ((below1 w1 _).mono hB1.size)))).mono ?_); rintro e w2 ⟨a2, q2, rfl, h2, hb2⟩; rw [size1] at hb2; have z2 := hb2.size; rw [size1] at z2; have hq2 : Below w1.heap.size w1 w2 := (below1 w1 _).trans (hb2.mono (by omega)); have hB2 := hB1.trans (hq2.mono hB1.size); have Xp_2 := Xp_1.below hq2 (by omega); have Xc_2 := (Box2.of (blk1 w1 _)).below hb2 (by omega); have Rc_2 := Rc_1.same hq2; have Rm_2 := h2; have cp0_2 := Xp_2.c0; have cp1_2 := Xp_2.c1; have lp_2 : G < w2.heap.size := (by omega); have cc0_2 := Xc_2.c0; have cc1_2 := Xc_2.c1; have lc_2 : w1.heap.size < w2.heap.size := (by omega); clear cp0_1 cp1_1 lp_1 Xp_1) | ((with_reducible refine (hS _ _ _ Rm_2 (Rf.same (hB2))).mono ?_); rintro e w3 ⟨rfl, hb3⟩; have z3 := hb3.size; have hq3 : Below w2.heap.size w2 w3 := (Below.refl _ w2).trans (hb3.mono (by omega)); have hB3 := hB2.trans (hq3.mono hB2.size); have Xp_3 := Xp_2.below hq3 (by omega); have Xc_3 := Xc_2.below hq3 (by omega); have Rc_3 := Rc_2.same hq3; have Rm_3 := Rm_2.same hq3; have cp0_3 := Xp_3.c0; have cp1_3 := Xp_3.c1; have lp_3 : G < w3.heap.size := (by omega); have cc0_3 := Xc_3.c0; have cc1_3 := Xc_3.c1; have lc_3 : w1.heap.size < w3.heap.size := (by omega); clear cp0_2 cp1_2 lp_2 Xp_2 cc0_2 cc1_2 lc_2 Xc_2))
        go_roundw
        case rel => exact ⟨k + 1, by omega, by go_num, Xp_3, Rp_0.same hB3, hbr.trans (hB3.mono hbr.size), lp_3⟩
        case measure => simp [intOf]; omega
      · obtain ⟨y1, y2, y3⟩ := k3 (by omega)
        simp only [y1, y2, y3, List.length_nil] at hD
        have f5 : (N2 ≤ lf) = False := eq_false hle
        clear k2 k3 y1 y2 y3
        unfold bv at hE hD
        go_wp2_with (first | ((with_reducible refine (hE _ (Rf.same ((Below.refl _ wr)))).mono ?_); rintro e w1 ⟨a1, q1, rfl, h1, hb1, -⟩; have z1 := hb1.size; have hq1 : Below wr.heap.size wr w1 := (Below.refl _ wr).trans (hb1.mono (by omega)); have hB1 := hq1; have Xp_1 := Xp_0.below hq1 (by omega); have Rc_1 := h1; have cp0_1 := Xp_1.c0; have cp1_1 := Xp_1.c1; have lp_1 : G < w1.heap.size := (by omega); clear cp0_0 cp1_0 lp_0 Xp_0) | ((with_reducible refine (hD _ (Rp_0.same (hB1.trans ((below1 w1 _).mono hB1.size)))).mono ?_); rintro e w2 ⟨a2, q2, rfl, h2, hb2⟩; rw [size1] at hb2; have z2 := hb2.size; rw [size1] at z2; have hq2 : Below w1.heap.size w1 w2 := (below1 w1 _).trans (hb2.mono (by omega)); have hB2 := hB1.trans (hq2.mono hB1.size); have Xp_2 := Xp_1.below hq2 (by omega); have Xc_2 := (Box2.of (blk1 w1 _)).below hb2 (by omega); have Rc_2 := Rc_1.same hq2; have Rm_2 := h2; have cp0_2 := Xp_2.c0; have cp1_2 := Xp_2.c1; have lp_2 : G < w2.heap.size := (by omega); have cc0_2 := Xc_2.c0; have cc1_2 := Xc_2.c1; have lc_2 : w1.heap.size < w2.heap.size := (by omega); clear cp0_1 cp1_1 lp_1 Xp_1))
        go_roundw
        case rel => exact ⟨k + 1, by omega, by go_num, Xp_2, Rp_0.same hB2, hbr.trans (hB2.mono hbr.size), lp_2⟩
        case measure => simp [intOf]; omega
    · obtain rfl : k = l0 := by omega
      go_wp2_with (first | ((with_reducible refine (alive9_any _).mono ?_); rintro e wA ⟨rfl, hbA⟩))
      go_ret
      exact ⟨rfl, hbr.trans (hbA.mono hbr.size)⟩
end Go.Proofs.Ytogoiolpngbodaa.Wk

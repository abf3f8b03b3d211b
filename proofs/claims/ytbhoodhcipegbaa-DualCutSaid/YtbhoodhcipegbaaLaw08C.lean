/- The law DualCut. -/
import Derived.Test.YtbhoodhcipegbaaLaw08E
import Derived.Test.YtbhoodhcipegbaaLaw07C
namespace Go.Proofs.Ytbhoodhcipegbaa.Wk
open Go.Proofs Go.RowKit Go.Proofs.Ytbhoodhcipegbaa.Kit Go.Proofs.Ytbhoodhcipegbaa.M01 Go.Proofs.Ytbhoodhcipegbaa.M02 Go.Proofs.Ytbhoodhcipegbaa.M06 Go.Proofs.Ytbhoodhcipegbaa.M07 Go.Proofs.Ytbhoodhcipegbaa.M08 Go.Proofs.Ytbhoodhcipegbaa.Bt Go.Proofs.Ytbhoodhcipegbaa.R02 Go.Proofs.Ytbhoodhcipegbaa.Un Go.Proofs.Ytbhoodhcipegbaa.R06 Go.Proofs.Ytbhoodhcipegbaa.Ri Go.Proofs.Ytbhoodhcipegbaa.R07 Go.Proofs.Ytbhoodhcipegbaa.Du Go.Proofs.Ytbhoodhcipegbaa.R08
set_option linter.unusedVariables false

theorem rr_shift {xs ys : List Int} {n m p q k : Int} (hx : okB xs n = true) (hy : okB ys m = true) (hp : 0 ≤ p) (hq : 0 ≤ q) (hn : n - p = m - q) (hv : val xs / p2 p = val ys / p2 q) : rrE xs n p k = rrE ys m q k := by
  have ho : ons xs p = ons ys q := by unfold ons; rw [hv]
  have hE : rdE xs n p = rdE ys m q := by
    unfold rdE
    rw [if_pos hx, if_pos hy, ho, if_neg (show ¬ p < 0 by omega), if_neg (show ¬ q < 0 by omega)]
    by_cases h1 : n ≤ p
    · rw [if_pos h1, if_pos (show m ≤ q by omega)]
    · rw [if_neg h1, if_neg (show ¬ m ≤ q by omega)]
      by_cases h2 : ons ys q < 48 ∧ n ≤ p + ons ys q
      · rw [if_pos h2, if_pos (show ons ys q < 48 ∧ m ≤ q + ons ys q by omega)]
      · rw [if_neg h2, if_neg (show ¬ (ons ys q < 48 ∧ m ≤ q + ons ys q) by omega)]
  unfold rrE
  rw [if_pos hx, if_pos hy]
  by_cases hk : k < 0 ∨ 24 < k
  · rw [if_pos hk, if_pos hk]
  rw [if_neg hk, if_neg hk]
  by_cases hz : rdE ys m q = 0
  · have e1 : rdX xs n p = p + runS (ons ys q) := by rw [rdX, if_pos (by rw [hE]; exact hz), ho]
    have e2 : rdX ys m q = q + runS (ons ys q) := by rw [rdX, if_pos hz]
    have t1 : n - rdX xs n p = m - rdX ys m q := by rw [e1, e2]; omega
    rw [hE, t1, hv]
  · rw [if_pos (by rw [hE]; exact hz), if_pos hz, hE]

/-- A code that is cut off is too short. -/
theorem dr_part {d : D4} {v s : Int} (h : okD d = true) (hv : isU v) (s0 : 0 ≤ s) (s1 : s < duS d v) :
    let L := bl s (duV d v % p2 s)
    okB L s = true ∧ drE L s 0 d = 24 ∧ drN L s 0 d = 0 ∧ drX L s 0 d = 0 ∧ drD L s 0 d = zD := by
  intro L
  obtain ⟨a0, a1, b0, b1, _, _⟩ := okD_iff.1 h
  have hS := duS_bd h hv
  have hm := emod_bd (duV d v) s
  have hL : okB L s = true := ok_bl s0 (by omega) hm.1 hm.2
  have hvL : val L = duV d v % p2 s := val_bl s0 hm.1 hm.2
  have e : drE L s 0 d = 24 := by
    unfold drE
    rw [if_pos ⟨hL, h⟩, if_neg (show ¬ (0 : Int) < 0 by omega)]
    by_cases hz : s ≤ 0
    · rw [if_pos hz]
    rw [if_neg hz, hvL, p2_zero, Int.ediv_one]
    obtain ⟨t, ht⟩ : ∃ t, s = 1 + t := ⟨s - 1, by omega⟩
    have hmod : duV d v % p2 s = duV d v % 2 + duV d v / 2 % p2 t * 2 := by
      rw [ht, mod_split (duV d v) (by omega) (by omega), p2_1]
    have htb := emod_bd (duV d v / 2) t
    by_cases hl : v < p2 d.a
    · have e0 : duV d v % 2 = 0 := by unfold duV; rw [if_pos hl]; omega
      have hSS := hS.2.2.2 hl
      rw [if_pos (by omega), if_pos (by omega)]
    · have e0 : duV d v = 1 + cdV (v - p2 d.a) d.b * 2 := by unfold duV; rw [if_neg hl]
      have e1 : duV d v / 2 = cdV (v - p2 d.a) d.b := by omega
      have hSS : duS d v = 1 + cdS (v - p2 d.a) d.b := by unfold duS; rw [if_neg hl]
      have hu := left_bd hv hl
      obtain ⟨pK, pE, _, _⟩ := rr_part (v := v - p2 d.a) (k := d.b) (s := t) hu b0 b1 (by omega) (by omega)
      have hvt : val (bl t (cdV (v - p2 d.a) d.b % p2 t)) = cdV (v - p2 d.a) d.b % p2 t := by rw [← e1]; exact val_bl (by omega) htb.1 htb.2
      have hr : rrE L s (0 + 1) d.b = 24 := by
        rw [← pE]
        refine rr_shift hL pK (by omega) (by omega) (by omega) ?_
        rw [hvL, hvt, hmod, Int.zero_add, p2_1, p2_zero, Int.ediv_one, e1]; omega
      rw [if_neg (by omega), hr, if_pos (by decide)]
  exact ⟨hL, e, by rw [drN, if_neg (by rw [e]; decide)], by rw [drX, if_neg (by rw [e]; decide)], by rw [drD, if_neg (by rw [e]; decide)]⟩

/-- .. and what is behind it does not matter. -/
theorem dr_first {d : D4} {v : Int} (h : okD d = true) (hv : isU v) {ys : List Int} {m : Int} (hy : isByte ys) (hok : okB ys m = true) (hm : m ≤ 500) :
    let V := duV d v + val ys * p2 (duS d v)
    let L := bl (duS d v + m) V
    okB L (duS d v + m) = true ∧ drE L (duS d v + m) 0 d = 0 ∧ drN L (duS d v + m) 0 d = v ∧ drX L (duS d v + m) 0 d = duS d v ∧ drD L (duS d v + m) 0 d = learnD d v := by
  intro V L
  obtain ⟨hm0, _, _, hlt⟩ := okB_iff.1 hok
  have hs := duS_bd h hv
  have hr := duV_bd h hv
  have hvn := val_nonneg hy
  have hp := p2_pos (duS d v)
  have hV0 : 0 ≤ V := by have := Int.mul_nonneg hvn (show 0 ≤ p2 (duS d v) by omega); omega
  have hV1 : V < p2 (duS d v + m) := join_lt (by omega) hm0 hr.2 hlt
  have hL : okB L (duS d v + m) = true := ok_bl (by omega) (by omega) hV0 hV1
  have hvL : val L = V := val_bl (by omega) hV0 hV1
  have hh := dr_read (n := duS d v + m) (p := 0) hL h (by omega) hv (H := val ys) (by rw [hvL, p2_zero, Int.ediv_one]) (by omega)
  rw [Int.zero_add] at hh
  exact ⟨hL, hh⟩

set_option maxRecDepth 100000 in
set_option maxHeartbeats 8000000 in
theorem dualCut_walk (n00 : Int) (n01 : Int) (n02 : Int) (n03 : Int) (a1 : Int) (a2 : Int) (a30 : Option Addr) (l30 c30 : Nat) (x30 : List Int) (n31 : Int) (w : World) (b00 : -9223372036854775808 ≤ n00 ∧ n00 ≤ 9223372036854775807) (b01 : -9223372036854775808 ≤ n01 ∧ n01 ≤ 9223372036854775807) (b02 : 0 ≤ n02 ∧ n02 ≤ 18446744073709551615) (b03 : 0 ≤ n03 ∧ n03 ≤ 18446744073709551615) (b1 : 0 ≤ a1 ∧ a1 ≤ 4294967295) (b2 : -9223372036854775808 ≤ a2 ∧ a2 ≤ 9223372036854775807) (r30 : RowIn .u8 w a30 l30 c30 x30) (b31 : -9223372036854775808 ≤ n31 ∧ n31 ≤ 9223372036854775807) :
    Calls Try.prog 9 #[.agg #[.int .i64 n00, .int .i64 n01, .int .u64 n02, .int .u64 n03], .int .u32 a1, .int .i64 a2, .agg #[.slice a30 l30 c30, .int .i64 n31]] w fun e w' => e = .returned (.bool true) ∧ Below w.heap.size w w' := by
  have hd : isD ⟨n00, n01, n02, n03⟩ := ⟨b00, b01, b02, b03⟩
  have hC := fun w' (r : RowIn .u8 w' a30 l30 c30 x30) => rcheck_any a30 l30 c30 x30 n31 w' r b31
  have hCD := fun w' => rcheckD_any ⟨n00, n01, n02, n03⟩ w' hd
  unfold bv at hC
  unfold dv at hCD
  simp only at hCD
  by_cases h : okD ⟨n00, n01, n02, n03⟩ = true
  case neg =>
    rw [show chD ⟨n00, n01, n02, n03⟩ = 8 by unfold chD; rw [if_neg h]] at hCD
    clear hd h hC
    go_enter Try.func9, Try.ntmps9
    go_wp2_with (first | ((with_reducible refine (hCD _ ).mono ?_); rintro e w1 ⟨rfl, hb1⟩; rw [size2] at hb1; have z1 := hb1.size; rw [size2] at z1; have hq1 : Below w.heap.size w w1 := (below2 w _ _).trans (hb1.mono (by omega)); have hB1 := hq1; have Xd_1 := (Box4.of (blk2a w _ _)).below hb1 (by omega); have Xb_1 := (Box2.of (blk2 w _ _)).below hb1 (by omega); have cd0_1 := Xd_1.c0; have cd1_1 := Xd_1.c1; have cd2_1 := Xd_1.c2; have cd3_1 := Xd_1.c3; have ld_1 : w.heap.size < w1.heap.size := (by omega); have cb0_1 := Xb_1.c0; have cb1_1 := Xb_1.c1; have lb_1 : w.heap.size + 1 < w1.heap.size := (by omega)) | (go_at_call 17; (with_reducible refine (alive8_any _).mono ?_); rintro e wA ⟨rfl, hbA⟩))
    go_ret
    exact ⟨rfl, hB1.trans (hbA.mono hB1.size)⟩
  rw [show chD ⟨n00, n01, n02, n03⟩ = 0 by unfold chD; rw [if_pos h]] at hCD
  by_cases hok : okB x30 n31 = true
  case neg =>
    have e1 : chkE x30 n31 = 8 := by simp [chkE, hok]
    simp only [e1] at hC
    clear hd h hok e1
    go_enter Try.func9, Try.ntmps9
    go_wp2_with (first | ((with_reducible refine (hCD _ ).mono ?_); rintro e w1 ⟨rfl, hb1⟩; rw [size2] at hb1; have z1 := hb1.size; rw [size2] at z1; have hq1 : Below w.heap.size w w1 := (below2 w _ _).trans (hb1.mono (by omega)); have hB1 := hq1; have Xd_1 := (Box4.of (blk2a w _ _)).below hb1 (by omega); have Xb_1 := (Box2.of (blk2 w _ _)).below hb1 (by omega); have cd0_1 := Xd_1.c0; have cd1_1 := Xd_1.c1; have cd2_1 := Xd_1.c2; have cd3_1 := Xd_1.c3; have ld_1 : w.heap.size < w1.heap.size := (by omega); have cb0_1 := Xb_1.c0; have cb1_1 := Xb_1.c1; have lb_1 : w.heap.size + 1 < w1.heap.size := (by omega)) | ((with_reducible refine (hC _ (r30.same (hB1))).mono ?_); rintro e w2 ⟨rfl, hb2⟩; have z2 := hb2.size; have hq2 : Below w1.heap.size w1 w2 := (Below.refl _ w1).trans (hb2.mono (by omega)); have hB2 := hB1.trans (hq2.mono hB1.size); have Xd_2 := Xd_1.below hq2 (by omega); have Xb_2 := Xb_1.below hq2 (by omega); have cd0_2 := Xd_2.c0; have cd1_2 := Xd_2.c1; have cd2_2 := Xd_2.c2; have cd3_2 := Xd_2.c3; have ld_2 : w.heap.size < w2.heap.size := (by omega); have cb0_2 := Xb_2.c0; have cb1_2 := Xb_2.c1; have lb_2 : w.heap.size + 1 < w2.heap.size := (by omega); clear cd0_1 cd1_1 cd2_1 cd3_1 ld_1 Xd_1 cb0_1 cb1_1 lb_1 Xb_1) | (go_at_call 17; (with_reducible refine (alive8_any _).mono ?_); rintro e wA ⟨rfl, hbA⟩))
    go_ret
    exact ⟨rfl, hB2.trans (hbA.mono hB2.size)⟩
  have e1 : chkE x30 n31 = 0 := by simp [chkE, hok]
  simp only [e1] at hC
  obtain ⟨hn0, hn1, hxl, hval⟩ := okB_iff.1 hok
  have hby := byte_of r30.rd
  by_cases t2 : 500 < n31
  · have f2 : (500 < n31) = True := eq_true t2
    go_enter Try.func9, Try.ntmps9
    go_wp2_with (first | ((with_reducible refine (hCD _ ).mono ?_); rintro e w1 ⟨rfl, hb1⟩; rw [size2] at hb1; have z1 := hb1.size; rw [size2] at z1; have hq1 : Below w.heap.size w w1 := (below2 w _ _).trans (hb1.mono (by omega)); have hB1 := hq1; have Xd_1 := (Box4.of (blk2a w _ _)).below hb1 (by omega); have Xb_1 := (Box2.of (blk2 w _ _)).below hb1 (by omega); have cd0_1 := Xd_1.c0; have cd1_1 := Xd_1.c1; have cd2_1 := Xd_1.c2; have cd3_1 := Xd_1.c3; have ld_1 : w.heap.size < w1.heap.size := (by omega); have cb0_1 := Xb_1.c0; have cb1_1 := Xb_1.c1; have lb_1 : w.heap.size + 1 < w1.heap.size := (by omega)) | ((with_reducible refine (hC _ (r30.same (hB1))).mono ?_); rintro e w2 ⟨rfl, hb2⟩; have z2 := hb2.size; have hq2 : Below w1.heap.size w1 w2 := (Below.refl _ w1).trans (hb2.mono (by omega)); have hB2 := hB1.trans (hq2.mono hB1.size); have Xd_2 := Xd_1.below hq2 (by omega); have Xb_2 := Xb_1.below hq2 (by omega); have cd0_2 := Xd_2.c0; have cd1_2 := Xd_2.c1; have cd2_2 := Xd_2.c2; have cd3_2 := Xd_2.c3; have ld_2 : w.heap.size < w2.heap.size := (by omega); have cb0_2 := Xb_2.c0; have cb1_2 := Xb_2.c1; have lb_2 : w.heap.size + 1 < w2.heap.size := (by omega); clear cd0_1 cd1_1 cd2_1 cd3_1 ld_1 Xd_1 cb0_1 cb1_1 lb_1 Xb_1) | (go_at_call 17; (with_reducible refine (alive8_any _).mono ?_); rintro e wA ⟨rfl, hbA⟩))
    go_ret
    exact ⟨rfl, hB2.trans (hbA.mono hB2.size)⟩
  have f2 : (500 < n31) = False := eq_false t2
  obtain ⟨rE1, rL1, rN1, rD1, rK1, rV1⟩ := dw_nil (d := ⟨n00, n01, n02, n03⟩) (v := a1) h b1
  have hW := fun w' => dwr_any none 0 0 [] 0 ⟨n00, n01, n02, n03⟩ a1 w' RowIn.nil (isInt_small (by decide) (by decide)) hd b1
  simp only [rE1, rL1, rN1, rD1] at hW
  have s1 := duS_bd (d := ⟨n00, n01, n02, n03⟩) (v := a1) h b1
  obtain ⟨dK, dE, dN, dX, dD⟩ := dr_first (d := ⟨n00, n01, n02, n03⟩) (v := a1) h b1 hby hok (by omega)
  have hpart := fun s h1 h2 => dr_part (d := ⟨n00, n01, n02, n03⟩) (v := a1) (s := s) h b1 h1 h2
  obtain ⟨V, hV⟩ : ∃ X, duV ⟨n00, n01, n02, n03⟩ a1 = X := ⟨_, rfl⟩
  obtain ⟨N, hN⟩ : ∃ X, duS ⟨n00, n01, n02, n03⟩ a1 = X := ⟨_, rfl⟩
  simp only [hV] at hpart rK1 rV1 hW dE dN dX dD
  simp only [hN] at hpart rK1 rV1 hW dE dN dX dD s1
  have hcut : ∀ s, 0 ≤ s → s < N → cuE (bl N V) N 0 s = 0 ∧ cuL (bl N V) N 0 s = bl s (V % p2 s) ∧ cuN (bl N V) N 0 s = s := by
    intro s k0 k1
    have e : cuE (bl N V) N 0 s = 0 := by rw [cuE, if_pos rK1, if_neg (by omega)]
    exact ⟨e, by rw [cuL, if_pos e, rV1, p2_zero, Int.ediv_one, Int.sub_zero], by rw [cuN, if_pos e, Int.sub_zero]⟩
  have jE : joE (bl N V) N x30 n31 = 0 := by rw [joE, if_pos rK1, if_pos hok, if_neg (by omega)]
  have jL : joL (bl N V) N x30 n31 = bl (N + n31) (V + val x30 * p2 N) := by rw [joL, if_pos jE, rV1]
  have jN : joN (bl N V) N x30 n31 = N + n31 := by rw [joN, if_pos jE]
  obtain ⟨X, hX⟩ : ∃ X, bl N V = X := ⟨_, rfl⟩
  obtain ⟨Y, hY⟩ : ∃ X, bl (N + n31) (V + val x30 * p2 N) = X := ⟨_, rfl⟩
  obtain ⟨lX, elX⟩ : ∃ l, X.length = l := ⟨_, rfl⟩
  obtain ⟨lY, elY⟩ : ∃ l, Y.length = l := ⟨_, rfl⟩
  obtain ⟨L, hLL⟩ : ∃ l, learnD ⟨n00, n01, n02, n03⟩ a1 = l := ⟨_, rfl⟩
  simp only [hX] at hW jE jL jN rK1 hcut
  simp only [hY] at jL dE dN dX dD
  simp only [hLL] at hW dD
  have hJ := fun a q w' (r : RowIn .u8 w' a lX q X) (r' : RowIn .u8 w' a30 l30 c30 x30) => join_any a lX q X N a30 l30 c30 x30 n31 w' r (isInt_small (by omega) (by omega)) r' b31
  simp only [jE, jL, jN, elY] at hJ
  simp only [elX] at hW
  have hR := fun a q w' (r : RowIn .u8 w' a lY q Y) => drd_any a lY q Y (N + n31) 0 ⟨n00, n01, n02, n03⟩ w' r (isInt_small (by omega) (by omega)) (isInt_small (by omega) (by omega)) hd
  simp only [dE, dN, dX, dD] at hR
  obtain ⟨la, lb, ls, lt⟩ := L
  unfold bv at hW hJ hR
  unfold dv at hW hR
  simp only at hW hR
  clear e1 jE jL jN dE dN dX dK dD rE1 rL1 rN1 rV1 rD1 hX hY hN hV elY hok hxl hval hby hLL h
  by_cases t3 : a2 < 0
  · have f3 : (a2 < 0) = True := eq_true t3
    go_enter Try.func9, Try.ntmps9
    go_wp2_with (first | ((with_reducible refine (hCD _ ).mono ?_); rintro e w1 ⟨rfl, hb1⟩; rw [size2] at hb1; have z1 := hb1.size; rw [size2] at z1; have hq1 : Below w.heap.size w w1 := (below2 w _ _).trans (hb1.mono (by omega)); have hB1 := hq1; have Xd_1 := (Box4.of (blk2a w _ _)).below hb1 (by omega); have Xb_1 := (Box2.of (blk2 w _ _)).below hb1 (by omega); have cd0_1 := Xd_1.c0; have cd1_1 := Xd_1.c1; have cd2_1 := Xd_1.c2; have cd3_1 := Xd_1.c3; have ld_1 : w.heap.size < w1.heap.size := (by omega); have cb0_1 := Xb_1.c0; have cb1_1 := Xb_1.c1; have lb_1 : w.heap.size + 1 < w1.heap.size := (by omega)) | ((with_reducible refine (hC _ (r30.same (hB1))).mono ?_); rintro e w2 ⟨rfl, hb2⟩; have z2 := hb2.size; have hq2 : Below w1.heap.size w1 w2 := (Below.refl _ w1).trans (hb2.mono (by omega)); have hB2 := hB1.trans (hq2.mono hB1.size); have Xd_2 := Xd_1.below hq2 (by omega); have Xb_2 := Xb_1.below hq2 (by omega); have cd0_2 := Xd_2.c0; have cd1_2 := Xd_2.c1; have cd2_2 := Xd_2.c2; have cd3_2 := Xd_2.c3; have ld_2 : w.heap.size < w2.heap.size := (by omega); have cb0_2 := Xb_2.c0; have cb1_2 := Xb_2.c1; have lb_2 : w.heap.size + 1 < w2.heap.size := (by omega); clear cd0_1 cd1_1 cd2_1 cd3_1 ld_1 Xd_1 cb0_1 cb1_1 lb_1 Xb_1) | ((with_reducible refine (hW _ ).mono ?_); rintro e w3 ⟨a3, q3, rfl, h3, hb3, -⟩; have z3 := hb3.size; have hq3 : Below w2.heap.size w2 w3 := (Below.refl _ w2).trans (hb3.mono (by omega)); have hB3 := hB2.trans (hq3.mono hB2.size); have Xd_3 := Xd_2.below hq3 (by omega); have Xb_3 := Xb_2.below hq3 (by omega); have Rc_3 := h3; have cd0_3 := Xd_3.c0; have cd1_3 := Xd_3.c1; have cd2_3 := Xd_3.c2; have cd3_3 := Xd_3.c3; have ld_3 : w.heap.size < w3.heap.size := (by omega); have cb0_3 := Xb_3.c0; have cb1_3 := Xb_3.c1; have lb_3 : w.heap.size + 1 < w3.heap.size := (by omega); clear cd0_2 cd1_2 cd2_2 cd3_2 ld_2 Xd_2 cb0_2 cb1_2 lb_2 Xb_2) | ((with_reducible refine (hJ _ _ _ (Rc_3.same (below2 w3 _ _)) (r30.same (hB3.trans ((below2 w3 _ _).mono hB3.size)))).mono ?_); rintro e w4 ⟨a4, q4, rfl, h4, hb4, -⟩; rw [size2] at hb4; have z4 := hb4.size; rw [size2] at z4; have hq4 : Below w3.heap.size w3 w4 := (below2 w3 _ _).trans (hb4.mono (by omega)); have hB4 := hB3.trans (hq4.mono hB3.size); have Xd_4 := Xd_3.below hq4 (by omega); have Xb_4 := Xb_3.below hq4 (by omega); have Xc_4 := (Box2.of (blk2a w3 _ _)).below hb4 (by omega); have Xx_4 := (Box4.of (blk2 w3 _ _)).below hb4 (by omega); have Rc_4 := Rc_3.same hq4; have Rj_4 := h4; have cd0_4 := Xd_4.c0; have cd1_4 := Xd_4.c1; have cd2_4 := Xd_4.c2; have cd3_4 := Xd_4.c3; have ld_4 : w.heap.size < w4.heap.size := (by omega); have cb0_4 := Xb_4.c0; have cb1_4 := Xb_4.c1; have lb_4 : w.heap.size + 1 < w4.heap.size := (by omega); have cc0_4 := Xc_4.c0; have cc1_4 := Xc_4.c1; have lc_4 : w3.heap.size < w4.heap.size := (by omega); have cx0_4 := Xx_4.c0; have cx1_4 := Xx_4.c1; have cx2_4 := Xx_4.c2; have cx3_4 := Xx_4.c3; have lx_4 : w3.heap.size + 1 < w4.heap.size := (by omega); clear cd0_3 cd1_3 cd2_3 cd3_3 ld_3 Xd_3 cb0_3 cb1_3 lb_3 Xb_3) | ((with_reducible refine (hR _ _ _ (Rj_4.same (below1 w4 _))).mono ?_); rintro e w5 ⟨rfl, hb5⟩; rw [size1] at hb5; have z5 := hb5.size; rw [size1] at z5; have hq5 : Below w4.heap.size w4 w5 := (below1 w4 _).trans (hb5.mono (by omega)); have hB5 := hB4.trans (hq5.mono hB4.size); have Xd_5 := Xd_4.below hq5 (by omega); have Xb_5 := Xb_4.below hq5 (by omega); have Xc_5 := Xc_4.below hq5 (by omega); have Xx_5 := Xx_4.below hq5 (by omega); have Xj_5 := (Box2.of (blk1 w4 _)).below hb5 (by omega); have Rc_5 := Rc_4.same hq5; have Rj_5 := Rj_4.same hq5; have cd0_5 := Xd_5.c0; have cd1_5 := Xd_5.c1; have cd2_5 := Xd_5.c2; have cd3_5 := Xd_5.c3; have ld_5 : w.heap.size < w5.heap.size := (by omega); have cb0_5 := Xb_5.c0; have cb1_5 := Xb_5.c1; have lb_5 : w.heap.size + 1 < w5.heap.size := (by omega); have cc0_5 := Xc_5.c0; have cc1_5 := Xc_5.c1; have lc_5 : w3.heap.size < w5.heap.size := (by omega); have cx0_5 := Xx_5.c0; have cx1_5 := Xx_5.c1; have cx2_5 := Xx_5.c2; have cx3_5 := Xx_5.c3; have lx_5 : w3.heap.size + 1 < w5.heap.size := (by omega); have cj0_5 := Xj_5.c0; have cj1_5 := Xj_5.c1; have lj_5 : w4.heap.size < w5.heap.size := (by omega); clear cd0_4 cd1_4 cd2_4 cd3_4 ld_4 Xd_4 cb0_4 cb1_4 lb_4 Xb_4 cc0_4 cc1_4 lc_4 Xc_4 cx0_4 cx1_4 cx2_4 cx3_4 lx_4 Xx_4) | (go_at_call 17; (with_reducible refine (alive8_any _).mono ?_); rintro e wA ⟨rfl, hbA⟩))
    go_ret
    exact ⟨rfl, (hB5.trans ((below1 w5 _).mono hB5.size)).trans (hbA.mono (by have := hB5.size; rw [size1]; omega))⟩
  have f3 : (a2 < 0) = False := eq_false t3
  by_cases t4 : N ≤ a2
  · have f4 : (N ≤ a2) = True := eq_true t4
    go_enter Try.func9, Try.ntmps9
    go_wp2_with (first | ((with_reducible refine (hCD _ ).mono ?_); rintro e w1 ⟨rfl, hb1⟩; rw [size2] at hb1; have z1 := hb1.size; rw [size2] at z1; have hq1 : Below w.heap.size w w1 := (below2 w _ _).trans (hb1.mono (by omega)); have hB1 := hq1; have Xd_1 := (Box4.of (blk2a w _ _)).below hb1 (by omega); have Xb_1 := (Box2.of (blk2 w _ _)).below hb1 (by omega); have cd0_1 := Xd_1.c0; have cd1_1 := Xd_1.c1; have cd2_1 := Xd_1.c2; have cd3_1 := Xd_1.c3; have ld_1 : w.heap.size < w1.heap.size := (by omega); have cb0_1 := Xb_1.c0; have cb1_1 := Xb_1.c1; have lb_1 : w.heap.size + 1 < w1.heap.size := (by omega)) | ((with_reducible refine (hC _ (r30.same (hB1))).mono ?_); rintro e w2 ⟨rfl, hb2⟩; have z2 := hb2.size; have hq2 : Below w1.heap.size w1 w2 := (Below.refl _ w1).trans (hb2.mono (by omega)); have hB2 := hB1.trans (hq2.mono hB1.size); have Xd_2 := Xd_1.below hq2 (by omega); have Xb_2 := Xb_1.below hq2 (by omega); have cd0_2 := Xd_2.c0; have cd1_2 := Xd_2.c1; have cd2_2 := Xd_2.c2; have cd3_2 := Xd_2.c3; have ld_2 : w.heap.size < w2.heap.size := (by omega); have cb0_2 := Xb_2.c0; have cb1_2 := Xb_2.c1; have lb_2 : w.heap.size + 1 < w2.heap.size := (by omega); clear cd0_1 cd1_1 cd2_1 cd3_1 ld_1 Xd_1 cb0_1 cb1_1 lb_1 Xb_1) | ((with_reducible refine (hW _ ).mono ?_); rintro e w3 ⟨a3, q3, rfl, h3, hb3, -⟩; have z3 := hb3.size; have hq3 : Below w2.heap.size w2 w3 := (Below.refl _ w2).trans (hb3.mono (by omega)); have hB3 := hB2.trans (hq3.mono hB2.size); have Xd_3 := Xd_2.below hq3 (by omega); have Xb_3 := Xb_2.below hq3 (by omega); have Rc_3 := h3; have cd0_3 := Xd_3.c0; have cd1_3 := Xd_3.c1; have cd2_3 := Xd_3.c2; have cd3_3 := Xd_3.c3; have ld_3 : w.heap.size < w3.heap.size := (by omega); have cb0_3 := Xb_3.c0; have cb1_3 := Xb_3.c1; have lb_3 : w.heap.size + 1 < w3.heap.size := (by omega); clear cd0_2 cd1_2 cd2_2 cd3_2 ld_2 Xd_2 cb0_2 cb1_2 lb_2 Xb_2) | ((with_reducible refine (hJ _ _ _ (Rc_3.same (below2 w3 _ _)) (r30.same (hB3.trans ((below2 w3 _ _).mono hB3.size)))).mono ?_); rintro e w4 ⟨a4, q4, rfl, h4, hb4, -⟩; rw [size2] at hb4; have z4 := hb4.size; rw [size2] at z4; have hq4 : Below w3.heap.size w3 w4 := (below2 w3 _ _).trans (hb4.mono (by omega)); have hB4 := hB3.trans (hq4.mono hB3.size); have Xd_4 := Xd_3.below hq4 (by omega); have Xb_4 := Xb_3.below hq4 (by omega); have Xc_4 := (Box2.of (blk2a w3 _ _)).below hb4 (by omega); have Xx_4 := (Box4.of (blk2 w3 _ _)).below hb4 (by omega); have Rc_4 := Rc_3.same hq4; have Rj_4 := h4; have cd0_4 := Xd_4.c0; have cd1_4 := Xd_4.c1; have cd2_4 := Xd_4.c2; have cd3_4 := Xd_4.c3; have ld_4 : w.heap.size < w4.heap.size := (by omega); have cb0_4 := Xb_4.c0; have cb1_4 := Xb_4.c1; have lb_4 : w.heap.size + 1 < w4.heap.size := (by omega); have cc0_4 := Xc_4.c0; have cc1_4 := Xc_4.c1; have lc_4 : w3.heap.size < w4.heap.size := (by omega); have cx0_4 := Xx_4.c0; have cx1_4 := Xx_4.c1; have cx2_4 := Xx_4.c2; have cx3_4 := Xx_4.c3; have lx_4 : w3.heap.size + 1 < w4.heap.size := (by omega); clear cd0_3 cd1_3 cd2_3 cd3_3 ld_3 Xd_3 cb0_3 cb1_3 lb_3 Xb_3) | ((with_reducible refine (hR _ _ _ (Rj_4.same (below1 w4 _))).mono ?_); rintro e w5 ⟨rfl, hb5⟩; rw [size1] at hb5; have z5 := hb5.size; rw [size1] at z5; have hq5 : Below w4.heap.size w4 w5 := (below1 w4 _).trans (hb5.mono (by omega)); have hB5 := hB4.trans (hq5.mono hB4.size); have Xd_5 := Xd_4.below hq5 (by omega); have Xb_5 := Xb_4.below hq5 (by omega); have Xc_5 := Xc_4.below hq5 (by omega); have Xx_5 := Xx_4.below hq5 (by omega); have Xj_5 := (Box2.of (blk1 w4 _)).below hb5 (by omega); have Rc_5 := Rc_4.same hq5; have Rj_5 := Rj_4.same hq5; have cd0_5 := Xd_5.c0; have cd1_5 := Xd_5.c1; have cd2_5 := Xd_5.c2; have cd3_5 := Xd_5.c3; have ld_5 : w.heap.size < w5.heap.size := (by omega); have cb0_5 := Xb_5.c0; have cb1_5 := Xb_5.c1; have lb_5 : w.heap.size + 1 < w5.heap.size := (by omega); have cc0_5 := Xc_5.c0; have cc1_5 := Xc_5.c1; have lc_5 : w3.heap.size < w5.heap.size := (by omega); have cx0_5 := Xx_5.c0; have cx1_5 := Xx_5.c1; have cx2_5 := Xx_5.c2; have cx3_5 := Xx_5.c3; have lx_5 : w3.heap.size + 1 < w5.heap.size := (by omega); have cj0_5 := Xj_5.c0; have cj1_5 := Xj_5.c1; have lj_5 : w4.heap.size < w5.heap.size := (by omega); clear cd0_4 cd1_4 cd2_4 cd3_4 ld_4 Xd_4 cb0_4 cb1_4 lb_4 Xb_4 cc0_4 cc1_4 lc_4 Xc_4 cx0_4 cx1_4 cx2_4 cx3_4 lx_4 Xx_4) | (go_at_call 17; (with_reducible refine (alive8_any _).mono ?_); rintro e wA ⟨rfl, hbA⟩))
    go_ret
    exact ⟨rfl, (hB5.trans ((below1 w5 _).mono hB5.size)).trans (hbA.mono (by have := hB5.size; rw [size1]; omega))⟩
  have f4 : (N ≤ a2) = False := eq_false t4
  obtain ⟨cE, cL, cN⟩ := hcut a2 (by omega) (by omega)
  obtain ⟨pK, pE, pN, pX, pD⟩ := hpart a2 (by omega) (by omega)
  have hK := fun a q w' (r : RowIn .u8 w' a lX q X) => cut_any a lX q X N 0 a2 w' r (isInt_small (by omega) (by omega)) (isInt_small (by omega) (by omega)) b2
  obtain ⟨Z, hZ⟩ : ∃ X, bl a2 (V % p2 a2) = X := ⟨_, rfl⟩
  rw [hZ] at cL pE pN pX pD
  obtain ⟨lZ, elZ⟩ : ∃ l, Z.length = l := ⟨_, rfl⟩
  simp only [cE, cL, cN, elZ] at hK
  have hQ := fun a q w' (r : RowIn .u8 w' a lZ q Z) => drd_any a lZ q Z a2 0 ⟨n00, n01, n02, n03⟩ w' r b2 (isInt_small (by omega) (by omega)) hd
  simp only [pE, pN, pX, pD] at hQ
  unfold bv at hK hQ
  unfold dv zD at hQ
  simp only at hQ
  clear cE cL cN pK pE pN pX pD hZ elZ hcut hpart elX rK1 hd
  go_enter Try.func9, Try.ntmps9
  go_wp2_with (first | ((with_reducible refine (hCD _ ).mono ?_); rintro e w1 ⟨rfl, hb1⟩; rw [size2] at hb1; have z1 := hb1.size; rw [size2] at z1; have hq1 : Below w.heap.size w w1 := (below2 w _ _).trans (hb1.mono (by omega)); have hB1 := hq1; have Xd_1 := (Box4.of (blk2a w _ _)).below hb1 (by omega); have Xb_1 := (Box2.of (blk2 w _ _)).below hb1 (by omega); have cd0_1 := Xd_1.c0; have cd1_1 := Xd_1.c1; have cd2_1 := Xd_1.c2; have cd3_1 := Xd_1.c3; have ld_1 : w.heap.size < w1.heap.size := (by omega); have cb0_1 := Xb_1.c0; have cb1_1 := Xb_1.c1; have lb_1 : w.heap.size + 1 < w1.heap.size := (by omega)) | ((with_reducible refine (hC _ (r30.same (hB1))).mono ?_); rintro e w2 ⟨rfl, hb2⟩; have z2 := hb2.size; have hq2 : Below w1.heap.size w1 w2 := (Below.refl _ w1).trans (hb2.mono (by omega)); have hB2 := hB1.trans (hq2.mono hB1.size); have Xd_2 := Xd_1.below hq2 (by omega); have Xb_2 := Xb_1.below hq2 (by omega); have cd0_2 := Xd_2.c0; have cd1_2 := Xd_2.c1; have cd2_2 := Xd_2.c2; have cd3_2 := Xd_2.c3; have ld_2 : w.heap.size < w2.heap.size := (by omega); have cb0_2 := Xb_2.c0; have cb1_2 := Xb_2.c1; have lb_2 : w.heap.size + 1 < w2.heap.size := (by omega); clear cd0_1 cd1_1 cd2_1 cd3_1 ld_1 Xd_1 cb0_1 cb1_1 lb_1 Xb_1) | ((with_reducible refine (hW _ ).mono ?_); rintro e w3 ⟨a3, q3, rfl, h3, hb3, -⟩; have z3 := hb3.size; have hq3 : Below w2.heap.size w2 w3 := (Below.refl _ w2).trans (hb3.mono (by omega)); have hB3 := hB2.trans (hq3.mono hB2.size); have Xd_3 := Xd_2.below hq3 (by omega); have Xb_3 := Xb_2.below hq3 (by omega); have Rc_3 := h3; have cd0_3 := Xd_3.c0; have cd1_3 := Xd_3.c1; have cd2_3 := Xd_3.c2; have cd3_3 := Xd_3.c3; have ld_3 : w.heap.size < w3.heap.size := (by omega); have cb0_3 := Xb_3.c0; have cb1_3 := Xb_3.c1; have lb_3 : w.heap.size + 1 < w3.heap.size := (by omega); clear cd0_2 cd1_2 cd2_2 cd3_2 ld_2 Xd_2 cb0_2 cb1_2 lb_2 Xb_2) | ((with_reducible refine (hJ _ _ _ (Rc_3.same (below2 w3 _ _)) (r30.same (hB3.trans ((below2 w3 _ _).mono hB3.size)))).mono ?_); rintro e w4 ⟨a4, q4, rfl, h4, hb4, -⟩; rw [size2] at hb4; have z4 := hb4.size; rw [size2] at z4; have hq4 : Below w3.heap.size w3 w4 := (below2 w3 _ _).trans (hb4.mono (by omega)); have hB4 := hB3.trans (hq4.mono hB3.size); have Xd_4 := Xd_3.below hq4 (by omega); have Xb_4 := Xb_3.below hq4 (by omega); have Xc_4 := (Box2.of (blk2a w3 _ _)).below hb4 (by omega); have Xx_4 := (Box4.of (blk2 w3 _ _)).below hb4 (by omega); have Rc_4 := Rc_3.same hq4; have Rj_4 := h4; have cd0_4 := Xd_4.c0; have cd1_4 := Xd_4.c1; have cd2_4 := Xd_4.c2; have cd3_4 := Xd_4.c3; have ld_4 : w.heap.size < w4.heap.size := (by omega); have cb0_4 := Xb_4.c0; have cb1_4 := Xb_4.c1; have lb_4 : w.heap.size + 1 < w4.heap.size := (by omega); have cc0_4 := Xc_4.c0; have cc1_4 := Xc_4.c1; have lc_4 : w3.heap.size < w4.heap.size := (by omega); have cx0_4 := Xx_4.c0; have cx1_4 := Xx_4.c1; have cx2_4 := Xx_4.c2; have cx3_4 := Xx_4.c3; have lx_4 : w3.heap.size + 1 < w4.heap.size := (by omega); clear cd0_3 cd1_3 cd2_3 cd3_3 ld_3 Xd_3 cb0_3 cb1_3 lb_3 Xb_3) | ((with_reducible refine (hR _ _ _ (Rj_4.same (below1 w4 _))).mono ?_); rintro e w5 ⟨rfl, hb5⟩; rw [size1] at hb5; have z5 := hb5.size; rw [size1] at z5; have hq5 : Below w4.heap.size w4 w5 := (below1 w4 _).trans (hb5.mono (by omega)); have hB5 := hB4.trans (hq5.mono hB4.size); have Xd_5 := Xd_4.below hq5 (by omega); have Xb_5 := Xb_4.below hq5 (by omega); have Xc_5 := Xc_4.below hq5 (by omega); have Xx_5 := Xx_4.below hq5 (by omega); have Xj_5 := (Box2.of (blk1 w4 _)).below hb5 (by omega); have Rc_5 := Rc_4.same hq5; have Rj_5 := Rj_4.same hq5; have cd0_5 := Xd_5.c0; have cd1_5 := Xd_5.c1; have cd2_5 := Xd_5.c2; have cd3_5 := Xd_5.c3; have ld_5 : w.heap.size < w5.heap.size := (by omega); have cb0_5 := Xb_5.c0; have cb1_5 := Xb_5.c1; have lb_5 : w.heap.size + 1 < w5.heap.size := (by omega); have cc0_5 := Xc_5.c0; have cc1_5 := Xc_5.c1; have lc_5 : w3.heap.size < w5.heap.size := (by omega); have cx0_5 := Xx_5.c0; have cx1_5 := Xx_5.c1; have cx2_5 := Xx_5.c2; have cx3_5 := Xx_5.c3; have lx_5 : w3.heap.size + 1 < w5.heap.size := (by omega); have cj0_5 := Xj_5.c0; have cj1_5 := Xj_5.c1; have lj_5 : w4.heap.size < w5.heap.size := (by omega); clear cd0_4 cd1_4 cd2_4 cd3_4 ld_4 Xd_4 cb0_4 cb1_4 lb_4 Xb_4 cc0_4 cc1_4 lc_4 Xc_4 cx0_4 cx1_4 cx2_4 cx3_4 lx_4 Xx_4) | ((with_reducible refine (hK _ _ _ (Rc_5.same (below1 w5 _))).mono ?_); rintro e w6 ⟨a6, q6, rfl, h6, hb6, -⟩; rw [size1] at hb6; have z6 := hb6.size; rw [size1] at z6; have hq6 : Below w5.heap.size w5 w6 := (below1 w5 _).trans (hb6.mono (by omega)); have hB6 := hB5.trans (hq6.mono hB5.size); have Xd_6 := Xd_5.below hq6 (by omega); have Xb_6 := Xb_5.below hq6 (by omega); have Xc_6 := Xc_5.below hq6 (by omega); have Xx_6 := Xx_5.below hq6 (by omega); have Xj_6 := Xj_5.below hq6 (by omega); have Xy_6 := (Box4.of (blk1 w5 _)).below hb6 (by omega); have Rc_6 := Rc_5.same hq6; have Rj_6 := Rj_5.same hq6; have Rp_6 := h6; have cd0_6 := Xd_6.c0; have cd1_6 := Xd_6.c1; have cd2_6 := Xd_6.c2; have cd3_6 := Xd_6.c3; have ld_6 : w.heap.size < w6.heap.size := (by omega); have cb0_6 := Xb_6.c0; have cb1_6 := Xb_6.c1; have lb_6 : w.heap.size + 1 < w6.heap.size := (by omega); have cc0_6 := Xc_6.c0; have cc1_6 := Xc_6.c1; have lc_6 : w3.heap.size < w6.heap.size := (by omega); have cx0_6 := Xx_6.c0; have cx1_6 := Xx_6.c1; have cx2_6 := Xx_6.c2; have cx3_6 := Xx_6.c3; have lx_6 : w3.heap.size + 1 < w6.heap.size := (by omega); have cj0_6 := Xj_6.c0; have cj1_6 := Xj_6.c1; have lj_6 : w4.heap.size < w6.heap.size := (by omega); have cy0_6 := Xy_6.c0; have cy1_6 := Xy_6.c1; have cy2_6 := Xy_6.c2; have cy3_6 := Xy_6.c3; have ly_6 : w5.heap.size < w6.heap.size := (by omega); clear cd0_5 cd1_5 cd2_5 cd3_5 ld_5 Xd_5 cb0_5 cb1_5 lb_5 Xb_5 cc0_5 cc1_5 lc_5 Xc_5 cx0_5 cx1_5 cx2_5 cx3_5 lx_5 Xx_5 cj0_5 cj1_5 lj_5 Xj_5) | ((with_reducible refine (hQ _ _ _ (Rp_6.same (below1 w6 _))).mono ?_); rintro e w7 ⟨rfl, hb7⟩; rw [size1] at hb7; have z7 := hb7.size; rw [size1] at z7; have hq7 : Below w6.heap.size w6 w7 := (below1 w6 _).trans (hb7.mono (by omega)); have hB7 := hB6.trans (hq7.mono hB6.size); have Xd_7 := Xd_6.below hq7 (by omega); have Xb_7 := Xb_6.below hq7 (by omega); have Xc_7 := Xc_6.below hq7 (by omega); have Xx_7 := Xx_6.below hq7 (by omega); have Xj_7 := Xj_6.below hq7 (by omega); have Xy_7 := Xy_6.below hq7 (by omega); have Xp_7 := (Box2.of (blk1 w6 _)).below hb7 (by omega); have Rc_7 := Rc_6.same hq7; have Rj_7 := Rj_6.same hq7; have Rp_7 := Rp_6.same hq7; have cd0_7 := Xd_7.c0; have cd1_7 := Xd_7.c1; have cd2_7 := Xd_7.c2; have cd3_7 := Xd_7.c3; have ld_7 : w.heap.size < w7.heap.size := (by omega); have cb0_7 := Xb_7.c0; have cb1_7 := Xb_7.c1; have lb_7 : w.heap.size + 1 < w7.heap.size := (by omega); have cc0_7 := Xc_7.c0; have cc1_7 := Xc_7.c1; have lc_7 : w3.heap.size < w7.heap.size := (by omega); have cx0_7 := Xx_7.c0; have cx1_7 := Xx_7.c1; have cx2_7 := Xx_7.c2; have cx3_7 := Xx_7.c3; have lx_7 : w3.heap.size + 1 < w7.heap.size := (by omega); have cj0_7 := Xj_7.c0; have cj1_7 := Xj_7.c1; have lj_7 : w4.heap.size < w7.heap.size := (by omega); have cy0_7 := Xy_7.c0; have cy1_7 := Xy_7.c1; have cy2_7 := Xy_7.c2; have cy3_7 := Xy_7.c3; have ly_7 : w5.heap.size < w7.heap.size := (by omega); have cp0_7 := Xp_7.c0; have cp1_7 := Xp_7.c1; have lp_7 : w6.heap.size < w7.heap.size := (by omega); clear cd0_6 cd1_6 cd2_6 cd3_6 ld_6 Xd_6 cb0_6 cb1_6 lb_6 Xb_6 cc0_6 cc1_6 lc_6 Xc_6 cx0_6 cx1_6 cx2_6 cx3_6 lx_6 Xx_6 cj0_6 cj1_6 lj_6 Xj_6 cy0_6 cy1_6 cy2_6 cy3_6 ly_6 Xy_6) | (go_at_call 17; (with_reducible refine (alive8_any _).mono ?_); rintro e wA ⟨rfl, hbA⟩))
  go_ret
  exact ⟨rfl, (hB7.trans ((below1 w7 _).mono hB7.size)).trans (hbA.mono (by have := hB7.size; rw [size1]; omega))⟩
end Go.Proofs.Ytbhoodhcipegbaa.Wk

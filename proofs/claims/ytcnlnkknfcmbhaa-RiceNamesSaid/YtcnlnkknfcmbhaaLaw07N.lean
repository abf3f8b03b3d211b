/- The law RiceNames. -/
import Derived.Test.YtcnlnkknfcmbhaaLaw07C
namespace Go.Proofs.Ytcnlnkknfcmbhaa.Wk
open Go.Proofs Go.RowKit Go.Proofs.Ytcnlnkknfcmbhaa.Kit Go.Proofs.Ytcnlnkknfcmbhaa.M01 Go.Proofs.Ytcnlnkknfcmbhaa.M02 Go.Proofs.Ytcnlnkknfcmbhaa.M06 Go.Proofs.Ytcnlnkknfcmbhaa.M07 Go.Proofs.Ytcnlnkknfcmbhaa.Bt Go.Proofs.Ytcnlnkknfcmbhaa.R02 Go.Proofs.Ytcnlnkknfcmbhaa.Un Go.Proofs.Ytcnlnkknfcmbhaa.R06 Go.Proofs.Ytcnlnkknfcmbhaa.Ri Go.Proofs.Ytcnlnkknfcmbhaa.R07
set_option linter.unusedVariables false

theorem val_zeros7 (n : Nat) : val (List.replicate n 0) = 0 := by
  induction n with
  | zero => rfl
  | succ n ih => rw [List.replicate_succ, val, ih]; rfl
theorem zeros_ok7 (n : Nat) (h : n = 41249) : okB (List.replicate n 0) 329992 = true :=
  okB_iff.2 ⟨by omega, by omega, by rw [List.length_replicate, h]; rfl, by rw [val_zeros7]; have := p2_pos 329992; omega⟩
theorem zeros_write7 (n : Nat) (h : n = 41249) {v k : Int} (hk0 : 0 ≤ k) (hk1 : k ≤ 24) (hc : cdS v k = 9) : rwE (List.replicate n 0) 329992 v k = 18 ∧ rwL (List.replicate n 0) 329992 v k = [] ∧ rwN (List.replicate n 0) 329992 v k = 0 := by
  have e : rwE (List.replicate n 0) 329992 v k = 18 := by rw [rwE, if_pos (zeros_ok7 n h), if_neg (by omega), hc, if_pos (by omega)]
  exact ⟨e, by rw [rwL, if_neg (by rw [e]; decide)], by rw [rwN, if_neg (by rw [e]; decide)]⟩
theorem one_far : rrE [0] 1 9223372036854775807 0 = 24 ∧ rrN [0] 1 9223372036854775807 0 = 0 ∧ rrX [0] 1 9223372036854775807 0 = 0 := by
  have hok : okB [0] 1 = true := by decide +kernel
  have eR : rdE [0] 1 9223372036854775807 = 24 := by rw [rdE, if_pos hok, if_neg (by omega), if_pos (by omega)]
  have e : rrE [0] 1 9223372036854775807 0 = 24 := by rw [rrE, if_pos hok, if_neg (by omega), if_pos (by rw [eR]; decide), eR]
  exact ⟨e, by rw [rrN, if_neg (by rw [e]; decide)], by rw [rrX, if_neg (by rw [e]; decide)]⟩

/-- An escape of a number that needs none. -/
theorem rr_esc {v k : Int} (hv : isU32 v) (h0 : 0 ≤ k) (h1 : k ≤ 24) (hq : qP v k ≠ 48) :
    let L := bl 80 (281474976710655 + v * p2 48)
    rrE L 80 0 k = 12 ∧ rrN L 80 0 k = 0 ∧ rrX L 80 0 k = 0 := by
  intro L
  have h48 : p2 48 = 281474976710656 := by decide +kernel
  obtain ⟨v0, v1⟩ := hv
  have hm := Int.mul_nonneg v0 (show 0 ≤ p2 48 by omega)
  have hlt : 281474976710655 + v * p2 48 < p2 80 := by
    have := join_lt (V := 281474976710655) (X := v) (n := 48) (m := 32) (by omega) (by omega) (by omega) (by rw [p2_32]; omega)
    exact this
  have hL : okB L 80 = true := ok_bl (by omega) (by omega) (by omega) hlt
  have hvL : val L = 281474976710655 + v * p2 48 := val_bl (by omega) (by omega) hlt
  have hX : val L / p2 0 = (p2 48 - 1) + v * p2 (runS 48) := by rw [hvL, p2_zero, Int.ediv_one, runS_48]; omega
  have hcq : cq (val L / p2 0) = 48 := by unfold cq; rw [hX]; exact cnt_runS (by omega) (by omega) v
  have hon : ons L 0 = 48 := hcq
  have hdg : dcG (val L / p2 0) k = v := by
    unfold dcG dcM; rw [hcq, bhS_48, hX, runS_48, Int.add_mul_ediv_right _ _ (by omega), Int.ediv_eq_zero_of_lt (by omega) (by omega), Int.zero_add, p2_32, Int.emod_eq_of_lt v0 (by omega)]
  have hdn : dcN (val L / p2 0) k = v := by unfold dcN; rw [if_pos hcq, hdg]
  have eR : rdE L 80 0 = 0 := by rw [rdE, if_pos hL, if_neg (by omega), if_neg (by omega), if_neg (by rw [hon]; omega)]
  have eX : rdX L 80 0 = 48 := by rw [rdX, if_pos eR, hon]; rfl
  have e : rrE L 80 0 k = 12 := by
    rw [rrE, if_pos hL, if_neg (by omega), if_neg (by rw [eR]; simp), if_neg (by rw [eX]; unfold dcM; rw [hcq, bhS_48]; omega), if_pos (by rw [hdn, hcq]; exact hq)]
  exact ⟨e, by rw [rrN, if_neg (by rw [e]; decide)], by rw [rrX, if_neg (by rw [e]; decide)]⟩

theorem cap_at {k : Int} (h0 : 0 ≤ k) (h1 : k ≤ 24) : qP (48 * p2 k - 1) k = 47 ∧ qP (48 * p2 k) k = 48 ∧ cdS (48 * p2 k - 1) k = 48 + k ∧ cdS (48 * p2 k) k = 80 := by
  have hp := p2_pos k
  have e1 : (48 * p2 k - 1) / p2 k = 47 := by
    rw [show 48 * p2 k - 1 = (p2 k - 1) + 47 * p2 k by omega, Int.add_mul_ediv_right _ _ (by omega), Int.ediv_eq_zero_of_lt (by omega) (by omega)]; rfl
  have e2 : 48 * p2 k / p2 k = 48 := Int.mul_ediv_cancel _ (by omega)
  have q1 : qP (48 * p2 k - 1) k = 47 := by unfold qP; rw [e1]; rfl
  have q2 : qP (48 * p2 k) k = 48 := by unfold qP; rw [e2]; rfl
  exact ⟨q1, q2, by unfold cdS; rw [q1, runS_lt (by omega), bhS_lt k (by omega)]; omega, by unfold cdS; rw [q2, runS_48, bhS_48]; rfl⟩

def ones48 : List Int := [255, 255, 255, 255, 255, 255]
theorem ones48_put : putE [] 0 281474976710655 48 = 0 ∧ putL [] 0 281474976710655 48 = ones48 ∧ putN [] 0 281474976710655 48 = 48 := by decide +kernel
theorem ones48_more {v : Int} (hv : isU32 v) : putE ones48 48 v 32 = 0 ∧ putL ones48 48 v 32 = bl 80 (281474976710655 + v * p2 48) ∧ putN ones48 48 v 32 = 80 := by
  have hok : okB ones48 48 = true := by decide +kernel
  have hval : val ones48 = 281474976710655 := by decide +kernel
  have e : putE ones48 48 v 32 = 0 := by rw [putE, if_pos hok, if_neg (by omega), if_neg (by rw [p2_32]; have := hv.2; omega), if_neg (by omega)]
  exact ⟨e, by rw [putL, if_pos e, hval]; rfl, by rw [putN, if_pos e]; rfl⟩

set_option maxRecDepth 100000 in
set_option maxHeartbeats 16000000 in
theorem riceNames_walk (w : World)  :
    Calls Try.prog 3 #[] w fun e w' => e = .returned (.bool true) ∧ Below w.heap.size w w' := by
  obtain ⟨i0, hi, hz0, hz1, hz2⟩ := info_parts info_u8
  have hQ1 := fun w' => put_any none 0 0 [] 0 0 1 w' RowIn.nil (isInt_small (by decide) (by decide)) (by decide) (by decide) (isInt_small (by decide) (by decide))
  simp only [show putE [] 0 0 1 = 0 by decide +kernel, show putL [] 0 0 1 = [0] by decide +kernel, show putN [] 0 0 1 = 1 by decide +kernel, List.length_cons, List.length_nil, Nat.zero_add] at hQ1
  have hQ2 := fun w' => rwr_any none 0 0 [] 1 0 (-1) w' RowIn.nil (isInt_small (by decide) (by decide)) (by unfold isU32; omega) (isInt_small (by decide) (by decide))
  simp only [show rwE [] 1 0 (-1) = 8 by decide +kernel, show rwL [] 1 0 (-1) = [] by decide +kernel, show rwN [] 1 0 (-1) = 0 by decide +kernel, List.length_nil] at hQ2
  have hQ3 := fun w' => rrd_any none 0 0 [] 1 (-1) (-1) w' RowIn.nil (isInt_small (by decide) (by decide)) (isInt_small (by decide) (by decide)) (isInt_small (by decide) (by decide))
  simp only [show rrE [] 1 (-1) (-1) = 8 by decide +kernel, show rrN [] 1 (-1) (-1) = 0 by decide +kernel, show rrX [] 1 (-1) (-1) = 0 by decide +kernel] at hQ3
  have hQ4 := fun w' => rlen_any 0 (-1) w' (by unfold isU32; omega) (isInt_small (by decide) (by decide))
  simp only [show rlN 0 (-1) = 0 by decide +kernel, show rlE (-1) = 2 by decide +kernel] at hQ4
  have hQ5 := fun w' => rlen_any 0 25 w' (by unfold isU32; omega) (isInt_small (by decide) (by decide))
  simp only [show rlN 0 25 = 0 by decide +kernel, show rlE 25 = 2 by decide +kernel] at hQ5
  have hQ6 := fun a q w' (r : RowIn .u8 w' a 1 q [0]) => rwr_any a 1 q [0] 1 0 25 w' r (isInt_small (by decide) (by decide)) (by unfold isU32; omega) (isInt_small (by decide) (by decide))
  simp only [show rwE [0] 1 0 25 = 2 by decide +kernel, show rwL [0] 1 0 25 = [] by decide +kernel, show rwN [0] 1 0 25 = 0 by decide +kernel, List.length_nil] at hQ6
  have hQ7 := fun a q w' (r : RowIn .u8 w' a 1 q [0]) => rrd_any a 1 q [0] 1 0 (-1) w' r (isInt_small (by decide) (by decide)) (isInt_small (by decide) (by decide)) (isInt_small (by decide) (by decide))
  simp only [show rrE [0] 1 0 (-1) = 2 by decide +kernel, show rrN [0] 1 0 (-1) = 0 by decide +kernel, show rrX [0] 1 0 (-1) = 0 by decide +kernel] at hQ7
  have hQ8 := fun a q w' (r : RowIn .u8 w' a 1 q [0]) => rrd_any a 1 q [0] 1 (-1) 0 w' r (isInt_small (by decide) (by decide)) (isInt_small (by decide) (by decide)) (isInt_small (by decide) (by decide))
  simp only [show rrE [0] 1 (-1) 0 = 2 by decide +kernel, show rrN [0] 1 (-1) 0 = 0 by decide +kernel, show rrX [0] 1 (-1) 0 = 0 by decide +kernel] at hQ8
  have hQ9 := fun a q w' (r : RowIn .u8 w' a 1 q [0]) => rrd_any a 1 q [0] 1 1 0 w' r (isInt_small (by decide) (by decide)) (isInt_small (by decide) (by decide)) (isInt_small (by decide) (by decide))
  simp only [show rrE [0] 1 1 0 = 24 by decide +kernel, show rrN [0] 1 1 0 = 0 by decide +kernel, show rrX [0] 1 1 0 = 0 by decide +kernel] at hQ9
  have hQ10 := fun a q w' (r : RowIn .u8 w' a 1 q [0]) => rrd_any a 1 q [0] 1 0 1 w' r (isInt_small (by decide) (by decide)) (isInt_small (by decide) (by decide)) (isInt_small (by decide) (by decide))
  simp only [show rrE [0] 1 0 1 = 24 by decide +kernel, show rrN [0] 1 0 1 = 0 by decide +kernel, show rrX [0] 1 0 1 = 0 by decide +kernel] at hQ10
  have hQ11 := fun a q w' (r : RowIn .u8 w' a 1 q [0]) => rrd_any a 1 q [0] 1 0 0 w' r (isInt_small (by decide) (by decide)) (isInt_small (by decide) (by decide)) (isInt_small (by decide) (by decide))
  simp only [show rrE [0] 1 0 0 = 0 by decide +kernel, show rrN [0] 1 0 0 = 0 by decide +kernel, show rrX [0] 1 0 0 = 1 by decide +kernel] at hQ11
  have hQ14 := fun a q w' (r : RowIn .u8 w' a 1 q [0]) => rrd_any a 1 q [0] 1 9223372036854775807 0 w' r (isInt_small (by decide) (by decide)) (by unfold isInt; omega) (isInt_small (by decide) (by decide))
  simp only [one_far.1, one_far.2.1, one_far.2.2] at hQ14
  obtain ⟨nn, hnn⟩ : ∃ n : Nat, n = 41249 := ⟨_, rfl⟩
  obtain ⟨zE, zL, zN⟩ := zeros_write7 nn hnn (v := 0) (k := 8) (by omega) (by omega) (by decide +kernel)
  obtain ⟨yE, yL, yN⟩ := zeros_write7 nn hnn (v := 255) (k := 7) (by omega) (by omega) (by decide +kernel)
  have hzl : (List.replicate nn (0 : Int)).length = nn := List.length_replicate
  have hzb : ∀ x ∈ List.replicate nn (0 : Int), (Lit.int .u8 x).wf = true := by
    intro x hx; rw [(List.mem_replicate.1 hx).2]; decide
  have HWF := hid hzb
  obtain ⟨Z, hZ⟩ : ∃ Z, List.replicate nn (0 : Int) = Z := ⟨_, rfl⟩
  have HZ := hid hZ
  rw [hZ] at zE zN zL yE yL yN hzl
  have hle : Z.length ≤ 41250 := by rw [hzl, hnn]; decide
  have oE : ofE Z = 0 := by rw [ofE, if_pos hle]
  have oL : ofL Z = Z := by rw [ofL, if_pos hle]
  have oN : ofN Z = 329992 := by rw [ofN, if_pos hle, hzl, hnn]; rfl
  have hO := fun a q w' (r : RowIn .u8 w' a nn q Z) => of_any a nn q Z w' r
  simp only [oE, oL, oN, hzl] at hO
  have hQ12 := fun a q w' (r : RowIn .u8 w' a nn q Z) => rwr_any a nn q Z 329992 0 8 w' r (isInt_small (by decide) (by decide)) (by unfold isU32; omega) (isInt_small (by decide) (by decide))
  simp only [zE, zL, zN, List.length_nil] at hQ12
  have hQ13 := fun a q w' (r : RowIn .u8 w' a nn q Z) => rwr_any a nn q Z 329992 255 7 w' r (isInt_small (by decide) (by decide)) (by unfold isU32; omega) (isInt_small (by decide) (by decide))
  simp only [yE, yL, yN, List.length_nil] at hQ13
  have HNN : Hid ((41249 : Int) = (nn : Int)) := hid (by omega)
  have hnb : nn ≤ 50000 := by omega
  clear zE zN zL yE yL yN hzl hzb hZ hle oE oL oN hnn
  unfold bv at hQ1 hQ2 hQ3 hQ6 hQ7 hQ8 hQ9 hQ10 hQ11 hQ12 hQ13 hQ14 hO
  go_enter Try.func3, Try.ntmps3
  go_wp2
  go_loopw [1] (fun t wr => ∃ k : Int, 0 ≤ k ∧ k ≤ 25 ∧ t = .int .i64 k ∧ Below w.heap.size w wr) (fun t _ => (25 - intOf t).toNat)
  case atStart => exact ⟨0, by omega, by omega, rfl, Below.refl _ _⟩
  case round =>
    obtain ⟨k, hk0, hk1, rfl, hB5⟩ := hrel
    have z5 := hB5.size
    obtain ⟨w5, e5⟩ : ∃ x, x = wr := ⟨_, rfl⟩
    subst e5
    by_cases h24 : k ≤ 24
    · clear hQ1 hQ2 hQ3 hQ4 hQ5 hQ6 hQ7 hQ8 hQ9 hQ10 hQ11 hQ12 hQ13 hQ14 hO HWF HZ HNN
      obtain ⟨c1, c2, c3, c4⟩ := cap_at hk0 h24
      have hp := p2_pos k
      have hp2 : p2 k ≤ 16777216 := by rw [← p2_24]; exact p2_le h24
      have hu1 : isU32 (48 * p2 k - 1) := by unfold isU32; omega
      have hu2 : isU32 (48 * p2 k) := by unfold isU32; omega
      have hki : isInt k := isInt_small (by omega) (by omega)
      have hL1 := fun w' => rlen_any (48 * p2 k - 1) k w' hu1 hki
      have hL2 := fun w' => rlen_any (48 * p2 k) k w' hu2 hki
      have kE : rlE k = 0 := by rw [rlE, if_neg (by omega)]
      have kN1 : rlN (48 * p2 k - 1) k = 48 + k := by rw [rlN, if_neg (by omega), c3]
      have kN2 : rlN (48 * p2 k) k = 80 := by rw [rlN, if_neg (by omega), c4]
      simp only [kE, kN1] at hL1
      simp only [kE, kN2] at hL2
      obtain ⟨rE1, rL1, rN1, rK1, rV1⟩ := rw_nil (v := 48 * p2 k) (k := k) hu2 hk0 h24
      obtain ⟨-, sE, sN, sX⟩ := rr_first (v := 48 * p2 k) (k := k) hu2 hk0 h24 (ys := []) (m := 0) (by intro x hx; simp at hx) ok_nil (by omega)
      simp only [show val [] = 0 from rfl, Int.zero_mul, Int.add_zero] at sE sN sX
      rw [c4] at rL1 rN1 sE sN sX
      have hW := fun w' => rwr_any none 0 0 [] 0 (48 * p2 k) k w' RowIn.nil (isInt_small (by decide) (by decide)) hu2 hki
      obtain ⟨X, hX⟩ : ∃ X, bl 80 (cdV (48 * p2 k) k) = X := ⟨_, rfl⟩
      obtain ⟨lX, elX⟩ : ∃ l, X.length = l := ⟨_, rfl⟩
      rw [hX] at rL1 sE sN sX
      simp only [rE1, rL1, rN1, elX] at hW
      have hR := fun a q w' (r : RowIn .u8 w' a lX q X) => rrd_any a lX q X 80 0 k w' r (isInt_small (by omega) (by omega)) (isInt_small (by decide) (by decide)) hki
      simp only [sE, sN, sX] at hR
      have hP1 := fun w' => put_any none 0 0 [] 0 281474976710655 48 w' RowIn.nil (isInt_small (by decide) (by decide)) (by decide) (by decide) (isInt_small (by decide) (by decide))
      simp only [ones48_put.1, ones48_put.2.1, ones48_put.2.2, show ones48.length = 6 from rfl] at hP1
      have hP2 := fun a q w' (r : RowIn .u8 w' a 6 q ones48) => put_any a 6 q ones48 48 (48 * p2 k - 1) 32 w' r (isInt_small (by decide) (by decide)) (by omega) (by omega) (isInt_small (by decide) (by decide))
      obtain ⟨m1, m2, m3⟩ := ones48_more hu1
      obtain ⟨z1, z2, z3⟩ := rr_esc hu1 hk0 h24 (by rw [c1]; decide)
      obtain ⟨Y, hY⟩ : ∃ X, bl 80 (281474976710655 + (48 * p2 k - 1) * p2 48) = X := ⟨_, rfl⟩
      rw [hY] at m2 z1 z2 z3
      obtain ⟨lZ, elZ⟩ : ∃ l, Y.length = l := ⟨_, rfl⟩
      simp only [m1, m2, m3, elZ] at hP2
      have hR2 := fun a q w' (r : RowIn .u8 w' a lZ q Y) => rrd_any a lZ q Y 80 0 k w' r (isInt_small (by omega) (by omega)) (isInt_small (by decide) (by decide)) hki
      simp only [z1, z2, z3] at hR2
      clear z1 z2 z3 m1 m2 m3 hY elZ sE sN sX hX elX rE1 rL1 rN1 rK1 rV1 kE kN1 kN2 c1 c2 c3 c4 hu1 hu2
      unfold p2 at *
      obtain ⟨P, hP⟩ : ∃ P, (2 : Int) ^ k.toNat = P := ⟨_, rfl⟩
      simp only [hP] at hL1 hL2 hW hR hP2 hp hp2
      generalize ones48 = X48 at *
      unfold bv at hW hR hP1 hP2 hR2
      go_wp2_with (first | (go_at_call 9; (with_reducible refine (hL1 _).mono ?_); rintro e wz ⟨rfl, rfl⟩) | (go_at_call 9; (with_reducible refine (hL2 _).mono ?_); rintro e wz ⟨rfl, rfl⟩) | ((with_reducible refine (hW _ ).mono ?_); rintro e w6 ⟨a6, q6, rfl, h6, hb6, -⟩; have hq6 := hb6; have z6 := hb6.size; have hB6 := hB5.trans (hq6.mono hB5.size); have Rx_6 := h6) | ((with_reducible refine (hR _ _ _ (Rx_6.same (below1 w6 _))).mono ?_); rintro e w7 ⟨rfl, hb7⟩; rw [size1] at hb7; have hq7 := (below1 w6 _).trans (hb7.mono (Nat.le_succ _)); have z7 := hb7.size; rw [size1] at z7; have hB7 := hB6.trans (hq7.mono hB6.size); have Xx_7 := (Box2.of (blk1 w6 _)).below hb7 (Nat.lt_succ_self _); have Rx_7 := Rx_6.same hq7; have cx0_7 := Xx_7.c0; have cx1_7 := Xx_7.c1; have lx_7 : w6.heap.size < w7.heap.size := (by omega)) | ((with_reducible refine (hP1 _ ).mono ?_); rintro e w8 ⟨a8, q8, rfl, h8, hb8, -⟩; have hq8 := hb8; have z8 := hb8.size; have hB8 := hB7.trans (hq8.mono hB7.size); have Xx_8 := Xx_7.below hq8 (by omega); have Rx_8 := Rx_7.same hq8; have Ry_8 := h8; have cx0_8 := Xx_8.c0; have cx1_8 := Xx_8.c1; have lx_8 : w6.heap.size < w8.heap.size := (by omega); clear cx0_7 cx1_7 lx_7) | ((with_reducible refine (hP2 _ _ _ (Ry_8.same (below1 w8 _))).mono ?_); rintro e w9 ⟨a9, q9, rfl, h9, hb9, F9⟩; rw [size1] at hb9; have hq9 := (below1 w8 _).trans (hb9.mono (Nat.le_succ _)); have z9 := hb9.size; rw [size1] at z9; have hB9 := hB8.trans (hq9.mono hB8.size); have Xx_9 := Xx_8.below hq9 (by omega); have Xy_9 := (Box2.of (blk1 w8 _)).below hb9 (Nat.lt_succ_self _); have Rx_9 := Rx_8.same hq9; have Ry_9 := Ry_8.same hq9; have Rz_9 := h9; have cx0_9 := Xx_9.c0; have cx1_9 := Xx_9.c1; have lx_9 : w6.heap.size < w9.heap.size := (by omega); have cy0_9 := Xy_9.c0; have cy1_9 := Xy_9.c1; have ly_9 : w8.heap.size < w9.heap.size := (by omega); have hne := F9.ne (g := w8.heap.size) (by rw [size1]; omega); have YB := Box2.put Xy_9 (.slice a9 lZ q9) (.int .i64 80); have yy0 := YB.c0; have yy1 := YB.c1; have zf0 := Xy_9.f0; have zf1 := Xy_9.f1; have R3 := hR2 _ _ _ ((h9.set (i := 0) (u := .slice a9 lZ q9) hne).set (i := 1) (u := .int .i64 80) hne); have hBs : Below w.heap.size w ((w9.setCell ⟨w8.heap.size, 0, none⟩ (.slice a9 lZ q9)).setCell ⟨w8.heap.size, 1, none⟩ (.int .i64 80)) := (hB9.setCell (by dsimp only; omega) _).setCell (by dsimp only; omega) _; clear cx0_8 cx1_8 lx_8) | (go_at_call 11; (with_reducible refine R3.mono ?_); rintro e wE ⟨rfl, hbE⟩; have hBE := hBs.trans (hbE.mono hBs.size)))
      go_roundw
      case rel => exact ⟨k + 1, by omega, by omega, by go_num, hBE⟩
      case measure => simp [intOf]; omega
    · obtain rfl : k = 25 := by omega
      go_wp2_with (first | ((with_reducible refine (hQ1 _ ).mono ?_); rintro e w6 ⟨a6, q6, rfl, h6, hb6, -⟩; rw [size1] at hb6; have hq6 := (below1 w5 _).trans (hb6.mono (Nat.le_succ _)); have z6 := hb6.size; rw [size1] at z6; have hB6 := hB5.trans (hq6.mono hB5.size); have Xd_6 := (Box2.of (blk1 w5 _)).below hb6 (Nat.lt_succ_self _); have Ro_6 := h6; have cd0_6 := Xd_6.c0; have cd1_6 := Xd_6.c1; have ld_6 : w5.heap.size < w6.heap.size := (by omega)) | ((with_reducible refine (hQ2 _ ).mono ?_); rintro e w7 ⟨a7, q7, rfl, h7, hb7, -⟩; rw [size1] at hb7; have hq7 := (below1 w6 _).trans (hb7.mono (Nat.le_succ _)); have z7 := hb7.size; rw [size1] at z7; have hB7 := hB6.trans (hq7.mono hB6.size); have Xd_7 := Xd_6.below hq7 (by omega); have Xo_7 := (Box2.of (blk1 w6 _)).below hb7 (Nat.lt_succ_self _); have Ro_7 := Ro_6.same hq7; have Rx_7 := h7; have cd0_7 := Xd_7.c0; have cd1_7 := Xd_7.c1; have ld_7 : w5.heap.size < w7.heap.size := (by omega); have co0_7 := Xo_7.c0; have co1_7 := Xo_7.c1; have lo_7 : w6.heap.size < w7.heap.size := (by omega); clear cd0_6 cd1_6 ld_6) | ((with_reducible refine (hQ3 _ ).mono ?_); rintro e w8 ⟨rfl, hb8⟩; rw [size1] at hb8; have hq8 := (below1 w7 _).trans (hb8.mono (Nat.le_succ _)); have z8 := hb8.size; rw [size1] at z8; have hB8 := hB7.trans (hq8.mono hB7.size); have Xd_8 := Xd_7.below hq8 (by omega); have Xo_8 := Xo_7.below hq8 (by omega); have Xx_8 := (Box2.of (blk1 w7 _)).below hb8 (Nat.lt_succ_self _); have Ro_8 := Ro_7.same hq8; have Rx_8 := Rx_7.same hq8; have cd0_8 := Xd_8.c0; have cd1_8 := Xd_8.c1; have ld_8 : w5.heap.size < w8.heap.size := (by omega); have co0_8 := Xo_8.c0; have co1_8 := Xo_8.c1; have lo_8 : w6.heap.size < w8.heap.size := (by omega); have cx0_8 := Xx_8.c0; have cx1_8 := Xx_8.c1; have lx_8 : w7.heap.size < w8.heap.size := (by omega); clear cd0_7 cd1_7 ld_7 co0_7 co1_7 lo_7) | (go_at_call 9; (with_reducible refine (hQ4 _).mono ?_); rintro e wz ⟨rfl, rfl⟩) | (go_at_call 9; (with_reducible refine (hQ5 _).mono ?_); rintro e wz ⟨rfl, rfl⟩) | ((with_reducible refine (hQ6 _ _ _ Ro_8).mono ?_); rintro e w9 ⟨a9, q9, rfl, h9, hb9, -⟩; have hq9 := hb9; have z9 := hb9.size; have hB9 := hB8.trans (hq9.mono hB8.size); have Xd_9 := Xd_8.below hq9 (by omega); have Xo_9 := Xo_8.below hq9 (by omega); have Xx_9 := Xx_8.below hq9 (by omega); have Ro_9 := Ro_8.same hq9; have Rx_9 := Rx_8.same hq9; have Ry_9 := h9; have cd0_9 := Xd_9.c0; have cd1_9 := Xd_9.c1; have ld_9 : w5.heap.size < w9.heap.size := (by omega); have co0_9 := Xo_9.c0; have co1_9 := Xo_9.c1; have lo_9 : w6.heap.size < w9.heap.size := (by omega); have cx0_9 := Xx_9.c0; have cx1_9 := Xx_9.c1; have lx_9 : w7.heap.size < w9.heap.size := (by omega); clear cd0_8 cd1_8 ld_8 co0_8 co1_8 lo_8 cx0_8 cx1_8 lx_8) | ((with_reducible refine (hQ7 _ _ _ (Ro_9.same (below1 w9 _))).mono ?_); rintro e w10 ⟨rfl, hb10⟩; rw [size1] at hb10; have hq10 := (below1 w9 _).trans (hb10.mono (Nat.le_succ _)); have z10 := hb10.size; rw [size1] at z10; have hB10 := hB9.trans (hq10.mono hB9.size); have Xd_10 := Xd_9.below hq10 (by omega); have Xo_10 := Xo_9.below hq10 (by omega); have Xx_10 := Xx_9.below hq10 (by omega); have Xy_10 := (Box2.of (blk1 w9 _)).below hb10 (Nat.lt_succ_self _); have Ro_10 := Ro_9.same hq10; have Rx_10 := Rx_9.same hq10; have Ry_10 := Ry_9.same hq10; have cd0_10 := Xd_10.c0; have cd1_10 := Xd_10.c1; have ld_10 : w5.heap.size < w10.heap.size := (by omega); have co0_10 := Xo_10.c0; have co1_10 := Xo_10.c1; have lo_10 : w6.heap.size < w10.heap.size := (by omega); have cx0_10 := Xx_10.c0; have cx1_10 := Xx_10.c1; have lx_10 : w7.heap.size < w10.heap.size := (by omega); have cy0_10 := Xy_10.c0; have cy1_10 := Xy_10.c1; have ly_10 : w9.heap.size < w10.heap.size := (by omega); clear cd0_9 cd1_9 ld_9 co0_9 co1_9 lo_9 cx0_9 cx1_9 lx_9) | ((with_reducible refine (hQ8 _ _ _ Ro_10).mono ?_); rintro e w11 ⟨rfl, hb11⟩; have hq11 := hb11; have z11 := hb11.size; have hB11 := hB10.trans (hq11.mono hB10.size); have Xd_11 := Xd_10.below hq11 (by omega); have Xo_11 := Xo_10.below hq11 (by omega); have Xx_11 := Xx_10.below hq11 (by omega); have Xy_11 := Xy_10.below hq11 (by omega); have Ro_11 := Ro_10.same hq11; have Rx_11 := Rx_10.same hq11; have Ry_11 := Ry_10.same hq11; have cd0_11 := Xd_11.c0; have cd1_11 := Xd_11.c1; have ld_11 : w5.heap.size < w11.heap.size := (by omega); have co0_11 := Xo_11.c0; have co1_11 := Xo_11.c1; have lo_11 : w6.heap.size < w11.heap.size := (by omega); have cx0_11 := Xx_11.c0; have cx1_11 := Xx_11.c1; have lx_11 : w7.heap.size < w11.heap.size := (by omega); have cy0_11 := Xy_11.c0; have cy1_11 := Xy_11.c1; have ly_11 : w9.heap.size < w11.heap.size := (by omega); clear cd0_10 cd1_10 ld_10 co0_10 co1_10 lo_10 cx0_10 cx1_10 lx_10 cy0_10 cy1_10 ly_10) | ((with_reducible refine (hQ9 _ _ _ Ro_11).mono ?_); rintro e w12 ⟨rfl, hb12⟩; have hq12 := hb12; have z12 := hb12.size; have hB12 := hB11.trans (hq12.mono hB11.size); have Xd_12 := Xd_11.below hq12 (by omega); have Xo_12 := Xo_11.below hq12 (by omega); have Xx_12 := Xx_11.below hq12 (by omega); have Xy_12 := Xy_11.below hq12 (by omega); have Ro_12 := Ro_11.same hq12; have Rx_12 := Rx_11.same hq12; have Ry_12 := Ry_11.same hq12; have cd0_12 := Xd_12.c0; have cd1_12 := Xd_12.c1; have ld_12 : w5.heap.size < w12.heap.size := (by omega); have co0_12 := Xo_12.c0; have co1_12 := Xo_12.c1; have lo_12 : w6.heap.size < w12.heap.size := (by omega); have cx0_12 := Xx_12.c0; have cx1_12 := Xx_12.c1; have lx_12 : w7.heap.size < w12.heap.size := (by omega); have cy0_12 := Xy_12.c0; have cy1_12 := Xy_12.c1; have ly_12 : w9.heap.size < w12.heap.size := (by omega); clear cd0_11 cd1_11 ld_11 co0_11 co1_11 lo_11 cx0_11 cx1_11 lx_11 cy0_11 cy1_11 ly_11) | ((with_reducible refine (hQ10 _ _ _ Ro_12).mono ?_); rintro e w13 ⟨rfl, hb13⟩; have hq13 := hb13; have z13 := hb13.size; have hB13 := hB12.trans (hq13.mono hB12.size); have Xd_13 := Xd_12.below hq13 (by omega); have Xo_13 := Xo_12.below hq13 (by omega); have Xx_13 := Xx_12.below hq13 (by omega); have Xy_13 := Xy_12.below hq13 (by omega); have Ro_13 := Ro_12.same hq13; have Rx_13 := Rx_12.same hq13; have Ry_13 := Ry_12.same hq13; have cd0_13 := Xd_13.c0; have cd1_13 := Xd_13.c1; have ld_13 : w5.heap.size < w13.heap.size := (by omega); have co0_13 := Xo_13.c0; have co1_13 := Xo_13.c1; have lo_13 : w6.heap.size < w13.heap.size := (by omega); have cx0_13 := Xx_13.c0; have cx1_13 := Xx_13.c1; have lx_13 : w7.heap.size < w13.heap.size := (by omega); have cy0_13 := Xy_13.c0; have cy1_13 := Xy_13.c1; have ly_13 : w9.heap.size < w13.heap.size := (by omega); clear cd0_12 cd1_12 ld_12 co0_12 co1_12 lo_12 cx0_12 cx1_12 lx_12 cy0_12 cy1_12 ly_12) | ((with_reducible refine (hQ11 _ _ _ Ro_13).mono ?_); rintro e w14 ⟨rfl, hb14⟩; have hq14 := hb14; have z14 := hb14.size; have hB14 := hB13.trans (hq14.mono hB13.size); have Xd_14 := Xd_13.below hq14 (by omega); have Xo_14 := Xo_13.below hq14 (by omega); have Xx_14 := Xx_13.below hq14 (by omega); have Xy_14 := Xy_13.below hq14 (by omega); have Ro_14 := Ro_13.same hq14; have Rx_14 := Rx_13.same hq14; have Ry_14 := Ry_13.same hq14; have cd0_14 := Xd_14.c0; have cd1_14 := Xd_14.c1; have ld_14 : w5.heap.size < w14.heap.size := (by omega); have co0_14 := Xo_14.c0; have co1_14 := Xo_14.c1; have lo_14 : w6.heap.size < w14.heap.size := (by omega); have cx0_14 := Xx_14.c0; have cx1_14 := Xx_14.c1; have lx_14 : w7.heap.size < w14.heap.size := (by omega); have cy0_14 := Xy_14.c0; have cy1_14 := Xy_14.c1; have ly_14 : w9.heap.size < w14.heap.size := (by omega); clear cd0_13 cd1_13 ld_13 co0_13 co1_13 lo_13 cx0_13 cx1_13 lx_13 cy0_13 cy1_13 ly_13) | (at_make; refine makeI rfl _ _ 26 rfl w14.heap.size 5 i0 1 .u8 Try.underlying26 hi hz0 hz1 hz2 41249 nn HNN.out rfl rfl (by omega) (by omega) (Nat.le_refl _) ?_; intro w15 hown15 hgr15 hb15 hsz15; have h15 := hown15.rowLit HWF.out; rw [HZ.out] at h15; have hq15 := hb15; have z15 := hb15.size; have hB15 := hB14.trans (hq15.mono hB14.size); have Xd_15 := Xd_14.below hq15 (by omega); have Xo_15 := Xo_14.below hq15 (by omega); have Xx_15 := Xx_14.below hq15 (by omega); have Xy_15 := Xy_14.below hq15 (by omega); have Ro_15 := Ro_14.same hq15; have Rx_15 := Rx_14.same hq15; have Ry_15 := Ry_14.same hq15; have Rz_15 := h15; have cd0_15 := Xd_15.c0; have cd1_15 := Xd_15.c1; have ld_15 : w5.heap.size < w15.heap.size := (by omega); have co0_15 := Xo_15.c0; have co1_15 := Xo_15.c1; have lo_15 : w6.heap.size < w15.heap.size := (by omega); have cx0_15 := Xx_15.c0; have cx1_15 := Xx_15.c1; have lx_15 : w7.heap.size < w15.heap.size := (by omega); have cy0_15 := Xy_15.c0; have cy1_15 := Xy_15.c1; have ly_15 : w9.heap.size < w15.heap.size := (by omega); clear cd0_14 cd1_14 ld_14 co0_14 co1_14 lo_14 cx0_14 cx1_14 lx_14 cy0_14 cy1_14 ly_14) | ((with_reducible refine (hO _ _ _ Rz_15).mono ?_); rintro e w16 ⟨a16, q16, rfl, h16, hb16, -⟩; have hq16 := hb16; have z16 := hb16.size; have hB16 := hB15.trans (hq16.mono hB15.size); have Xd_16 := Xd_15.below hq16 (by omega); have Xo_16 := Xo_15.below hq16 (by omega); have Xx_16 := Xx_15.below hq16 (by omega); have Xy_16 := Xy_15.below hq16 (by omega); have Ro_16 := Ro_15.same hq16; have Rx_16 := Rx_15.same hq16; have Ry_16 := Ry_15.same hq16; have Rz_16 := Rz_15.same hq16; have Rf_16 := h16; have cd0_16 := Xd_16.c0; have cd1_16 := Xd_16.c1; have ld_16 : w5.heap.size < w16.heap.size := (by omega); have co0_16 := Xo_16.c0; have co1_16 := Xo_16.c1; have lo_16 : w6.heap.size < w16.heap.size := (by omega); have cx0_16 := Xx_16.c0; have cx1_16 := Xx_16.c1; have lx_16 : w7.heap.size < w16.heap.size := (by omega); have cy0_16 := Xy_16.c0; have cy1_16 := Xy_16.c1; have ly_16 : w9.heap.size < w16.heap.size := (by omega); clear cd0_15 cd1_15 ld_15 co0_15 co1_15 lo_15 cx0_15 cx1_15 lx_15 cy0_15 cy1_15 ly_15) | ((with_reducible refine (hQ12 _ _ _ (Rf_16.same (below1 w16 _))).mono ?_); rintro e w17 ⟨a17, q17, rfl, h17, hb17, -⟩; rw [size1] at hb17; have hq17 := (below1 w16 _).trans (hb17.mono (Nat.le_succ _)); have z17 := hb17.size; rw [size1] at z17; have hB17 := hB16.trans (hq17.mono hB16.size); have Xd_17 := Xd_16.below hq17 (by omega); have Xo_17 := Xo_16.below hq17 (by omega); have Xx_17 := Xx_16.below hq17 (by omega); have Xy_17 := Xy_16.below hq17 (by omega); have Xf_17 := (Box2.of (blk1 w16 _)).below hb17 (Nat.lt_succ_self _); have Ro_17 := Ro_16.same hq17; have Rx_17 := Rx_16.same hq17; have Ry_17 := Ry_16.same hq17; have Rz_17 := Rz_16.same hq17; have Rf_17 := Rf_16.same hq17; have Rg_17 := h17; have cd0_17 := Xd_17.c0; have cd1_17 := Xd_17.c1; have ld_17 : w5.heap.size < w17.heap.size := (by omega); have co0_17 := Xo_17.c0; have co1_17 := Xo_17.c1; have lo_17 : w6.heap.size < w17.heap.size := (by omega); have cx0_17 := Xx_17.c0; have cx1_17 := Xx_17.c1; have lx_17 : w7.heap.size < w17.heap.size := (by omega); have cy0_17 := Xy_17.c0; have cy1_17 := Xy_17.c1; have ly_17 : w9.heap.size < w17.heap.size := (by omega); have cf0_17 := Xf_17.c0; have cf1_17 := Xf_17.c1; have lf_17 : w16.heap.size < w17.heap.size := (by omega); clear cd0_16 cd1_16 ld_16 co0_16 co1_16 lo_16 cx0_16 cx1_16 lx_16 cy0_16 cy1_16 ly_16) | ((with_reducible refine (hQ13 _ _ _ (Rf_17.same (below1 w17 _))).mono ?_); rintro e w18 ⟨a18, q18, rfl, h18, hb18, -⟩; rw [size1] at hb18; have hq18 := (below1 w17 _).trans (hb18.mono (Nat.le_succ _)); have z18 := hb18.size; rw [size1] at z18; have hB18 := hB17.trans (hq18.mono hB17.size); have Xd_18 := Xd_17.below hq18 (by omega); have Xo_18 := Xo_17.below hq18 (by omega); have Xx_18 := Xx_17.below hq18 (by omega); have Xy_18 := Xy_17.below hq18 (by omega); have Xf_18 := Xf_17.below hq18 (by omega); have Xg_18 := (Box2.of (blk1 w17 _)).below hb18 (Nat.lt_succ_self _); have Ro_18 := Ro_17.same hq18; have Rx_18 := Rx_17.same hq18; have Ry_18 := Ry_17.same hq18; have Rz_18 := Rz_17.same hq18; have Rf_18 := Rf_17.same hq18; have Rg_18 := Rg_17.same hq18; have Rh_18 := h18; have cd0_18 := Xd_18.c0; have cd1_18 := Xd_18.c1; have ld_18 : w5.heap.size < w18.heap.size := (by omega); have co0_18 := Xo_18.c0; have co1_18 := Xo_18.c1; have lo_18 : w6.heap.size < w18.heap.size := (by omega); have cx0_18 := Xx_18.c0; have cx1_18 := Xx_18.c1; have lx_18 : w7.heap.size < w18.heap.size := (by omega); have cy0_18 := Xy_18.c0; have cy1_18 := Xy_18.c1; have ly_18 : w9.heap.size < w18.heap.size := (by omega); have cf0_18 := Xf_18.c0; have cf1_18 := Xf_18.c1; have lf_18 : w16.heap.size < w18.heap.size := (by omega); have cg0_18 := Xg_18.c0; have cg1_18 := Xg_18.c1; have lg_18 : w17.heap.size < w18.heap.size := (by omega); clear cd0_17 cd1_17 ld_17 co0_17 co1_17 lo_17 cx0_17 cx1_17 lx_17 cy0_17 cy1_17 ly_17 cf0_17 cf1_17 lf_17) | ((with_reducible refine (hQ14 _ _ _ (Ro_18.same (below1 w18 _))).mono ?_); rintro e w19 ⟨rfl, hb19⟩; rw [size1] at hb19; have hq19 := (below1 w18 _).trans (hb19.mono (Nat.le_succ _)); have z19 := hb19.size; rw [size1] at z19; have hB19 := hB18.trans (hq19.mono hB18.size); have Xd_19 := Xd_18.below hq19 (by omega); have Xo_19 := Xo_18.below hq19 (by omega); have Xx_19 := Xx_18.below hq19 (by omega); have Xy_19 := Xy_18.below hq19 (by omega); have Xf_19 := Xf_18.below hq19 (by omega); have Xg_19 := Xg_18.below hq19 (by omega); have Xh_19 := (Box2.of (blk1 w18 _)).below hb19 (Nat.lt_succ_self _); have Ro_19 := Ro_18.same hq19; have Rx_19 := Rx_18.same hq19; have Ry_19 := Ry_18.same hq19; have Rz_19 := Rz_18.same hq19; have Rf_19 := Rf_18.same hq19; have Rg_19 := Rg_18.same hq19; have Rh_19 := Rh_18.same hq19; have cd0_19 := Xd_19.c0; have cd1_19 := Xd_19.c1; have ld_19 : w5.heap.size < w19.heap.size := (by omega); have co0_19 := Xo_19.c0; have co1_19 := Xo_19.c1; have lo_19 : w6.heap.size < w19.heap.size := (by omega); have cx0_19 := Xx_19.c0; have cx1_19 := Xx_19.c1; have lx_19 : w7.heap.size < w19.heap.size := (by omega); have cy0_19 := Xy_19.c0; have cy1_19 := Xy_19.c1; have ly_19 : w9.heap.size < w19.heap.size := (by omega); have cf0_19 := Xf_19.c0; have cf1_19 := Xf_19.c1; have lf_19 : w16.heap.size < w19.heap.size := (by omega); have cg0_19 := Xg_19.c0; have cg1_19 := Xg_19.c1; have lg_19 : w17.heap.size < w19.heap.size := (by omega); have ch0_19 := Xh_19.c0; have ch1_19 := Xh_19.c1; have lh_19 : w18.heap.size < w19.heap.size := (by omega); clear cd0_18 cd1_18 ld_18 co0_18 co1_18 lo_18 cx0_18 cx1_18 lx_18 cy0_18 cy1_18 ly_18 cf0_18 cf1_18 lf_18 cg0_18 cg1_18 lg_18) | (go_at_call 14; (with_reducible refine (alive7_any _).mono ?_); rintro e wA ⟨rfl, hbA⟩))
      go_ret
      exact ⟨rfl, hB19.trans (hbA.mono hB19.size)⟩
end Go.Proofs.Ytcnlnkknfcmbhaa.Wk

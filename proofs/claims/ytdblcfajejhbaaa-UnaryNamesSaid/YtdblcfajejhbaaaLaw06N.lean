/- The law UnaryNames. -/
import Derived.Test.YtdblcfajejhbaaaLaw06C
namespace Go.Proofs.Ytdblcfajejhbaaa.Wk
open Go.Proofs Go.RowKit Go.Proofs.Ytdblcfajejhbaaa.Kit Go.Proofs.Ytdblcfajejhbaaa.M01 Go.Proofs.Ytdblcfajejhbaaa.M02 Go.Proofs.Ytdblcfajejhbaaa.M06 Go.Proofs.Ytdblcfajejhbaaa.Bt Go.Proofs.Ytdblcfajejhbaaa.R02 Go.Proofs.Ytdblcfajejhbaaa.Un Go.Proofs.Ytdblcfajejhbaaa.R06
set_option linter.unusedVariables false

theorem rd_self {n : Int} (h0 : 0 ≤ n) (h1 : n ≤ 48) : rdE (bl (runS n) (p2 n - 1)) (runS n) 0 = 0 ∧ rdN (bl (runS n) (p2 n - 1)) (runS n) 0 = n ∧ rdX (bl (runS n) (p2 n - 1)) (runS n) 0 = runS n := by
  have h := rd_first (n := n) h0 h1 (ys := []) (m := 0) (by intro x hx; simp at hx) ok_nil (by omega)
  simp only [show val [] = 0 from rfl, Int.zero_mul, Int.add_zero] at h
  exact h.2

theorem val_zeros (n : Nat) : val (List.replicate n 0) = 0 := by
  induction n with
  | zero => rfl
  | succ n ih => rw [List.replicate_succ, val, ih]; rfl

theorem zeros_ok (n : Nat) (h : n = 41250) : okB (List.replicate n 0) 330000 = true :=
  okB_iff.2 ⟨by omega, by omega, by rw [List.length_replicate, h]; rfl, by rw [val_zeros]; have := p2_pos 330000; omega⟩

theorem zeros_read (n : Nat) (h : n = 41250) : rdE (List.replicate n 0) 330000 329999 = 0 ∧ rdN (List.replicate n 0) 330000 329999 = 0 ∧ rdX (List.replicate n 0) 330000 329999 = 330000 := by
  have hon : ons (List.replicate n 0) 329999 = 0 := by
    unfold ons; rw [val_zeros, Int.zero_ediv, cnt_zero _ _ (by decide)]; rfl
  have e : rdE (List.replicate n 0) 330000 329999 = 0 := by rw [rdE, if_pos (zeros_ok n h), if_neg (by omega), if_neg (by omega), if_neg (by rw [hon]; omega)]
  exact ⟨e, by rw [rdN, if_pos e, hon], by rw [rdX, if_pos e, hon]; rfl⟩

theorem zeros_write (n : Nat) (h : n = 41250) : wrE (List.replicate n 0) 330000 0 = 18 ∧ wrL (List.replicate n 0) 330000 0 = [] ∧ wrN (List.replicate n 0) 330000 0 = 0 := by
  have e : wrE (List.replicate n 0) 330000 0 = 18 := by rw [wrE, if_pos (zeros_ok n h), if_neg (by omega), show runS 0 = 1 from rfl, if_pos (by omega)]
  exact ⟨e, by rw [wrL, if_neg (by rw [e]; decide)], by rw [wrN, if_neg (by rw [e]; decide)]⟩

def ones47 : List Int := [255, 255, 255, 255, 255, 127]
theorem ones47_far : rdE ones47 47 9223372036854775807 = 24 ∧ rdN ones47 47 9223372036854775807 = 0 ∧ rdX ones47 47 9223372036854775807 = 0 := by
  have hok : okB ones47 47 = true := by decide +kernel
  have e : rdE ones47 47 9223372036854775807 = 24 := by rw [rdE, if_pos hok, if_neg (by omega), if_pos (by omega)]
  exact ⟨e, by rw [rdN, if_neg (by rw [e]; decide)], by rw [rdX, if_neg (by rw [e]; decide)]⟩
theorem ones47_near : rdE ones47 47 0 = 24 ∧ rdN ones47 47 0 = 0 ∧ rdX ones47 47 0 = 0 := by
  have e : rdE ones47 47 0 = 24 := by decide +kernel
  exact ⟨e, by rw [rdN, if_neg (by rw [e]; decide)], by rw [rdX, if_neg (by rw [e]; decide)]⟩
theorem ones47_put : putE [] 0 140737488355327 47 = 0 ∧ putL [] 0 140737488355327 47 = ones47 ∧ putN [] 0 140737488355327 47 = 47 := by decide +kernel

set_option maxRecDepth 100000 in
set_option maxHeartbeats 16000000 in
theorem unaryNames_walk (w : World)  :
    Calls Try.prog 3 #[] w fun e w' => e = .returned (.bool true) ∧ Below w.heap.size w w' := by
  obtain ⟨i0, hi, hz0, hz1, hz2⟩ := info_parts info_u8
  have hQ1 := fun w' => write_any none 0 0 [] 1 (-1) w' RowIn.nil (isInt_small (by decide) (by decide)) (isInt_small (by decide) (by decide))
  simp only [show wrE [] 1 (-1) = 8 by decide +kernel, show wrL [] 1 (-1) = [] by decide +kernel, show wrN [] 1 (-1) = 0 by decide +kernel, List.length_nil] at hQ1
  have hQ2 := fun w' => read_any none 0 0 [] 1 (-1) w' RowIn.nil (isInt_small (by decide) (by decide)) (isInt_small (by decide) (by decide))
  simp only [show rdE [] 1 (-1) = 8 by decide +kernel, show rdN [] 1 (-1) = 0 by decide +kernel, show rdX [] 1 (-1) = 0 by decide +kernel] at hQ2
  have hQ3 := fun w' => read_any none 0 0 [] 0 (-1) w' RowIn.nil (isInt_small (by decide) (by decide)) (isInt_small (by decide) (by decide))
  simp only [show rdE [] 0 (-1) = 2 by decide +kernel, show rdN [] 0 (-1) = 0 by decide +kernel, show rdX [] 0 (-1) = 0 by decide +kernel] at hQ3
  have hQ4 := fun w' => read_any none 0 0 [] 0 0 w' RowIn.nil (isInt_small (by decide) (by decide)) (isInt_small (by decide) (by decide))
  simp only [show rdE [] 0 0 = 24 by decide +kernel, show rdN [] 0 0 = 0 by decide +kernel, show rdX [] 0 0 = 0 by decide +kernel] at hQ4
  have hQ5 := fun w' => put_any none 0 0 [] 0 140737488355327 47 w' RowIn.nil (isInt_small (by decide) (by decide)) (by decide) (by decide) (isInt_small (by decide) (by decide))
  simp only [ones47_put.1, ones47_put.2.1, ones47_put.2.2, show ones47.length = 6 from rfl] at hQ5
  have hQ6 := fun a q w' (r : RowIn .u8 w' a 6 q ones47) => read_any a 6 q ones47 47 0 w' r (isInt_small (by decide) (by decide)) (isInt_small (by decide) (by decide))
  simp only [ones47_near.1, ones47_near.2.1, ones47_near.2.2] at hQ6
  have hQ7 := fun a q w' (r : RowIn .u8 w' a 6 q ones47) => read_any a 6 q ones47 47 9223372036854775807 w' r (isInt_small (by decide) (by decide)) (by unfold isInt; omega)
  simp only [ones47_far.1, ones47_far.2.1, ones47_far.2.2] at hQ7
  obtain ⟨nn, hnn⟩ : ∃ n : Nat, n = 41250 := ⟨_, rfl⟩
  obtain ⟨zE, zN, zX⟩ := zeros_read nn hnn
  obtain ⟨yE, yL, yN⟩ := zeros_write nn hnn
  have hzl : (List.replicate nn (0 : Int)).length = nn := List.length_replicate
  have hzb : ∀ x ∈ List.replicate nn (0 : Int), (Lit.int .u8 x).wf = true := by
    intro x hx; rw [(List.mem_replicate.1 hx).2]; decide
  have HWF := hid hzb
  obtain ⟨Z, hZ⟩ : ∃ Z, List.replicate nn (0 : Int) = Z := ⟨_, rfl⟩
  have HZ := hid hZ
  rw [hZ] at zE zN zX yE yL yN hzl
  have hle : Z.length ≤ 41250 := by rw [hzl, hnn]; exact Nat.le_refl _
  have oE : ofE Z = 0 := by rw [ofE, if_pos hle]
  have oL : ofL Z = Z := by rw [ofL, if_pos hle]
  have oN : ofN Z = 330000 := by rw [ofN, if_pos hle, hzl, hnn]; rfl
  have hO := fun a q w' (r : RowIn .u8 w' a nn q Z) => of_any a nn q Z w' r
  simp only [oE, oL, oN, hzl] at hO
  have hQ8 := fun a q w' (r : RowIn .u8 w' a nn q Z) => write_any a nn q Z 330000 0 w' r (isInt_small (by decide) (by decide)) (isInt_small (by decide) (by decide))
  simp only [yE, yL, yN, List.length_nil] at hQ8
  have hQ9 := fun a q w' (r : RowIn .u8 w' a nn q Z) => read_any a nn q Z 330000 329999 w' r (isInt_small (by decide) (by decide)) (isInt_small (by decide) (by decide))
  simp only [zE, zN, zX] at hQ9
  have HNN : Hid ((41250 : Int) = (nn : Int)) := hid (by omega)
  have hnb : nn ≤ 50000 := by omega
  clear zE zN zX yE yL yN hzl hzb hZ hle oE oL oN hnn
  generalize ones47 = X47 at *
  unfold bv at hQ1 hQ5 hQ2 hQ3 hQ4 hQ6 hQ7 hQ8 hQ9 hO
  go_enter Try.func3, Try.ntmps3
  go_wp2
  go_loopw [1] (fun t wr => ∃ n : Int, -1 ≤ n ∧ n ≤ 50 ∧ t = .int .i64 n ∧ Below w.heap.size w wr) (fun t _ => (50 - intOf t).toNat)
  case atStart => exact ⟨-1, by omega, by omega, rfl, Below.refl _ _⟩
  case round =>
    obtain ⟨n, hn1, hn2, rfl, hB5⟩ := hrel
    obtain ⟨w5, e5⟩ : ∃ x, x = wr := ⟨_, rfl⟩
    subst e5
    by_cases h49 : n ≤ 49
    · have hL := fun w' => length_any n w' (isInt_small (by omega) (by omega))
      have hW := fun w' => write_any none 0 0 [] 0 n w' RowIn.nil (isInt_small (by decide) (by decide)) (isInt_small (by omega) (by omega))
      clear hQ1 hQ2 hQ3 hQ4 hQ5 hQ6 hQ7 hQ8 hQ9 hO HWF HZ HNN
      by_cases hbad : n < 0 ∨ 48 < n
      · have e1 : lenE n = 2 := by rw [lenE, if_pos hbad]
        have e2 : lenN n = 0 := by rw [lenN, if_pos hbad]
        have e3 : wrE [] 0 n = 2 := by rw [wrE, if_pos ok_nil, if_pos hbad]
        have e4 : wrL [] 0 n = [] := by rw [wrL, if_neg (by rw [e3]; decide)]
        have e5 : wrN [] 0 n = 0 := by rw [wrN, if_neg (by rw [e3]; decide)]
        simp only [e1, e2] at hL
        simp only [e3, e4, e5, List.length_nil] at hW
        unfold bv at hW
        clear e1 e2 e3 e4 e5
        rcases (show n < 0 ∨ (¬ n < 0 ∧ 48 < n) by omega) with h | ⟨h, h'⟩
        · have f1 : (n < 0) = True := eq_true h
          go_wp2_with (first | (go_at_call 10; (with_reducible refine (hL _).mono ?_); rintro e wz ⟨rfl, rfl⟩) | (go_at_call 11; (with_reducible refine (hW _).mono ?_); rintro e w6 ⟨a6, q6, rfl, h6, hb6, -⟩; have hB6 := hB5.trans (hb6.mono hB5.size); have hB7 := hB6.trans ((below1 w6 (.cells #[.slice a6 0 q6, .int .i64 0] 27)).mono hB6.size)))
          go_roundw
          case rel => exact ⟨n + 1, by omega, by omega, by go_num, hB7⟩
          case measure => simp [intOf]; omega
        · have f1 : (n < 0) = False := eq_false h
          have f2 : (48 < n) = True := eq_true h'
          go_wp2_with (first | (go_at_call 10; (with_reducible refine (hL _).mono ?_); rintro e wz ⟨rfl, rfl⟩) | (go_at_call 11; (with_reducible refine (hW _).mono ?_); rintro e w6 ⟨a6, q6, rfl, h6, hb6, -⟩; have hB6 := hB5.trans (hb6.mono hB5.size); have hB7 := hB6.trans ((below1 w6 (.cells #[.slice a6 0 q6, .int .i64 0] 27)).mono hB6.size)))
          go_roundw
          case rel => exact ⟨n + 1, by omega, by omega, by go_num, hB7⟩
          case measure => simp [intOf]; omega
      · have e1 : lenE n = 0 := by rw [lenE, if_neg hbad]
        have e2 : lenN n = runS n := by rw [lenN, if_neg hbad]
        obtain ⟨rE1, rL1, rN1, rK1, rV1⟩ := wr_nil (m := n) (by omega) (by omega)
        obtain ⟨sE, sN, sX⟩ := rd_self (n := n) (by omega) (by omega)
        have hrb := runS_bd (n := n) (by omega) (by omega)
        have hrn : (48 < n + 1 ∧ runS n = 48) ∨ (¬ 48 < n + 1 ∧ runS n = n + 1) := by unfold runS; split <;> omega
        obtain ⟨S, hS⟩ : ∃ S, runS n = S := ⟨_, rfl⟩
        simp only [e1, e2, hS] at hL
        rw [hS] at rL1 rN1 sE sN sX hrb hrn
        obtain ⟨X, hX⟩ : ∃ X, bl S (p2 n - 1) = X := ⟨_, rfl⟩
        obtain ⟨lX, elX⟩ : ∃ l, X.length = l := ⟨_, rfl⟩
        rw [hX] at rL1 sE sN sX
        simp only [rE1, rL1, rN1, elX] at hW
        have hR := fun a q w' (r : RowIn .u8 w' a lX q X) => read_any a lX q X S 0 w' r (isInt_small (by omega) (by omega)) (isInt_small (by decide) (by decide))
        simp only [sE, sN, sX] at hR
        unfold bv at hW hR
        have f1 : (n < 0) = False := eq_false (by omega)
        have f2 : (48 < n) = False := eq_false (by omega)
        clear e1 e2 rE1 rL1 rN1 rK1 rV1 sE sN sX hS hX elX hbad
        rcases hrn with ⟨h, h'⟩ | ⟨h, h'⟩
        · obtain rfl : n = 48 := by omega
          subst h'
          clear h
          go_wp2_with (first | (go_at_call 10; (with_reducible refine (hL _).mono ?_); rintro e wz ⟨rfl, rfl⟩) | (go_at_call 11; (with_reducible refine (hW _).mono ?_); rintro e w6 ⟨a6, q6, rfl, h6, hb6, -⟩; have hB6 := hB5.trans (hb6.mono hB5.size); have hB7 := hB6.trans ((below1 w6 (.cells #[.slice a6 lX q6, .int .i64 48] 27)).mono hB6.size); have hR6 := hR _ _ _ (h6.same (below1 w6 (.cells #[.slice a6 lX q6, .int .i64 48] 27))); have hXX := Box2.of (blk1 w6 (.cells #[.slice a6 lX q6, .int .i64 48] 27))) | (go_at_call 12; (with_reducible refine hR6.mono ?_); rintro e w8 ⟨rfl, hb8⟩; have hB8 := hB7.trans (hb8.mono hB7.size); obtain ⟨x0, x1, x2, x3⟩ := hXX.below hb8 (by rw [size1]; omega)))
          go_roundw
          case rel => exact ⟨48 + 1, by omega, by omega, by go_num, hB8⟩
          case measure => simp [intOf]
        · have f3 : (48 < n + 1) = False := eq_false h
          subst h'
          go_wp2_with (first | (go_at_call 10; (with_reducible refine (hL _).mono ?_); rintro e wz ⟨rfl, rfl⟩) | (go_at_call 11; (with_reducible refine (hW _).mono ?_); rintro e w6 ⟨a6, q6, rfl, h6, hb6, -⟩; have hB6 := hB5.trans (hb6.mono hB5.size); have hB7 := hB6.trans ((below1 w6 (.cells #[.slice a6 lX q6, .int .i64 (n + 1)] 27)).mono hB6.size); have hR6 := hR _ _ _ (h6.same (below1 w6 (.cells #[.slice a6 lX q6, .int .i64 (n + 1)] 27))); have hXX := Box2.of (blk1 w6 (.cells #[.slice a6 lX q6, .int .i64 (n + 1)] 27))) | (go_at_call 12; (with_reducible refine hR6.mono ?_); rintro e w8 ⟨rfl, hb8⟩; have hB8 := hB7.trans (hb8.mono hB7.size); obtain ⟨x0, x1, x2, x3⟩ := hXX.below hb8 (by rw [size1]; omega)))
          go_roundw
          case rel => exact ⟨n + 1, by omega, by omega, by go_num, hB8⟩
          case measure => simp [intOf]; omega
    · have f0 : (n ≤ 49) = False := eq_false h49
      go_wp2_with (first | ((with_reducible refine (hQ1 _ ).mono ?_); rintro e w6 ⟨a6, q6, rfl, h6, hb6, -⟩; rw [size1] at hb6; have hq6 := (below1 w5 _).trans (hb6.mono (Nat.le_succ _)); have z6 := hb6.size; rw [size1] at z6; have hB6 := hB5.trans (hq6.mono hB5.size); have Xd_6 := (Box2.of (blk1 w5 _)).below hb6 (Nat.lt_succ_self _); have Rx_6 := h6; have cd0_6 := Xd_6.c0; have cd1_6 := Xd_6.c1; have ld_6 : w5.heap.size < w6.heap.size := (by omega)) | ((with_reducible refine (hQ2 _ ).mono ?_); rintro e w7 ⟨rfl, hb7⟩; rw [size1] at hb7; have hq7 := (below1 w6 _).trans (hb7.mono (Nat.le_succ _)); have z7 := hb7.size; rw [size1] at z7; have hB7 := hB6.trans (hq7.mono hB6.size); have Xd_7 := Xd_6.below hq7 (by omega); have Xx_7 := (Box2.of (blk1 w6 _)).below hb7 (Nat.lt_succ_self _); have Rx_7 := Rx_6.same hq7; have cd0_7 := Xd_7.c0; have cd1_7 := Xd_7.c1; have ld_7 : w5.heap.size < w7.heap.size := (by omega); have cx0_7 := Xx_7.c0; have cx1_7 := Xx_7.c1; have lx_7 : w6.heap.size < w7.heap.size := (by omega); clear cd0_6 cd1_6 ld_6) | ((with_reducible refine (hQ3 _ ).mono ?_); rintro e w8 ⟨rfl, hb8⟩; have hq8 := hb8; have z8 := hb8.size; have hB8 := hB7.trans (hq8.mono hB7.size); have Xd_8 := Xd_7.below hq8 (by omega); have Xx_8 := Xx_7.below hq8 (by omega); have Rx_8 := Rx_7.same hq8; have cd0_8 := Xd_8.c0; have cd1_8 := Xd_8.c1; have ld_8 : w5.heap.size < w8.heap.size := (by omega); have cx0_8 := Xx_8.c0; have cx1_8 := Xx_8.c1; have lx_8 : w6.heap.size < w8.heap.size := (by omega); clear cd0_7 cd1_7 ld_7 cx0_7 cx1_7 lx_7) | ((with_reducible refine (hQ4 _ ).mono ?_); rintro e w9 ⟨rfl, hb9⟩; have hq9 := hb9; have z9 := hb9.size; have hB9 := hB8.trans (hq9.mono hB8.size); have Xd_9 := Xd_8.below hq9 (by omega); have Xx_9 := Xx_8.below hq9 (by omega); have Rx_9 := Rx_8.same hq9; have cd0_9 := Xd_9.c0; have cd1_9 := Xd_9.c1; have ld_9 : w5.heap.size < w9.heap.size := (by omega); have cx0_9 := Xx_9.c0; have cx1_9 := Xx_9.c1; have lx_9 : w6.heap.size < w9.heap.size := (by omega); clear cd0_8 cd1_8 ld_8 cx0_8 cx1_8 lx_8) | ((with_reducible refine (hQ5 _ ).mono ?_); rintro e w10 ⟨a10, q10, rfl, h10, hb10, -⟩; have hq10 := hb10; have z10 := hb10.size; have hB10 := hB9.trans (hq10.mono hB9.size); have Xd_10 := Xd_9.below hq10 (by omega); have Xx_10 := Xx_9.below hq10 (by omega); have Rx_10 := Rx_9.same hq10; have Ro_10 := h10; have cd0_10 := Xd_10.c0; have cd1_10 := Xd_10.c1; have ld_10 : w5.heap.size < w10.heap.size := (by omega); have cx0_10 := Xx_10.c0; have cx1_10 := Xx_10.c1; have lx_10 : w6.heap.size < w10.heap.size := (by omega); clear cd0_9 cd1_9 ld_9 cx0_9 cx1_9 lx_9) | ((with_reducible refine (hQ6 _ _ _ (Ro_10.same (below1 w10 _))).mono ?_); rintro e w11 ⟨rfl, hb11⟩; rw [size1] at hb11; have hq11 := (below1 w10 _).trans (hb11.mono (Nat.le_succ _)); have z11 := hb11.size; rw [size1] at z11; have hB11 := hB10.trans (hq11.mono hB10.size); have Xd_11 := Xd_10.below hq11 (by omega); have Xx_11 := Xx_10.below hq11 (by omega); have Xo_11 := (Box2.of (blk1 w10 _)).below hb11 (Nat.lt_succ_self _); have Rx_11 := Rx_10.same hq11; have Ro_11 := Ro_10.same hq11; have cd0_11 := Xd_11.c0; have cd1_11 := Xd_11.c1; have ld_11 : w5.heap.size < w11.heap.size := (by omega); have cx0_11 := Xx_11.c0; have cx1_11 := Xx_11.c1; have lx_11 : w6.heap.size < w11.heap.size := (by omega); have co0_11 := Xo_11.c0; have co1_11 := Xo_11.c1; have lo_11 : w10.heap.size < w11.heap.size := (by omega); clear cd0_10 cd1_10 ld_10 cx0_10 cx1_10 lx_10) | ((with_reducible refine (hQ7 _ _ _ Ro_11).mono ?_); rintro e w12 ⟨rfl, hb12⟩; have hq12 := hb12; have z12 := hb12.size; have hB12 := hB11.trans (hq12.mono hB11.size); have Xd_12 := Xd_11.below hq12 (by omega); have Xx_12 := Xx_11.below hq12 (by omega); have Xo_12 := Xo_11.below hq12 (by omega); have Rx_12 := Rx_11.same hq12; have Ro_12 := Ro_11.same hq12; have cd0_12 := Xd_12.c0; have cd1_12 := Xd_12.c1; have ld_12 : w5.heap.size < w12.heap.size := (by omega); have cx0_12 := Xx_12.c0; have cx1_12 := Xx_12.c1; have lx_12 : w6.heap.size < w12.heap.size := (by omega); have co0_12 := Xo_12.c0; have co1_12 := Xo_12.c1; have lo_12 : w10.heap.size < w12.heap.size := (by omega); clear cd0_11 cd1_11 ld_11 cx0_11 cx1_11 lx_11 co0_11 co1_11 lo_11) | (at_make; refine makeI rfl _ _ 25 rfl w12.heap.size 5 i0 1 .u8 Try.underlying25 hi hz0 hz1 hz2 41250 nn HNN.out rfl rfl (by omega) (by omega) (Nat.le_refl _) ?_; intro w13 hown13 hgr13 hb13 hsz13; have h13 := hown13.rowLit HWF.out; rw [HZ.out] at h13; have hq13 := hb13; have z13 := hb13.size; have hB13 := hB12.trans (hq13.mono hB12.size); have Xd_13 := Xd_12.below hq13 (by omega); have Xx_13 := Xx_12.below hq13 (by omega); have Xo_13 := Xo_12.below hq13 (by omega); have Rx_13 := Rx_12.same hq13; have Ro_13 := Ro_12.same hq13; have Rz_13 := h13; have cd0_13 := Xd_13.c0; have cd1_13 := Xd_13.c1; have ld_13 : w5.heap.size < w13.heap.size := (by omega); have cx0_13 := Xx_13.c0; have cx1_13 := Xx_13.c1; have lx_13 : w6.heap.size < w13.heap.size := (by omega); have co0_13 := Xo_13.c0; have co1_13 := Xo_13.c1; have lo_13 : w10.heap.size < w13.heap.size := (by omega); clear cd0_12 cd1_12 ld_12 cx0_12 cx1_12 lx_12 co0_12 co1_12 lo_12) | ((with_reducible refine (hO _ _ _ Rz_13).mono ?_); rintro e w14 ⟨a14, q14, rfl, h14, hb14, -⟩; have hq14 := hb14; have z14 := hb14.size; have hB14 := hB13.trans (hq14.mono hB13.size); have Xd_14 := Xd_13.below hq14 (by omega); have Xx_14 := Xx_13.below hq14 (by omega); have Xo_14 := Xo_13.below hq14 (by omega); have Rx_14 := Rx_13.same hq14; have Ro_14 := Ro_13.same hq14; have Rz_14 := Rz_13.same hq14; have Rf_14 := h14; have cd0_14 := Xd_14.c0; have cd1_14 := Xd_14.c1; have ld_14 : w5.heap.size < w14.heap.size := (by omega); have cx0_14 := Xx_14.c0; have cx1_14 := Xx_14.c1; have lx_14 : w6.heap.size < w14.heap.size := (by omega); have co0_14 := Xo_14.c0; have co1_14 := Xo_14.c1; have lo_14 : w10.heap.size < w14.heap.size := (by omega); clear cd0_13 cd1_13 ld_13 cx0_13 cx1_13 lx_13 co0_13 co1_13 lo_13) | ((with_reducible refine (hQ8 _ _ _ (Rf_14.same (below1 w14 _))).mono ?_); rintro e w15 ⟨a15, q15, rfl, h15, hb15, -⟩; rw [size1] at hb15; have hq15 := (below1 w14 _).trans (hb15.mono (Nat.le_succ _)); have z15 := hb15.size; rw [size1] at z15; have hB15 := hB14.trans (hq15.mono hB14.size); have Xd_15 := Xd_14.below hq15 (by omega); have Xx_15 := Xx_14.below hq15 (by omega); have Xo_15 := Xo_14.below hq15 (by omega); have Xf_15 := (Box2.of (blk1 w14 _)).below hb15 (Nat.lt_succ_self _); have Rx_15 := Rx_14.same hq15; have Ro_15 := Ro_14.same hq15; have Rz_15 := Rz_14.same hq15; have Rf_15 := Rf_14.same hq15; have Rg_15 := h15; have cd0_15 := Xd_15.c0; have cd1_15 := Xd_15.c1; have ld_15 : w5.heap.size < w15.heap.size := (by omega); have cx0_15 := Xx_15.c0; have cx1_15 := Xx_15.c1; have lx_15 : w6.heap.size < w15.heap.size := (by omega); have co0_15 := Xo_15.c0; have co1_15 := Xo_15.c1; have lo_15 : w10.heap.size < w15.heap.size := (by omega); have cf0_15 := Xf_15.c0; have cf1_15 := Xf_15.c1; have lf_15 : w14.heap.size < w15.heap.size := (by omega); clear cd0_14 cd1_14 ld_14 cx0_14 cx1_14 lx_14 co0_14 co1_14 lo_14) | ((with_reducible refine (hQ9 _ _ _ (Rf_15.same (below1 w15 _))).mono ?_); rintro e w16 ⟨rfl, hb16⟩; rw [size1] at hb16; have hq16 := (below1 w15 _).trans (hb16.mono (Nat.le_succ _)); have z16 := hb16.size; rw [size1] at z16; have hB16 := hB15.trans (hq16.mono hB15.size); have Xd_16 := Xd_15.below hq16 (by omega); have Xx_16 := Xx_15.below hq16 (by omega); have Xo_16 := Xo_15.below hq16 (by omega); have Xf_16 := Xf_15.below hq16 (by omega); have Xg_16 := (Box2.of (blk1 w15 _)).below hb16 (Nat.lt_succ_self _); have Rx_16 := Rx_15.same hq16; have Ro_16 := Ro_15.same hq16; have Rz_16 := Rz_15.same hq16; have Rf_16 := Rf_15.same hq16; have Rg_16 := Rg_15.same hq16; have cd0_16 := Xd_16.c0; have cd1_16 := Xd_16.c1; have ld_16 : w5.heap.size < w16.heap.size := (by omega); have cx0_16 := Xx_16.c0; have cx1_16 := Xx_16.c1; have lx_16 : w6.heap.size < w16.heap.size := (by omega); have co0_16 := Xo_16.c0; have co1_16 := Xo_16.c1; have lo_16 : w10.heap.size < w16.heap.size := (by omega); have cf0_16 := Xf_16.c0; have cf1_16 := Xf_16.c1; have lf_16 : w14.heap.size < w16.heap.size := (by omega); have cg0_16 := Xg_16.c0; have cg1_16 := Xg_16.c1; have lg_16 : w15.heap.size < w16.heap.size := (by omega); clear cd0_15 cd1_15 ld_15 cx0_15 cx1_15 lx_15 co0_15 co1_15 lo_15 cf0_15 cf1_15 lf_15) | (go_at_call 15; (with_reducible refine (alive_any _).mono ?_); rintro e wA ⟨rfl, hbA⟩))
      go_ret
      exact ⟨rfl, hB16.trans (hbA.mono hB16.size)⟩
end Go.Proofs.Ytdblcfajejhbaaa.Wk

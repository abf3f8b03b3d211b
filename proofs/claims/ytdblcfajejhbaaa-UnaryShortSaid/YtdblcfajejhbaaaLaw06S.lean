/- The law UnaryShort. -/
import Derived.Test.YtdblcfajejhbaaaLaw06
namespace Go.Proofs.Ytdblcfajejhbaaa.Wk
open Go.Proofs Go.RowKit Go.Proofs.Ytdblcfajejhbaaa.Kit Go.Proofs.Ytdblcfajejhbaaa.M01 Go.Proofs.Ytdblcfajejhbaaa.M02 Go.Proofs.Ytdblcfajejhbaaa.M06 Go.Proofs.Ytdblcfajejhbaaa.Bt Go.Proofs.Ytdblcfajejhbaaa.R02 Go.Proofs.Ytdblcfajejhbaaa.Un Go.Proofs.Ytdblcfajejhbaaa.R06
set_option linter.unusedVariables false

/-- How many ones there are from an index on. -/
def shInv (xs : List Int) (p : Int) (j : Nat) : Prop := cnt (val xs / p2 p) 2000 = j + cnt (val xs / p2 (p + j)) (2000 - j)

theorem shInv_start (xs : List Int) (p : Int) : shInv xs p 0 := by unfold shInv; simp
theorem shInv_more {xs : List Int} {p : Int} {j : Nat} (h : shInv xs p j) (hp : 0 ≤ p) (hj : j < 2000) (hb : val xs / p2 (p + j) % 2 = 1) : shInv xs p (j + 1) := by
  unfold shInv at h ⊢
  rw [h, show 2000 - j = (2000 - (j + 1)) + 1 by omega, cnt_one _ (by omega) _ hb, show p + ((j + 1 : Nat) : Int) = p + j + 1 by omega]; omega
theorem cnt_fuel (l : Nat) : ∀ (X : Int) (k : Nat), k ≤ l → cnt X k = min (cnt X l) k := by
  induction l with
  | zero => intro X k h; obtain rfl : k = 0 := by omega
            rw [cnt]; omega
  | succ l ih =>
    intro X k h
    cases k with
    | zero => rw [cnt]; omega
    | succ k =>
      rw [cnt, cnt]
      split
      · have := ih (X / 2) k (by omega); omega
      · omega
theorem shInv_end {xs : List Int} {p : Int} {j : Nat} (h : shInv xs p j) (hp : 0 ≤ p) (hj : j < 2000) (hb : val xs / p2 (p + j) % 2 ≠ 1) : ons xs p = (min j 48 : Nat) := by
  unfold shInv at h
  rw [cnt_zero _ _ hb] at h
  unfold ons
  rw [cnt_fuel 2000 _ 48 (by omega), h]; rfl

set_option maxRecDepth 100000 in
set_option maxHeartbeats 8000000 in
theorem unaryShort_walk (a00 : Option Addr) (l00 c00 : Nat) (x00 : List Int) (n01 : Int) (a1 : Int) (w : World) (r00 : RowIn .u8 w a00 l00 c00 x00) (b01 : -9223372036854775808 ≤ n01 ∧ n01 ≤ 9223372036854775807) (b1 : -9223372036854775808 ≤ a1 ∧ a1 ≤ 9223372036854775807) :
    Calls Try.prog 6 #[.agg #[.slice a00 l00 c00, .int .i64 n01], .int .i64 a1] w fun e w' => e = .returned (.bool true) ∧ Below w.heap.size w w' := by
  have hC := fun w' (r : RowIn .u8 w' a00 l00 c00 x00) => rcheck_any a00 l00 c00 x00 n01 w' r b01
  unfold bv at hC
  by_cases hok : okB x00 n01 = true
  · have e1 : chkE x00 n01 = 0 := by simp [chkE, hok]
    simp only [e1] at hC
    obtain ⟨hn0, hn1, hxl, hval⟩ := okB_iff.1 hok
    have hby := byte_of r00.rd
    have hv0 := val_nonneg hby
    have hll := r00.hl
    by_cases t0 : 1500 < n01
    · have f0 : (1500 < n01) = True := eq_true t0
      go_enter Try.func6, Try.ntmps6
      go_wp2_with (first | ((with_reducible refine (hC _ (r00.same (below1 w _))).mono ?_); rintro e w1 ⟨rfl, hb1⟩; rw [size1] at hb1; have hB1 := (below1 w _).trans (hb1.mono (by omega)); have z1 := hb1.size; rw [size1] at z1; have Xb_1 := (Box2.of (blk1 w _)).below hb1 (by omega); have cb0_1 := Xb_1.c0; have cb1_1 := Xb_1.c1; have lb_1 : w.heap.size < w1.heap.size := (by omega)) | (go_at_call 15; (with_reducible refine (alive_any _).mono ?_); rintro e wA ⟨rfl, hbA⟩))
      go_ret
      exact ⟨rfl, hB1.trans (hbA.mono hB1.size)⟩
    have f0 : (1500 < n01) = False := eq_false t0
    by_cases t1 : a1 < 0
    · have f1 : (a1 < 0) = True := eq_true t1
      go_enter Try.func6, Try.ntmps6
      go_wp2_with (first | ((with_reducible refine (hC _ (r00.same (below1 w _))).mono ?_); rintro e w1 ⟨rfl, hb1⟩; rw [size1] at hb1; have hB1 := (below1 w _).trans (hb1.mono (by omega)); have z1 := hb1.size; rw [size1] at z1; have Xb_1 := (Box2.of (blk1 w _)).below hb1 (by omega); have cb0_1 := Xb_1.c0; have cb1_1 := Xb_1.c1; have lb_1 : w.heap.size < w1.heap.size := (by omega)) | (go_at_call 15; (with_reducible refine (alive_any _).mono ?_); rintro e wA ⟨rfl, hbA⟩))
      go_ret
      exact ⟨rfl, hB1.trans (hbA.mono hB1.size)⟩
    have f1 : (a1 < 0) = False := eq_false t1
    by_cases t2 : n01 < a1
    · have f2 : (n01 < a1) = True := eq_true t2
      go_enter Try.func6, Try.ntmps6
      go_wp2_with (first | ((with_reducible refine (hC _ (r00.same (below1 w _))).mono ?_); rintro e w1 ⟨rfl, hb1⟩; rw [size1] at hb1; have hB1 := (below1 w _).trans (hb1.mono (by omega)); have z1 := hb1.size; rw [size1] at z1; have Xb_1 := (Box2.of (blk1 w _)).below hb1 (by omega); have cb0_1 := Xb_1.c0; have cb1_1 := Xb_1.c1; have lb_1 : w.heap.size < w1.heap.size := (by omega)) | (go_at_call 15; (with_reducible refine (alive_any _).mono ?_); rintro e wA ⟨rfl, hbA⟩))
      go_ret
      exact ⟨rfl, hB1.trans (hbA.mono hB1.size)⟩
    have f2 : (n01 < a1) = False := eq_false t2
    have hA := fun i w' (r : RowIn .u8 w' a00 l00 c00 x00) h1 h2 => at_any a00 l00 c00 x00 n01 i w' r h1 h2 (by omega)
    have hR := fun w' (r : RowIn .u8 w' a00 l00 c00 x00) => read_any a00 l00 c00 x00 n01 a1 w' r b01 b1
    have hlb : n01 ≤ 8 * (l00 : Int) := by omega
    by_cases hE : rdE x00 n01 a1 = 0
    · have eN : rdN x00 n01 a1 = ons x00 a1 := by rw [rdN, if_pos hE]
      have eX : rdX x00 n01 a1 = a1 + runS (ons x00 a1) := by rw [rdX, if_pos hE]
      have hob := ons_bd x00 a1
      have hoi := ons_in hby hok (show 0 ≤ a1 by omega) (show a1 ≤ n01 by omega)
      have hrb := runS_bd hob.1 hob.2
      have hnx : a1 + runS (ons x00 a1) ≤ n01 := by
        unfold rdE at hE
        rw [if_pos hok, if_neg (by omega)] at hE
        by_cases q : n01 ≤ a1
        · rw [if_pos q] at hE; omega
        · rw [if_neg q] at hE
          by_cases q2 : ons x00 a1 < 48 ∧ n01 ≤ a1 + ons x00 a1
          · rw [if_pos q2] at hE; omega
          · by_cases q3 : ons x00 a1 = 48
            · rw [q3, runS_48]; omega
            · rw [runS_lt (by omega)]; omega
      obtain ⟨cE, cL, cN⟩ : cuE x00 n01 a1 (a1 + runS (ons x00 a1)) = 0 ∧ cuL x00 n01 a1 (a1 + runS (ons x00 a1)) = bl (runS (ons x00 a1)) (p2 (ons x00 a1) - 1) ∧ cuN x00 n01 a1 (a1 + runS (ons x00 a1)) = runS (ons x00 a1) := by
        have e : cuE x00 n01 a1 (a1 + runS (ons x00 a1)) = 0 := by rw [cuE, if_pos hok, if_neg (by omega)]
        have e2 : a1 + runS (ons x00 a1) - a1 = runS (ons x00 a1) := by omega
        exact ⟨e, by rw [cuL, if_pos e, e2, ons_low], by rw [cuN, if_pos e, e2]⟩
      obtain ⟨rE1, rL1, rN1, rK1, rV1⟩ := wr_nil (m := ons x00 a1) (by omega) (by omega)
      have hW := fun w' => write_any none 0 0 [] 0 (ons x00 a1) w' RowIn.nil (isInt_small (by decide) (by decide)) (isInt_small (by omega) (by omega))
      have hK := fun w' (r : RowIn .u8 w' a00 l00 c00 x00) => cut_any a00 l00 c00 x00 n01 a1 (a1 + runS (ons x00 a1)) w' r b01 b1 (isInt_small (by omega) (by omega))
      have hend : ∀ j : Nat, ons x00 a1 = (min j 48 : Nat) → ons x00 a1 = (min j 48 : Nat) := fun _ h => h
      simp only [rE1, rL1, rN1] at hW
      simp only [cE, cL, cN] at hK
      simp only [eN, eX, hE] at hR
      obtain ⟨X, hX⟩ : ∃ X, bl (runS (ons x00 a1)) (p2 (ons x00 a1) - 1) = X := ⟨_, rfl⟩
      obtain ⟨lX, elX⟩ : ∃ l, X.length = l := ⟨_, rfl⟩
      simp only [hX, elX] at hW hK
      obtain ⟨NX, hNX⟩ : ∃ l, a1 + runS (ons x00 a1) = l := ⟨_, rfl⟩
      obtain ⟨RS, hRS⟩ : ∃ l, runS (ons x00 a1) = l := ⟨_, rfl⟩
      simp only [hNX] at hR hK hnx
      simp only [hRS] at hW hK hrb hNX
      have hS := fun a q a' q' w' (r : RowIn .u8 w' a lX q X) (r' : RowIn .u8 w' a' lX q' X) => same_any a lX q X RS a' lX q' X RS w' r r'
      have es : sameB X RS X RS = true := by simp [sameB]
      simp only [es] at hS
      have HON := fun j (h : ons x00 a1 = (min j 48 : Nat)) => hid h
      obtain ⟨N, hN⟩ : ∃ l, ons x00 a1 = l := ⟨_, rfl⟩
      have h1 : (NX < a1) = False := eq_false (by omega)
      have h2 : (n01 < NX) = False := eq_false (by omega)
      have h3 : (N < 0) = False := eq_false (by omega)
      have h4 : (48 < N) = False := eq_false (by omega)
      have hend : ∀ j : Nat, ons x00 a1 = (min j 48 : Nat) → N = (min j 48 : Nat) := fun j h => by rw [← hN]; exact h
      simp only [hN] at hR hW hob
      clear e1 eN eX hoi hrb cE cL cN rE1 rL1 rN1 rK1 rV1 hX elX hRS es HON hN hE hNX hok hxl hby hnx
      unfold bv at hR hW hK hS hA
      go_enter Try.func6, Try.ntmps6
      go_wp2_with (first | ((with_reducible refine (hC _ (r00.same (below1 w _))).mono ?_); rintro e w1 ⟨rfl, hb1⟩; rw [size1] at hb1; have hB1 := (below1 w _).trans (hb1.mono (by omega)); have z1 := hb1.size; rw [size1] at z1; have Xb_1 := (Box2.of (blk1 w _)).below hb1 (by omega); have cb0_1 := Xb_1.c0; have cb1_1 := Xb_1.c1; have lb_1 : w.heap.size < w1.heap.size := (by omega)) | ((with_reducible refine (hR _ (r00.same (hB1))).mono ?_); rintro e w2 ⟨rfl, hb2⟩; have hq2 := hb2; have z2 := hb2.size; have hB2 := hB1.trans (hq2.mono hB1.size); have Xb_2 := Xb_1.below hq2 (by omega); have cb0_2 := Xb_2.c0; have cb1_2 := Xb_2.c1; have lb_2 : w.heap.size < w2.heap.size := (by omega); clear cb0_1 cb1_1 lb_1))
      go_loopw [8] (fun t wr => ∃ j : Nat, t = .int .i64 j ∧ Hid (shInv x00 a1 j) ∧ a1 + j ≤ n01 ∧ Box2 wr w.heap.size (.slice a00 l00 c00) (.int .i64 n01) ∧ Below w.heap.size w wr ∧ w.heap.size < wr.heap.size) (fun t _ => 2000 - (intOf t).toNat)
      case atStart => exact ⟨0, by go_num, hid (shInv_start x00 a1), by omega, Xb_2, hB2, lb_2⟩
      case round =>
        obtain ⟨j, rfl, hinv, hpj, Xb_5, hB5, lb_5⟩ := hrel
        obtain ⟨w5, e5⟩ : ∃ x, x = wr := ⟨_, rfl⟩
        subst e5
        have cb0_5 := Xb_5.c0
        have cb1_5 := Xb_5.c1
        clear Xb_2 hB2 lb_2 cb0_2 cb1_2
        by_cases hlt : a1 + (j : Int) < n01
        · have t1 : (a1 + (j : Int) < n01) = True := eq_true hlt
          have hcall := hA (a1 + j) w5 (r00.same hB5) (by omega) (by omega)
          obtain ⟨z, hz⟩ : ∃ z, val x00 / p2 (a1 + j) % 2 = z := ⟨_, rfl⟩
          rw [hz] at hcall
          by_cases hz1 : z = 1
          · subst hz1
            have HI := hid (shInv_more hinv.out (by omega) (by omega) hz)
            clear hz
            go_wp2_with (go_at_call 24; refine hcall.mono ?_; rintro e w6 ⟨rfl, hb6⟩)
            go_roundw
            case rel => exact ⟨j + 1, by go_num, HI, by omega, Xb_5.below hb6 lb_5, hB5.trans (hb6.mono hB5.size), Nat.lt_of_lt_of_le lb_5 hb6.size⟩
            case measure => simp [intOf]; omega
          · have t5 : (z == 1) = false := beq_eq_false_iff_ne.2 hz1
            have hJ := shInv_end hinv.out (by omega) (by omega) (by rw [hz]; exact hz1)
            clear hz
            have h0 := hend j hJ
            rcases (show 48 < j ∨ j ≤ 48 by omega) with g | g
            · obtain rfl : N = 48 := by omega
              have g1 : (48 < (j : Int)) = True := eq_true (by omega)
              clear hJ h0 hend g
              go_wp2_with (first | (go_at_call 24; refine hcall.mono ?_; rintro e w6 ⟨rfl, hb6⟩; have hB6 := hB5.trans (hb6.mono hB5.size); have Xb_6 := Xb_5.below hb6 lb_5; have z6 := hb6.size; have cb0_6 := Xb_6.c0; have cb1_6 := Xb_6.c1; have lb_6 : w.heap.size < w6.heap.size := (by omega); clear cb0_5 cb1_5) | ((with_reducible refine (hK _ (r00.same (hB6))).mono ?_); rintro e w7 ⟨a7, q7, rfl, h7, hb7, -⟩; have hq7 := hb7; have z7 := hb7.size; have hB7 := hB6.trans (hq7.mono hB6.size); have Xb_7 := Xb_6.below hq7 (by omega); have Rx_7 := h7; have cb0_7 := Xb_7.c0; have cb1_7 := Xb_7.c1; have lb_7 : w.heap.size < w7.heap.size := (by omega); clear cb0_6 cb1_6 lb_6) | ((with_reducible refine (hW _ ).mono ?_); rintro e w8 ⟨a8, q8, rfl, h8, hb8, -⟩; rw [size1] at hb8; have hq8 := (below1 w7 _).trans (hb8.mono (Nat.le_succ _)); have z8 := hb8.size; rw [size1] at z8; have hB8 := hB7.trans (hq8.mono hB7.size); have Xb_8 := Xb_7.below hq8 (by omega); have Xx_8 := (Box2.of (blk1 w7 _)).below hb8 (Nat.lt_succ_self _); have Rx_8 := Rx_7.same hq8; have Ry_8 := h8; have cb0_8 := Xb_8.c0; have cb1_8 := Xb_8.c1; have lb_8 : w.heap.size < w8.heap.size := (by omega); have cx0_8 := Xx_8.c0; have cx1_8 := Xx_8.c1; have lx_8 : w7.heap.size < w8.heap.size := (by omega); clear cb0_7 cb1_7 lb_7) | ((with_reducible refine (hS _ _ _ _ _ (Rx_8.same (below1 w8 _)) (Ry_8.same (below1 w8 _))).mono ?_); rintro e w9 ⟨rfl, hb9⟩; rw [size1] at hb9; have hq9 := (below1 w8 _).trans (hb9.mono (Nat.le_succ _)); have z9 := hb9.size; rw [size1] at z9; have hB9 := hB8.trans (hq9.mono hB8.size); have Xb_9 := Xb_8.below hq9 (by omega); have Xx_9 := Xx_8.below hq9 (by omega); have Xy_9 := (Box2.of (blk1 w8 _)).below hb9 (Nat.lt_succ_self _); have Rx_9 := Rx_8.same hq9; have Ry_9 := Ry_8.same hq9; have cb0_9 := Xb_9.c0; have cb1_9 := Xb_9.c1; have lb_9 : w.heap.size < w9.heap.size := (by omega); have cx0_9 := Xx_9.c0; have cx1_9 := Xx_9.c1; have lx_9 : w7.heap.size < w9.heap.size := (by omega); have cy0_9 := Xy_9.c0; have cy1_9 := Xy_9.c1; have ly_9 : w8.heap.size < w9.heap.size := (by omega); clear cb0_8 cb1_8 lb_8 cx0_8 cx1_8 lx_8) | (go_at_call 15; (with_reducible refine (alive_any _).mono ?_); rintro e wA ⟨rfl, hbA⟩))
              go_ret
              exact ⟨rfl, hB9.trans (hbA.mono hB9.size)⟩
            · obtain rfl : N = j := by omega
              have g1 : (48 < (j : Int)) = False := eq_false (by omega)
              clear hJ h0 hend g
              go_wp2_with (first | (go_at_call 24; refine hcall.mono ?_; rintro e w6 ⟨rfl, hb6⟩; have hB6 := hB5.trans (hb6.mono hB5.size); have Xb_6 := Xb_5.below hb6 lb_5; have z6 := hb6.size; have cb0_6 := Xb_6.c0; have cb1_6 := Xb_6.c1; have lb_6 : w.heap.size < w6.heap.size := (by omega); clear cb0_5 cb1_5) | ((with_reducible refine (hK _ (r00.same (hB6))).mono ?_); rintro e w7 ⟨a7, q7, rfl, h7, hb7, -⟩; have hq7 := hb7; have z7 := hb7.size; have hB7 := hB6.trans (hq7.mono hB6.size); have Xb_7 := Xb_6.below hq7 (by omega); have Rx_7 := h7; have cb0_7 := Xb_7.c0; have cb1_7 := Xb_7.c1; have lb_7 : w.heap.size < w7.heap.size := (by omega); clear cb0_6 cb1_6 lb_6) | ((with_reducible refine (hW _ ).mono ?_); rintro e w8 ⟨a8, q8, rfl, h8, hb8, -⟩; rw [size1] at hb8; have hq8 := (below1 w7 _).trans (hb8.mono (Nat.le_succ _)); have z8 := hb8.size; rw [size1] at z8; have hB8 := hB7.trans (hq8.mono hB7.size); have Xb_8 := Xb_7.below hq8 (by omega); have Xx_8 := (Box2.of (blk1 w7 _)).below hb8 (Nat.lt_succ_self _); have Rx_8 := Rx_7.same hq8; have Ry_8 := h8; have cb0_8 := Xb_8.c0; have cb1_8 := Xb_8.c1; have lb_8 : w.heap.size < w8.heap.size := (by omega); have cx0_8 := Xx_8.c0; have cx1_8 := Xx_8.c1; have lx_8 : w7.heap.size < w8.heap.size := (by omega); clear cb0_7 cb1_7 lb_7) | ((with_reducible refine (hS _ _ _ _ _ (Rx_8.same (below1 w8 _)) (Ry_8.same (below1 w8 _))).mono ?_); rintro e w9 ⟨rfl, hb9⟩; rw [size1] at hb9; have hq9 := (below1 w8 _).trans (hb9.mono (Nat.le_succ _)); have z9 := hb9.size; rw [size1] at z9; have hB9 := hB8.trans (hq9.mono hB8.size); have Xb_9 := Xb_8.below hq9 (by omega); have Xx_9 := Xx_8.below hq9 (by omega); have Xy_9 := (Box2.of (blk1 w8 _)).below hb9 (Nat.lt_succ_self _); have Rx_9 := Rx_8.same hq9; have Ry_9 := Ry_8.same hq9; have cb0_9 := Xb_9.c0; have cb1_9 := Xb_9.c1; have lb_9 : w.heap.size < w9.heap.size := (by omega); have cx0_9 := Xx_9.c0; have cx1_9 := Xx_9.c1; have lx_9 : w7.heap.size < w9.heap.size := (by omega); have cy0_9 := Xy_9.c0; have cy1_9 := Xy_9.c1; have ly_9 : w8.heap.size < w9.heap.size := (by omega); clear cb0_8 cb1_8 lb_8 cx0_8 cx1_8 lx_8) | (go_at_call 15; (with_reducible refine (alive_any _).mono ?_); rintro e wA ⟨rfl, hbA⟩))
              go_ret
              exact ⟨rfl, hB9.trans (hbA.mono hB9.size)⟩
        · have t1 : (a1 + (j : Int) < n01) = False := eq_false hlt
          have hJ := shInv_end hinv.out (by omega) (by omega) (by rw [show a1 + (j : Int) = n01 by omega, Int.ediv_eq_zero_of_lt hv0 hval]; decide)
          clear hA
          have h0 := hend j hJ
          rcases (show 48 < j ∨ j ≤ 48 by omega) with g | g
          · obtain rfl : N = 48 := by omega
            have g1 : (48 < (j : Int)) = True := eq_true (by omega)
            clear hJ h0 hend g
            go_wp2_with (first | ((with_reducible refine (hK _ (r00.same (hB5))).mono ?_); rintro e w6 ⟨a6, q6, rfl, h6, hb6, -⟩; have hq6 := hb6; have z6 := hb6.size; have hB6 := hB5.trans (hq6.mono hB5.size); have Xb_6 := Xb_5.below hq6 (by omega); have Rx_6 := h6; have cb0_6 := Xb_6.c0; have cb1_6 := Xb_6.c1; have lb_6 : w.heap.size < w6.heap.size := (by omega); clear cb0_5 cb1_5 lb_5) | ((with_reducible refine (hW _ ).mono ?_); rintro e w7 ⟨a7, q7, rfl, h7, hb7, -⟩; rw [size1] at hb7; have hq7 := (below1 w6 _).trans (hb7.mono (Nat.le_succ _)); have z7 := hb7.size; rw [size1] at z7; have hB7 := hB6.trans (hq7.mono hB6.size); have Xb_7 := Xb_6.below hq7 (by omega); have Xx_7 := (Box2.of (blk1 w6 _)).below hb7 (Nat.lt_succ_self _); have Rx_7 := Rx_6.same hq7; have Ry_7 := h7; have cb0_7 := Xb_7.c0; have cb1_7 := Xb_7.c1; have lb_7 : w.heap.size < w7.heap.size := (by omega); have cx0_7 := Xx_7.c0; have cx1_7 := Xx_7.c1; have lx_7 : w6.heap.size < w7.heap.size := (by omega); clear cb0_6 cb1_6 lb_6) | ((with_reducible refine (hS _ _ _ _ _ (Rx_7.same (below1 w7 _)) (Ry_7.same (below1 w7 _))).mono ?_); rintro e w8 ⟨rfl, hb8⟩; rw [size1] at hb8; have hq8 := (below1 w7 _).trans (hb8.mono (Nat.le_succ _)); have z8 := hb8.size; rw [size1] at z8; have hB8 := hB7.trans (hq8.mono hB7.size); have Xb_8 := Xb_7.below hq8 (by omega); have Xx_8 := Xx_7.below hq8 (by omega); have Xy_8 := (Box2.of (blk1 w7 _)).below hb8 (Nat.lt_succ_self _); have Rx_8 := Rx_7.same hq8; have Ry_8 := Ry_7.same hq8; have cb0_8 := Xb_8.c0; have cb1_8 := Xb_8.c1; have lb_8 : w.heap.size < w8.heap.size := (by omega); have cx0_8 := Xx_8.c0; have cx1_8 := Xx_8.c1; have lx_8 : w6.heap.size < w8.heap.size := (by omega); have cy0_8 := Xy_8.c0; have cy1_8 := Xy_8.c1; have ly_8 : w7.heap.size < w8.heap.size := (by omega); clear cb0_7 cb1_7 lb_7 cx0_7 cx1_7 lx_7) | (go_at_call 15; (with_reducible refine (alive_any _).mono ?_); rintro e wA ⟨rfl, hbA⟩))
            go_ret
            exact ⟨rfl, hB8.trans (hbA.mono hB8.size)⟩
          · obtain rfl : N = j := by omega
            have g1 : (48 < (j : Int)) = False := eq_false (by omega)
            clear hJ h0 hend g
            go_wp2_with (first | ((with_reducible refine (hK _ (r00.same (hB5))).mono ?_); rintro e w6 ⟨a6, q6, rfl, h6, hb6, -⟩; have hq6 := hb6; have z6 := hb6.size; have hB6 := hB5.trans (hq6.mono hB5.size); have Xb_6 := Xb_5.below hq6 (by omega); have Rx_6 := h6; have cb0_6 := Xb_6.c0; have cb1_6 := Xb_6.c1; have lb_6 : w.heap.size < w6.heap.size := (by omega); clear cb0_5 cb1_5 lb_5) | ((with_reducible refine (hW _ ).mono ?_); rintro e w7 ⟨a7, q7, rfl, h7, hb7, -⟩; rw [size1] at hb7; have hq7 := (below1 w6 _).trans (hb7.mono (Nat.le_succ _)); have z7 := hb7.size; rw [size1] at z7; have hB7 := hB6.trans (hq7.mono hB6.size); have Xb_7 := Xb_6.below hq7 (by omega); have Xx_7 := (Box2.of (blk1 w6 _)).below hb7 (Nat.lt_succ_self _); have Rx_7 := Rx_6.same hq7; have Ry_7 := h7; have cb0_7 := Xb_7.c0; have cb1_7 := Xb_7.c1; have lb_7 : w.heap.size < w7.heap.size := (by omega); have cx0_7 := Xx_7.c0; have cx1_7 := Xx_7.c1; have lx_7 : w6.heap.size < w7.heap.size := (by omega); clear cb0_6 cb1_6 lb_6) | ((with_reducible refine (hS _ _ _ _ _ (Rx_7.same (below1 w7 _)) (Ry_7.same (below1 w7 _))).mono ?_); rintro e w8 ⟨rfl, hb8⟩; rw [size1] at hb8; have hq8 := (below1 w7 _).trans (hb8.mono (Nat.le_succ _)); have z8 := hb8.size; rw [size1] at z8; have hB8 := hB7.trans (hq8.mono hB7.size); have Xb_8 := Xb_7.below hq8 (by omega); have Xx_8 := Xx_7.below hq8 (by omega); have Xy_8 := (Box2.of (blk1 w7 _)).below hb8 (Nat.lt_succ_self _); have Rx_8 := Rx_7.same hq8; have Ry_8 := Ry_7.same hq8; have cb0_8 := Xb_8.c0; have cb1_8 := Xb_8.c1; have lb_8 : w.heap.size < w8.heap.size := (by omega); have cx0_8 := Xx_8.c0; have cx1_8 := Xx_8.c1; have lx_8 : w6.heap.size < w8.heap.size := (by omega); have cy0_8 := Xy_8.c0; have cy1_8 := Xy_8.c1; have ly_8 : w7.heap.size < w8.heap.size := (by omega); clear cb0_7 cb1_7 lb_7 cx0_7 cx1_7 lx_7) | (go_at_call 15; (with_reducible refine (alive_any _).mono ?_); rintro e wA ⟨rfl, hbA⟩))
            go_ret
            exact ⟨rfl, hB8.trans (hbA.mono hB8.size)⟩
    · have eE : rdE x00 n01 a1 = 24 ∧ ∀ j : Nat, ons x00 a1 = (min j 48 : Nat) → a1 + j ≤ n01 → j < 48 ∧ a1 + j = n01 := by
        unfold rdE at hE ⊢
        rw [if_pos hok, if_neg (by omega)] at hE ⊢
        by_cases q : n01 ≤ a1
        · rw [if_pos q]; exact ⟨rfl, fun j h1 h2 => by omega⟩
        · rw [if_neg q] at hE ⊢
          by_cases q2 : ons x00 a1 < 48 ∧ n01 ≤ a1 + ons x00 a1
          · rw [if_pos q2]; exact ⟨rfl, fun j h1 h2 => by omega⟩
          · rw [if_neg q2] at hE; exact absurd rfl hE
      obtain ⟨eE, hend0⟩ := eE
      have hend : ∀ j : Nat, ons x00 a1 = (min j 48 : Nat) → a1 + j ≤ n01 → (j : Int) < 48 ∧ a1 + (j : Int) = n01 := fun j h1 h2 => by have := hend0 j h1 h2; omega
      have eN : rdN x00 n01 a1 = 0 := by rw [rdN, if_neg hE]
      have eX : rdX x00 n01 a1 = 0 := by rw [rdX, if_neg hE]
      simp only [eN, eX, eE] at hR
      clear e1 eN eX eE hE hend0 hok hxl hby
      unfold bv at hR hA
      go_enter Try.func6, Try.ntmps6
      go_wp2_with (first | ((with_reducible refine (hC _ (r00.same (below1 w _))).mono ?_); rintro e w1 ⟨rfl, hb1⟩; rw [size1] at hb1; have hB1 := (below1 w _).trans (hb1.mono (by omega)); have z1 := hb1.size; rw [size1] at z1; have Xb_1 := (Box2.of (blk1 w _)).below hb1 (by omega); have cb0_1 := Xb_1.c0; have cb1_1 := Xb_1.c1; have lb_1 : w.heap.size < w1.heap.size := (by omega)) | ((with_reducible refine (hR _ (r00.same (hB1))).mono ?_); rintro e w2 ⟨rfl, hb2⟩; have hq2 := hb2; have z2 := hb2.size; have hB2 := hB1.trans (hq2.mono hB1.size); have Xb_2 := Xb_1.below hq2 (by omega); have cb0_2 := Xb_2.c0; have cb1_2 := Xb_2.c1; have lb_2 : w.heap.size < w2.heap.size := (by omega); clear cb0_1 cb1_1 lb_1))
      go_loopw [8] (fun t wr => ∃ j : Nat, t = .int .i64 j ∧ Hid (shInv x00 a1 j) ∧ a1 + j ≤ n01 ∧ Box2 wr w.heap.size (.slice a00 l00 c00) (.int .i64 n01) ∧ Below w.heap.size w wr ∧ w.heap.size < wr.heap.size) (fun t _ => 2000 - (intOf t).toNat)
      case atStart => exact ⟨0, by go_num, hid (shInv_start x00 a1), by omega, Xb_2, hB2, lb_2⟩
      case round =>
        obtain ⟨j, rfl, hinv, hpj, Xb_5, hB5, lb_5⟩ := hrel
        obtain ⟨w5, e5⟩ : ∃ x, x = wr := ⟨_, rfl⟩
        subst e5
        have cb0_5 := Xb_5.c0
        have cb1_5 := Xb_5.c1
        clear Xb_2 hB2 lb_2 cb0_2 cb1_2
        by_cases hlt : a1 + (j : Int) < n01
        · have t1 : (a1 + (j : Int) < n01) = True := eq_true hlt
          have hcall := hA (a1 + j) w5 (r00.same hB5) (by omega) (by omega)
          obtain ⟨z, hz⟩ : ∃ z, val x00 / p2 (a1 + j) % 2 = z := ⟨_, rfl⟩
          rw [hz] at hcall
          by_cases hz1 : z = 1
          · subst hz1
            have HI := hid (shInv_more hinv.out (by omega) (by omega) hz)
            clear hz
            go_wp2_with (go_at_call 24; refine hcall.mono ?_; rintro e w6 ⟨rfl, hb6⟩)
            go_roundw
            case rel => exact ⟨j + 1, by go_num, HI, by omega, Xb_5.below hb6 lb_5, hB5.trans (hb6.mono hB5.size), Nat.lt_of_lt_of_le lb_5 hb6.size⟩
            case measure => simp [intOf]; omega
          · have t5 : (z == 1) = false := beq_eq_false_iff_ne.2 hz1
            have hJ := shInv_end hinv.out (by omega) (by omega) (by rw [hz]; exact hz1)
            clear hz
            exact absurd (hend j hJ hpj).2 (by omega)
        · have t1 : (a1 + (j : Int) < n01) = False := eq_false hlt
          have hJ := shInv_end hinv.out (by omega) (by omega) (by rw [show a1 + (j : Int) = n01 by omega, Int.ediv_eq_zero_of_lt hv0 hval]; decide)
          clear hA
          obtain ⟨h0, h1⟩ := hend j hJ hpj
          have g1 : ((j : Int) < 48) = True := eq_true h0
          have g2 : (a1 + (j : Int) = n01) = True := eq_true h1
          have g3 : a1 + (j : Int) = n01 := h1
          clear hJ hend g3
          go_wp2_with (first | (go_at_call 15; (with_reducible refine (alive_any _).mono ?_); rintro e wA ⟨rfl, hbA⟩))
          go_ret
          exact ⟨rfl, hB5.trans (hbA.mono hB5.size)⟩
  · have e1 : chkE x00 n01 = 8 := by simp [chkE, hok]
    simp only [e1] at hC
    go_enter Try.func6, Try.ntmps6
    go_wp2_with (first | ((with_reducible refine (hC _ (r00.same (below1 w _))).mono ?_); rintro e w1 ⟨rfl, hb1⟩; rw [size1] at hb1; have hB1 := (below1 w _).trans (hb1.mono (by omega)); have z1 := hb1.size; rw [size1] at z1; have Xb_1 := (Box2.of (blk1 w _)).below hb1 (by omega); have cb0_1 := Xb_1.c0; have cb1_1 := Xb_1.c1; have lb_1 : w.heap.size < w1.heap.size := (by omega)) | (go_at_call 15; (with_reducible refine (alive_any _).mono ?_); rintro e wA ⟨rfl, hbA⟩))
    go_ret
    exact ⟨rfl, hB1.trans (hbA.mono hB1.size)⟩
end Go.Proofs.Ytdblcfajejhbaaa.Wk

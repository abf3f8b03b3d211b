/- What the reference's functions of layer 7 return: walks of their Go text. -/
import Derived.Test.YtbhoodhcipegbaaRef02h
import Derived.Test.YtbhoodhcipegbaaRice
namespace Go.Proofs.Ytbhoodhcipegbaa.R07
open Go.Proofs Go.RowKit Go.Proofs.Ytbhoodhcipegbaa.Kit Go.Proofs.Ytbhoodhcipegbaa.M01 Go.Proofs.Ytbhoodhcipegbaa.M02 Go.Proofs.Ytbhoodhcipegbaa.M06 Go.Proofs.Ytbhoodhcipegbaa.M07 Go.Proofs.Ytbhoodhcipegbaa.Bt Go.Proofs.Ytbhoodhcipegbaa.R02 Go.Proofs.Ytbhoodhcipegbaa.Un Go.Proofs.Ytbhoodhcipegbaa.R06 Go.Proofs.Ytbhoodhcipegbaa.Ri
set_option linter.unusedVariables false

theorem rparam_any (k : Int) (w : World) : Calls Try.prog 45 #[.int .i64 k] w fun e w' => e = .returned (.bool (isK k)) ∧ w = w' := by
  rcases (show k < 0 ∨ (0 ≤ k ∧ 24 < k) ∨ (0 ≤ k ∧ k ≤ 24) by omega) with h | ⟨h, h'⟩ | ⟨h, h'⟩
  · rw [isK_no (.inl h)]
    have f1 : (0 ≤ k) = False := eq_false (by omega)
    go_enter Try.func45, Try.ntmps45
    go_wp2
    go_ret
    exact ⟨rfl, rfl⟩
  · rw [isK_no (.inr h')]
    have f1 : (0 ≤ k) = True := eq_true h
    have f2 : (k ≤ 24) = False := eq_false (by omega)
    go_enter Try.func45, Try.ntmps45
    go_wp2
    go_ret
    exact ⟨rfl, rfl⟩
  · rw [isK_yes h h']
    have f1 : (0 ≤ k) = True := eq_true h
    have f2 : (k ≤ 24) = True := eq_true h'
    go_enter Try.func45, Try.ntmps45
    go_wp2
    go_ret
    exact ⟨rfl, rfl⟩

set_option maxHeartbeats 4000000 in
theorem rpower_any (k : Int) (w : World) (h0 : 0 ≤ k) (h1 : k ≤ 60) : Calls Try.prog 69 #[.int .i64 k] w fun e w' => e = .returned (.int .u64 (p2 k)) ∧ w = w' := by
  go_enter Try.func69, Try.ntmps69
  go_wp2
  go_loop [3, 4] (fun u s => ∃ i : Int, 0 ≤ i ∧ i ≤ k ∧ u = .int .u64 (p2 i) ∧ s = .int .i64 i) (fun _ s => (k - intOf s).toNat)
  case atStart => exact ⟨0, Int.le_refl _, h0, rfl, rfl⟩
  case round =>
    obtain ⟨i, hi0, hik, rfl, rfl⟩ := hrel
    by_cases hlt : i < k
    · have hp := p2_pos i
      have hs : p2 (i + 1) = p2 i * 2 := by rw [p2_add hi0 (by omega), show p2 1 = 2 from rfl]
      have h60 : p2 i ≤ 1152921504606846976 := by rw [← show p2 60 = 1152921504606846976 by decide +kernel]; exact p2_le (by omega)
      obtain ⟨X, hX⟩ : ∃ X, p2 i = X := ⟨_, rfl⟩
      rw [hX] at hp hs h60 ⊢
      clear hX
      go_wp2
      go_round
      case rel => exact ⟨i + 1, by omega, by omega, by rw [hs], by go_num⟩
      case measure => simp [intOf]; omega
    · obtain rfl : i = k := by omega
      go_wp2
      go_ret
      exact ⟨rfl, rfl⟩

set_option maxHeartbeats 4000000 in
theorem rpart_any (v k : Int) (w : World) (hv : isU32 v) (h0 : 0 ≤ k) (h1 : k ≤ 24) : Calls Try.prog 73 #[.int .u32 v, .int .i64 k] w fun e w' => e = .returned (.int .i64 (qP v k)) ∧ w = w' := by
  obtain ⟨v0, v1⟩ := hv
  have hp := p2_pos k
  have hP := fun w' => rpower_any k w' h0 (by omega)
  have hd := Int.ediv_nonneg v0 (show 0 ≤ p2 k by omega)
  have hle : v / p2 k ≤ v := Int.ediv_le_self _ v0
  have hq : qP v k = min 48 (v / p2 k) := rfl
  obtain ⟨P, hPP⟩ : ∃ P, p2 k = P := ⟨_, rfl⟩
  rw [hPP] at hp hd hle hP hq
  have hne : (P = 0) = False := eq_false (by omega)
  by_cases h : v / P < 48
  · have e : qP v k = v / P := by omega
    rw [e]
    have f1 : (v / P < 48) = True := eq_true h
    have f2 : (48 < v / P) = False := eq_false (by omega)
    clear hq e hPP
    go_enter Try.func73, Try.ntmps73
    go_wp2_with (go_at_call 69; (with_reducible refine (hP _).mono ?_); rintro e w1 ⟨rfl, rfl⟩)
    go_ret
    exact ⟨rfl, rfl⟩
  · have e : qP v k = 48 := by omega
    rw [e]
    have f1 : (v / P < 48) = False := eq_false h
    clear hq e hPP
    go_enter Try.func73, Try.ntmps73
    go_wp2_with (go_at_call 69; (with_reducible refine (hP _).mono ?_); rintro e w1 ⟨rfl, rfl⟩)
    go_ret
    exact ⟨rfl, rfl⟩

theorem rlong7_any (v k : Int) (w : World) (hv : isU32 v) (h0 : 0 ≤ k) (h1 : k ≤ 24) : Calls Try.prog 63 #[.int .u32 v, .int .i64 k] w fun e w' => e = .returned (.int .i64 (cdS v k)) ∧ w = w' := by
  have hP := fun w' => rpart_any v k w' hv h0 h1
  have hq := qP_bd k hv.1
  have hc : cdS v k = runS (qP v k) + bhS (qP v k) k := rfl
  rw [hc]
  obtain ⟨Q, hQ⟩ : ∃ Q, qP v k = Q := ⟨_, rfl⟩
  rw [hQ] at hP hq ⊢
  clear hc hQ
  by_cases h : Q = 48
  · subst h
    rw [runS_48, bhS_48]
    go_enter Try.func63, Try.ntmps63
    go_wp2_with (go_at_call 73; (with_reducible refine (hP _).mono ?_); rintro e w1 ⟨rfl, rfl⟩)
    go_ret
    exact ⟨rfl, rfl⟩
  · rw [runS_lt (by omega), bhS_lt k (by omega)]
    have f1 : (Q = 48) = False := eq_false h
    go_enter Try.func63, Try.ntmps63
    go_wp2_with (go_at_call 73; (with_reducible refine (hP _).mono ?_); rintro e w1 ⟨rfl, rfl⟩)
    go_ret
    exact ⟨rfl, rfl⟩


theorem add7_eq {V v k n : Int} (hv : isU32 v) (hn : 0 ≤ n) : (V + (p2 (qP v k) - 1) * p2 n) + lwP v k * p2 (n + runS (qP v k)) = V + cdV v k * p2 n := by
  obtain ⟨q0, q1⟩ := qP_bd k hv.1
  have hs := runS_bd q0 q1
  unfold cdV
  rw [p2_add hn (by omega), Int.add_mul, Int.mul_assoc, Int.mul_comm (p2 n) (p2 (runS _))]; omega

set_option maxHeartbeats 4000000 in
theorem radd7_any (a : Option Addr) (len cap base : Nat) (n V v k : Int) (w : World) (hown : OwnI .u8 w base 5 (.slice a len cap) (bl n V)) (hbase : base ≤ w.heap.size) (hn : 0 ≤ n) (hv : isU32 v) (hk0 : 0 ≤ k) (hk1 : k ≤ 24) (hn1 : n + cdS v k ≤ 330000) (h0 : 0 ≤ V) (h1 : V < p2 n) :
    Calls Try.prog 66 #[bv a len cap n, .int .u32 v, .int .i64 k] w fun e w' => ∃ a' len' cap', e = .returned (bv a' len' cap' (n + cdS v k)) ∧ OwnI .u8 w' base 5 (.slice a' len' cap') (bl (n + cdS v k) (V + cdV v k * p2 n)) ∧ Below base w w' ∧ KeepT 5 w w' := by
  have k0 := blk2a w (.cells #[.slice a len cap, .int .i64 n] 24) (.cells #[.slice none 0 0, .int .i64 0] 24)
  have k1 := blk2 w (.cells #[.slice a len cap, .int .i64 n] 24) (.cells #[.slice none 0 0, .int .i64 0] 24)
  have hbe := below2 w (.cells #[.slice a len cap, .int .i64 n] 24) (.cells #[.slice none 0 0, .int .i64 0] 24)
  have hsz := size2 w (.cells #[.slice a len cap, .int .i64 n] 24) (.cells #[.slice none 0 0, .int .i64 0] 24)
  have o1 := hown.below hbe
  have hbw : Below base w _ := hbe.mono hbase
  have hkw : KeepT 5 w _ := KeepT.of_below hbe
  obtain ⟨q0, q1⟩ := qP_bd k hv.1
  have hs := runS_bd q0 q1
  have hb := bhS_bd (qP v k) hk0 hk1
  have hc : cdS v k = runS (qP v k) + bhS (qP v k) k := rfl
  have hlo := ones_lt hn q0 h0 h1
  have hlt : V + (p2 (qP v k) - 1) * p2 n < p2 (n + runS (qP v k)) := join_lt hn (by omega) h1 (run_lt q0 q1).2
  have hP := fun w' => rpart_any v k w' hv hk0 hk1
  have hR := fun w' ho hb => rrun_any a len cap base n V (qP v k) w' ho hb hn q0 q1 (by omega) h0 h1
  have hPw := fun w' => rpower_any k w' hk0 (by omega)
  have hlw := lw_bd v k
  have hM := fun x a' l' c' w' ho hb hx0 hx1 => number_any a' l' c' base (n + runS (qP v k)) (V + (p2 (qP v k) - 1) * p2 n) x (bhS (qP v k) k) w' ho hb (by omega) (by omega) (by omega) (by omega) hlo.1 hlt hx0 hx1
  have hfin := add7_eq (V := V) (k := k) hv hn
  have hwv := lw_val (k := k) hv.1 hv.2
  obtain ⟨v0, v1⟩ := hv
  by_cases h48 : qP v k = 48
  · have hx : lwP v k = v := hwv.1 h48
    have hmod : v % p2 (bhS (qP v k) k) = v := by rw [← show lwP v k = v % p2 (bhS (qP v k) k) from rfl, hx]
    have hN := fun a' l' c' w' ho hb => hM v a' l' c' w' ho hb v0 (by omega)
    simp only [hmod] at hN
    have hf2 := hfin
    rw [hx] at hf2
    rw [show n + runS (qP v k) + bhS (qP v k) k = n + cdS v k by omega] at hN
    simp only [hf2] at hN
    clear hM hmod hfin hwv hlw hlo hlt hf2
    rw [h48] at hP hR hN
    rw [runS_48] at hR hN
    rw [bhS_48] at hN
    obtain ⟨W1, hW1⟩ : ∃ W, V + (p2 48 - 1) * p2 n = W := ⟨_, rfl⟩
    obtain ⟨W2, hW2⟩ : ∃ W, V + cdV v k * p2 n = W := ⟨_, rfl⟩
    obtain ⟨N2, hN2⟩ : ∃ W, n + cdS v k = W := ⟨_, rfl⟩
    obtain ⟨N1, hN1⟩ : ∃ W, n + 48 = W := ⟨_, rfl⟩
    simp only [hW1, hN1] at hR hN
    simp only [hW2, hN2] at hN ⊢
    clear hW1 hW2 hN2 hN1 hx hs hb hc h48 hPw hn1 h0 h1
    unfold bv at hR hN ⊢
    obtain ⟨B, eB⟩ : ∃ B, w.heap.size = B := ⟨_, rfl⟩
    rw [eB] at k0 k1 hsz hbase
    obtain ⟨y0, y1, y2, y3⟩ := Box2.of k0
    go_enter Try.func66, Try.ntmps66
    go_wp2_with (first  | (go_at_call 73; (with_reducible refine (hP _).mono ?_); rintro e w1 ⟨rfl, rfl⟩)  | (go_at_call 74; (with_reducible refine (hR _ o1 (by rw [size2]; omega)).mono ?_); rintro e w2 ⟨a2, l2, c2, rfl, o2, hb2, hk2⟩; have K0 := hk2 _ _ _ k0 (by decide); have K1 := hk2 _ _ _ k1 (by decide); obtain ⟨z0, z1, z2, z3⟩ := Box2.of K0; have hne := own_ne o2 K0; have o3 := (o2.other (i := 0) (u := .slice a2 l2 c2) hne).other (i := 1) (u := .int .i64 N1) hne;  have L0' := heap_setCell_same w2 B 0 _ _ (.slice a2 l2 c2) K0; have L0 := heap_setCell_same _ B 1 _ _ (.int .i64 N1) L0'; have L1' := (Below.heap_setCell w2 ⟨B, 0, none⟩ (.slice a2 l2 c2) (B + 1) (by simp)).trans K1; have L1 := (Below.heap_setCell _ ⟨B, 1, none⟩ (.int .i64 N1) (B + 1) (by simp)).trans L1';  have hb3 : Below base w ((w2.setCell ⟨B, 0, none⟩ (.slice a2 l2 c2)).setCell ⟨B, 1, none⟩ (.int .i64 N1)) := ((hbw.trans hb2).setCell (by dsimp only; omega) _).setCell (by dsimp only; omega) _; have hk3 : KeepT 5 w ((w2.setCell ⟨B, 0, none⟩ (.slice a2 l2 c2)).setCell ⟨B, 1, none⟩ (.int .i64 N1)) := ((hkw.trans hk2).setNew (by omega) _ _).setNew (by omega) _ _; obtain ⟨t0, t1, t2, t3⟩ := Box2.of L0; clear L0' L1')  | (go_at_call 64; (with_reducible refine (hN _ _ _ _ o3 (Nat.le_trans (by omega) (Nat.le_of_lt (Array.getElem?_eq_some_iff.1 L0).1))).mono ?_); rintro e w4 ⟨a4, l4, c4, rfl, o4, hb4, hk4⟩; have M1 := hk4 _ _ _ L1 (by decide); obtain ⟨r0, r1, r2, r3⟩ := Box2.of M1; have hne4 := own_ne o4 M1))
    refine bodyPost_ret_by (v := .agg #[.slice a4 l4 c4, .int .i64 N2]) (by rw [results_cell1 rfl]; go_simp) rfl ?_
    exact ⟨_, _, _, rfl, (o4.other hne4).other hne4, ((hb3.trans hb4).setCell (by dsimp only; omega) _).setCell (by dsimp only; omega) _, ((hk3.trans hk4).setNew (by omega) _ _).setNew (by omega) _ _⟩
  · have hlt48 : qP v k < 48 := by omega
    obtain ⟨hsum, hq⟩ := hwv.2 h48
    have hbk : bhS (qP v k) k = k := bhS_lt k hlt48
    have hlk : lwP v k = v % p2 k := by unfold lwP; rw [hbk]
    have hN := fun a' l' c' w' ho hb => hM (lwP v k) a' l' c' w' ho hb hlw.1 (by have := hlw.2; have := p2_le64 (show bhS (qP v k) k ≤ 64 by omega); omega)
    have hmod : lwP v k % p2 (bhS (qP v k) k) = lwP v k := Int.emod_eq_of_lt hlw.1 hlw.2
    simp only [hmod] at hN
    rw [show n + runS (qP v k) + bhS (qP v k) k = n + cdS v k by omega] at hN
    simp only [hfin] at hN
    have hp := p2_pos k
    have hrem : (IntKind.u64.wrap v).tmod (p2 k) = lwP v k := by
      have hw : IntKind.u64.wrap v = v := by simp [IntKind.wrap, IntKind.bits, IntKind.signed]; omega
      rw [hw, hlk, Int.tmod_eq_emod_of_nonneg v0]
    have hpne : (p2 k = 0) = False := eq_false (by omega)
    clear hM hmod hfin hwv hlw hlo hlt hsum hq hlk
    rw [hbk] at hN
    obtain ⟨W1, hW1⟩ : ∃ W, V + (p2 (qP v k) - 1) * p2 n = W := ⟨_, rfl⟩
    obtain ⟨W2, hW2⟩ : ∃ W, V + cdV v k * p2 n = W := ⟨_, rfl⟩
    obtain ⟨N2, hN2⟩ : ∃ W, n + cdS v k = W := ⟨_, rfl⟩
    obtain ⟨N1, hN1⟩ : ∃ W, n + runS (qP v k) = W := ⟨_, rfl⟩
    obtain ⟨LV, hLV⟩ : ∃ W, lwP v k = W := ⟨_, rfl⟩
    obtain ⟨P, hPP⟩ : ∃ W, p2 k = W := ⟨_, rfl⟩
    simp only [hW1, hN1] at hR hN
    simp only [hW2, hN2, hLV] at hN ⊢
    simp only [hLV, hPP] at hrem
    simp only [hPP] at hPw hpne hp
    have f48 : (qP v k == 48) = false := beq_eq_false_iff_ne.2 h48
    obtain ⟨Q, hQ⟩ : ∃ W, qP v k = W := ⟨_, rfl⟩
    simp only [hQ] at hP hR f48
    clear hW1 hW2 hN2 hN1 hs hb hc h48 hn1 h0 h1 hLV hPP hQ hlt48 hbk
    unfold bv at hR hN ⊢
    obtain ⟨B, eB⟩ : ∃ B, w.heap.size = B := ⟨_, rfl⟩
    rw [eB] at k0 k1 hsz hbase
    obtain ⟨y0, y1, y2, y3⟩ := Box2.of k0
    go_enter Try.func66, Try.ntmps66
    go_wp2_with (first  | (go_at_call 73; (with_reducible refine (hP _).mono ?_); rintro e w1 ⟨rfl, rfl⟩)  | (go_at_call 74; (with_reducible refine (hR _ o1 (by rw [size2]; omega)).mono ?_); rintro e w2 ⟨a2, l2, c2, rfl, o2, hb2, hk2⟩; have K0 := hk2 _ _ _ k0 (by decide); have K1 := hk2 _ _ _ k1 (by decide); obtain ⟨z0, z1, z2, z3⟩ := Box2.of K0; have hne := own_ne o2 K0; have o3 := (o2.other (i := 0) (u := .slice a2 l2 c2) hne).other (i := 1) (u := .int .i64 N1) hne;  have L0' := heap_setCell_same w2 B 0 _ _ (.slice a2 l2 c2) K0; have L0 := heap_setCell_same _ B 1 _ _ (.int .i64 N1) L0'; have L1' := (Below.heap_setCell w2 ⟨B, 0, none⟩ (.slice a2 l2 c2) (B + 1) (by simp)).trans K1; have L1 := (Below.heap_setCell _ ⟨B, 1, none⟩ (.int .i64 N1) (B + 1) (by simp)).trans L1';  have hb3 : Below base w ((w2.setCell ⟨B, 0, none⟩ (.slice a2 l2 c2)).setCell ⟨B, 1, none⟩ (.int .i64 N1)) := ((hbw.trans hb2).setCell (by dsimp only; omega) _).setCell (by dsimp only; omega) _; have hk3 : KeepT 5 w ((w2.setCell ⟨B, 0, none⟩ (.slice a2 l2 c2)).setCell ⟨B, 1, none⟩ (.int .i64 N1)) := ((hkw.trans hk2).setNew (by omega) _ _).setNew (by omega) _ _; obtain ⟨t0, t1, t2, t3⟩ := Box2.of L0; clear L0' L1'))
    clear z0 z1 z2 z3 y0 y1 y2 y3 K0 K1 k0 k1 o1 o2 hb2 hk2 hP hR
    have hs3 := (Array.getElem?_eq_some_iff.1 L1).1
    generalize ((w2.setCell ⟨B, 0, none⟩ (.slice a2 l2 c2)).setCell ⟨B, 1, none⟩ (.int .i64 N1)) = w3 at *
    have hN4 := hN a2 l2 c2 w3.drew (o3.below (Below.refl _ _).drew) (Nat.le_trans (show base ≤ B + 1 by omega) (Nat.le_of_lt hs3))
    have L1d : w3.drew.heap[B + 1]? = _ := L1
    go_region_with (first | (go_at_call 69; (with_reducible refine (hPw _).mono ?_); rintro e w4 ⟨rfl, rfl⟩) | (go_at_call 64; (with_reducible refine hN4.mono ?_); rintro e w4 ⟨a4, l4, c4, rfl, o4, hb4, hk4⟩; have M1 := hk4 _ _ _ L1d (by decide); obtain ⟨r0, r1, r2, r3⟩ := Box2.of M1; have hne4 := own_ne o4 M1))
    all_goals
      go_wp2
      refine bodyPost_ret_by (v := .agg #[.slice a4 l4 c4, .int .i64 N2]) (by rw [results_cell1 rfl]; go_simp) rfl ?_
      exact ⟨_, _, _, rfl, (o4.other hne4).other hne4, ((hb3.drew.trans hb4).setCell (by dsimp only; omega) _).setCell (by dsimp only; omega) _, ((hk3.trans (KeepT.drew.trans hk4)).setNew (by omega) _ _).setNew (by omega) _ _⟩
end Go.Proofs.Ytbhoodhcipegbaa.R07

/- What the reference of layer 8 returns: writing. -/
import Derived.Test.YtogoiolpngbodaaGR8
namespace Go.Proofs.Ytogoiolpngbodaa.R08
open Go.Proofs Go.RowKit Go.Proofs.Ytogoiolpngbodaa.Kit Go.Proofs.Ytogoiolpngbodaa.M01 Go.Proofs.Ytogoiolpngbodaa.M02 Go.Proofs.Ytogoiolpngbodaa.M06 Go.Proofs.Ytogoiolpngbodaa.M07 Go.Proofs.Ytogoiolpngbodaa.M08 Go.Proofs.Ytogoiolpngbodaa.Bt Go.Proofs.Ytogoiolpngbodaa.R02 Go.Proofs.Ytogoiolpngbodaa.Un Go.Proofs.Ytogoiolpngbodaa.R06 Go.Proofs.Ytogoiolpngbodaa.Ri Go.Proofs.Ytogoiolpngbodaa.R07 Go.Proofs.Ytogoiolpngbodaa.Du
set_option linter.unusedVariables false
attribute [local irreducible] wpStill

theorem add8_low {V v n : Int} {d : D4} (hn : 0 ≤ n) (hv : isU v) (hl : v < p2 d.a) : (V + 0 * p2 n) + (v % p2 d.a) * p2 (n + 1) = V + duV d v * p2 n := by
  unfold duV
  rw [if_pos hl, Int.emod_eq_of_lt hv.1 hl, p2_add hn (by omega), p2_1, Int.mul_comm (p2 n) 2, ← Int.mul_assoc]; omega
theorem add8_high {V v n : Int} {d : D4} (hn : 0 ≤ n) (hl : ¬ v < p2 d.a) : (V + 1 * p2 n) + cdV (v - p2 d.a) d.b * p2 (n + 1) = V + duV d v * p2 n := by
  unfold duV
  rw [if_neg hl, p2_add hn (by omega), p2_1, Int.mul_comm (p2 n) 2, ← Int.mul_assoc, Int.add_mul]; omega
theorem bit_lt {V n β : Int} (hn : 0 ≤ n) (h0 : 0 ≤ V) (h1 : V < p2 n) (hβ : β = 0 ∨ β = 1) : 0 ≤ V + β * p2 n ∧ V + β * p2 n < p2 (n + 1) := by
  have hp := p2_pos n
  rw [p2_add hn (by omega), p2_1]
  rcases hβ with rfl | rfl <;> omega

set_option maxHeartbeats 8000000 in
theorem add8_any (a : Option Addr) (len cap base : Nat) (n V v : Int) (d : D4) (w : World) (hown : OwnI .u8 w base 5 (.slice a len cap) (bl n V)) (hbase : base ≤ w.heap.size) (hn : 0 ≤ n) (hv : isU v) (h : okD d = true) (hn1 : n + duS d v ≤ 330000) (h0 : 0 ≤ V) (h1 : V < p2 n) :
    Calls Try.prog 52 #[bv a len cap n, dv d, .int .u32 v] w fun e w' => ∃ a' len' cap', e = .returned (bv a' len' cap' (n + duS d v)) ∧ OwnI .u8 w' base 5 (.slice a' len' cap') (bl (n + duS d v) (V + duV d v * p2 n)) ∧ Below base w w' ∧ KeepT 5 w w' := by
  obtain ⟨a0, a1, b0, b1, s1, t1⟩ := okD_iff.1 h
  have hS := duS_bd h hv
  have hu := small_u64' hv
  by_cases hl : v < p2 d.a
  · have hLo := fun w' => low8_any d v true w' a0 a1 hv (decide_eq_true hl).symm
    have hlt := bit_lt hn h0 h1 (β := 0) (.inl rfl)
    have hA := fun w' ho hb => add_any a len cap base n V 0 w' ho hb hn (by omega) h0 h1 (.inl rfl)
    have hN := fun a' l' c' w' ho hb => number_any a' l' c' base (n + 1) (V + 0 * p2 n) v d.a w' ho hb (by omega) a0 (by omega) (by omega) hlt.1 hlt.2 hv.1 (by have := hv.2; omega)
    simp only [add8_low (V := V) hn hv hl, show n + 1 + d.a = n + duS d v by rw [hS.2.2.2 hl]; omega] at hN
    obtain ⟨W1, hW1⟩ : ∃ W, V + 0 * p2 n = W := ⟨_, rfl⟩
    obtain ⟨W2, hW2⟩ : ∃ W, V + duV d v * p2 n = W := ⟨_, rfl⟩
    obtain ⟨N2, hN2⟩ : ∃ W, n + duS d v = W := ⟨_, rfl⟩
    simp only [hW1] at hA hN
    simp only [hW2, hN2] at hN ⊢
    clear hW1 hW2 hN2 hlt hl h hS hn1 h0 h1
    obtain ⟨da, db, ds, dt⟩ := d
    simp only at a0 a1 b0 b1 s1 t1 hLo hN
    unfold bv at hA hN ⊢
    unfold dv at hLo ⊢
    simp only at hLo ⊢
    go_enter Try.func52, Try.ntmps52
    go_wp2_with ((go_at_call 56; (with_reducible refine (hLo _).mono ?_); rintro e w1 ⟨rfl, hb1⟩; have z1 : w.heap.size + 3 ≤ w1.heap.size := (by have := hb1.size; rw [size3] at this; exact this);  have k0 : w1.heap[w.heap.size]? = _ := (hb1.block _ (by rw [size3]; omega)).trans (blk3a w (.cells #[.slice a len cap, .int .i64 n] 24) (.cells #[.int .i64 da, .int .i64 db, .int .u64 ds, .int .u64 dt] 31) (.cells #[.slice none 0 0, .int .i64 0] 24)); have k1 : w1.heap[w.heap.size + 1]? = _ := (hb1.block _ (by rw [size3]; omega)).trans (blk3b w (.cells #[.slice a len cap, .int .i64 n] 24) (.cells #[.int .i64 da, .int .i64 db, .int .u64 ds, .int .u64 dt] 31) (.cells #[.slice none 0 0, .int .i64 0] 24)); have k2 : w1.heap[w.heap.size + 2]? = _ := (hb1.block _ (by rw [size3]; omega)).trans (blk3 w (.cells #[.slice a len cap, .int .i64 n] 24) (.cells #[.int .i64 da, .int .i64 db, .int .u64 ds, .int .u64 dt] 31) (.cells #[.slice none 0 0, .int .i64 0] 24));  have hbe := (below3 w (.cells #[.slice a len cap, .int .i64 n] 24) (.cells #[.int .i64 da, .int .i64 db, .int .u64 ds, .int .u64 dt] 31) (.cells #[.slice none 0 0, .int .i64 0] 24)).trans (hb1.mono (by rw [size3]; omega))))
    have o1d := (hown.below hbe).below (Below.refl _ _).drew
    have z1d : base ≤ w1.drew.heap.size := show base ≤ w1.heap.size by omega
    have k0d : w1.drew.heap[w.heap.size]? = _ := k0
    have k1d : w1.drew.heap[w.heap.size + 1]? = _ := k1
    have k2d : w1.drew.heap[w.heap.size + 2]? = _ := k2
    obtain ⟨bc0, bc1, bf0, bf1⟩ := Box2.of k0
    obtain ⟨dc0, dc1, dc2, dc3, df0, df1, df2, df3⟩ := Box4.of k1
    have hkw : KeepT 5 w w1 := KeepT.of_below hbe
    clear hb1
    go_region_with (first | (go_at_call 66; (with_reducible refine (hA _ o1d z1d).mono ?_); rintro e w2 ⟨a2, l2, q2, rfl, o2, hb2, kk2⟩; have k0' := kk2 _ _ _ k0d (by decide); have k1' := kk2 _ _ _ k1d (by decide); have k2' := kk2 _ _ _ k2d (by decide); have l0' := (Array.getElem?_eq_some_iff.1 k2').1; obtain ⟨dc0', dc1', dc2', dc3', df0', df1', df2', df3'⟩ := Box4.of k1') | (go_at_call 65; (with_reducible refine (hN _ _ _ _ o2 (Nat.le_trans (show base ≤ w.heap.size + 2 by omega) (Nat.le_of_lt l0'))).mono ?_); rintro e w4 ⟨a4, l4, q4, rfl, o4, hb4, kk4⟩; have m2 := kk4 _ _ _ k2' (by decide); obtain ⟨r0, r1, r2, r3⟩ := Box2.of m2; have hne4 := own_ne o4 m2))
    all_goals
      go_wp2
      refine bodyPost_ret_by (v := .agg #[.slice a4 l4 q4, .int .i64 N2]) (by rw [results_cell1 rfl]; go_simp) rfl ?_
      exact ⟨_, _, _, rfl, (o4.other hne4).other hne4, ((((hbe.mono hbase).drew.trans hb2).trans hb4).setCell (by dsimp only; omega) _).setCell (by dsimp only; omega) _, (((hkw.trans (KeepT.drew.trans kk2)).trans kk4).setNew (by omega) _ _).setNew (by omega) _ _⟩
  · have hLo := fun w' => low8_any d v false w' a0 a1 hv (decide_eq_false hl).symm
    have hul := left_bd hv hl
    have hLf := fun w' => left8_any d v w' a0 a1 hv hl
    have hlt := bit_lt hn h0 h1 (β := 1) (.inr rfl)
    have hSS : duS d v = 1 + cdS (v - p2 d.a) d.b := by unfold duS; rw [if_neg hl]
    have hA := fun w' ho hb => add_any a len cap base n V 1 w' ho hb hn (by omega) h0 h1 (.inr rfl)
    have hN := fun a' l' c' w' ho hb => radd7_any a' l' c' base (n + 1) (V + 1 * p2 n) (v - p2 d.a) d.b w' ho hb (by omega) hul b0 b1 (by omega) hlt.1 hlt.2
    simp only [add8_high (V := V) hn hl, show n + 1 + cdS (v - p2 d.a) d.b = n + duS d v by omega] at hN
    obtain ⟨W1, hW1⟩ : ∃ W, V + 1 * p2 n = W := ⟨_, rfl⟩
    obtain ⟨W2, hW2⟩ : ∃ W, V + duV d v * p2 n = W := ⟨_, rfl⟩
    obtain ⟨N2, hN2⟩ : ∃ W, n + duS d v = W := ⟨_, rfl⟩
    simp only [hW1] at hA hN
    simp only [hW2, hN2] at hN ⊢
    clear hW1 hW2 hN2 hlt hl h hS hSS hn1 h0 h1
    obtain ⟨da, db, ds, dt⟩ := d
    simp only at a0 a1 b0 b1 s1 t1 hLo hN hLf hul
    unfold bv at hA hN ⊢
    unfold dv at hLo hLf ⊢
    simp only at hLo hLf ⊢
    obtain ⟨U, hU⟩ : ∃ U, v - p2 da = U := ⟨_, rfl⟩
    simp only [hU] at hLf hN hul
    clear hU
    go_enter Try.func52, Try.ntmps52
    go_wp2_with ((go_at_call 56; (with_reducible refine (hLo _).mono ?_); rintro e w1 ⟨rfl, hb1⟩; have z1 : w.heap.size + 3 ≤ w1.heap.size := (by have := hb1.size; rw [size3] at this; exact this);  have k0 : w1.heap[w.heap.size]? = _ := (hb1.block _ (by rw [size3]; omega)).trans (blk3a w (.cells #[.slice a len cap, .int .i64 n] 24) (.cells #[.int .i64 da, .int .i64 db, .int .u64 ds, .int .u64 dt] 31) (.cells #[.slice none 0 0, .int .i64 0] 24)); have k1 : w1.heap[w.heap.size + 1]? = _ := (hb1.block _ (by rw [size3]; omega)).trans (blk3b w (.cells #[.slice a len cap, .int .i64 n] 24) (.cells #[.int .i64 da, .int .i64 db, .int .u64 ds, .int .u64 dt] 31) (.cells #[.slice none 0 0, .int .i64 0] 24)); have k2 : w1.heap[w.heap.size + 2]? = _ := (hb1.block _ (by rw [size3]; omega)).trans (blk3 w (.cells #[.slice a len cap, .int .i64 n] 24) (.cells #[.int .i64 da, .int .i64 db, .int .u64 ds, .int .u64 dt] 31) (.cells #[.slice none 0 0, .int .i64 0] 24));  have hbe := (below3 w (.cells #[.slice a len cap, .int .i64 n] 24) (.cells #[.int .i64 da, .int .i64 db, .int .u64 ds, .int .u64 dt] 31) (.cells #[.slice none 0 0, .int .i64 0] 24)).trans (hb1.mono (by rw [size3]; omega))))
    have o1d := (hown.below hbe).below (Below.refl _ _).drew
    have z1d : base ≤ w1.drew.heap.size := show base ≤ w1.heap.size by omega
    have k0d : w1.drew.heap[w.heap.size]? = _ := k0
    have k1d : w1.drew.heap[w.heap.size + 1]? = _ := k1
    have k2d : w1.drew.heap[w.heap.size + 2]? = _ := k2
    obtain ⟨bc0, bc1, bf0, bf1⟩ := Box2.of k0
    obtain ⟨dc0, dc1, dc2, dc3, df0, df1, df2, df3⟩ := Box4.of k1
    have hkw : KeepT 5 w w1 := KeepT.of_below hbe
    clear hb1
    go_region_with (first | (go_at_call 66; (with_reducible refine (hA _ o1d z1d).mono ?_); rintro e w2 ⟨a2, l2, q2, rfl, o2, hb2, kk2⟩; have k0' := kk2 _ _ _ k0d (by decide); have k1' := kk2 _ _ _ k1d (by decide); have k2' := kk2 _ _ _ k2d (by decide); have l0' := (Array.getElem?_eq_some_iff.1 k2').1; obtain ⟨dc0', dc1', dc2', dc3', df0', df1', df2', df3'⟩ := Box4.of k1') | (go_at_call 58; (with_reducible refine (hLf _).mono ?_); rintro e w3 ⟨rfl, hb3⟩; have o3 := o2.below hb3; have l1' : w.heap.size + 2 < w3.heap.size := Nat.lt_of_lt_of_le l0' hb3.size; have k1'' := (hb3.block _ (show w.heap.size + 1 < w2.heap.size by omega)).trans k1'; have k2'' := (hb3.block _ l0').trans k2'; obtain ⟨dc0'', dc1'', dc2'', dc3'', df0'', df1'', df2'', df3''⟩ := Box4.of k1'') | (go_at_call 67; (with_reducible refine (hN _ _ _ _ o3 (Nat.le_trans (show base ≤ w.heap.size + 2 by omega) (Nat.le_of_lt l1'))).mono ?_); rintro e w4 ⟨a4, l4, q4, rfl, o4, hb4, kk4⟩; have m2 := kk4 _ _ _ k2'' (by decide); obtain ⟨r0, r1, r2, r3⟩ := Box2.of m2; have hne4 := own_ne o4 m2))
    all_goals
      go_wp2
      refine bodyPost_ret_by (v := .agg #[.slice a4 l4 q4, .int .i64 N2]) (by rw [results_cell1 rfl]; go_simp) rfl ?_
      exact ⟨_, _, _, rfl, (o4.other hne4).other hne4, (((((hbe.mono hbase).drew.trans hb2).trans (hb3.mono (by omega))).trans hb4).setCell (by dsimp only; omega) _).setCell (by dsimp only; omega) _, ((((hkw.trans (KeepT.drew.trans kk2)).trans (KeepT.of_below hb3)).trans kk4).setNew (by omega) _ _).setNew (by omega) _ _⟩

end Go.Proofs.Ytogoiolpngbodaa.R08

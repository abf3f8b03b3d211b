/- The law CoderZeros. -/
import Derived.Test.YtogoiolpngbodaaLaw09
namespace Go.Proofs.Ytogoiolpngbodaa.Wk
open Go.Proofs Go.RowKit Go.Proofs.Ytogoiolpngbodaa.Kit Go.Proofs.Ytogoiolpngbodaa.M01 Go.Proofs.Ytogoiolpngbodaa.M02 Go.Proofs.Ytogoiolpngbodaa.M05 Go.Proofs.Ytogoiolpngbodaa.M06 Go.Proofs.Ytogoiolpngbodaa.M07 Go.Proofs.Ytogoiolpngbodaa.M08 Go.Proofs.Ytogoiolpngbodaa.M09 Go.Proofs.Ytogoiolpngbodaa.Bt Go.Proofs.Ytogoiolpngbodaa.R02 Go.Proofs.Ytogoiolpngbodaa.Co Go.Proofs.Ytogoiolpngbodaa.R09
set_option linter.unusedVariables false
set_option linter.unusedSimpArgs false

theorem info9z_u32 : (Try.prog.info? 57).map (fun i => (i.zero, i.size, i.bytes)) = some (some (.int .u32 0), 1, 4) := by kernel_rfl
/-- Zeros behind a list. -/
theorem zeros9 {l : List Int} (hl : okV l) (hlen : l.length ≤ 100) {Z : Nat} (hZ : Z ≤ 500) :
    enE (zs Z) = 0 ∧ enN (zs Z) ≤ 11 * Z ∧ 0 ≤ enN (zs Z) ∧ enE l = 0 ∧ enE (l ++ zs Z) = 0 ∧ (afD (l ++ zs Z)).s ≤ (afD l).s ∧ (afD (l ++ zs Z)).b = (afD l).b ∧ (afD (l ++ zs Z)).t = (afD l).t ∧ (500 ≤ Z → (afD (l ++ zs Z)).a = 0) := by
  have hz : (zs Z).length = Z := List.length_replicate
  obtain ⟨e1, e2, -, -⟩ := c_en (l := zs Z) (by omega)
  obtain ⟨f1, -, -, f4⟩ := c_en (l := l) (by omega)
  obtain ⟨g1, -, -, g4⟩ := c_en (l := l ++ zs Z) (by rw [List.length_append]; omega)
  obtain ⟨s1, s2⟩ := stI_ok isD_st' okD_st hl
  obtain ⟨t1, t2, t3, -⟩ := st_zeros s1 s2 Z
  obtain ⟨b1, -, -, -, -, -⟩ := c_bd isD_st' okD_st (zs_okV Z) (by omega)
  rw [e1, e2, f1, f4, g1, g4, stI_append]
  exact ⟨rfl, zeros_len Z, b1, rfl, rfl, t3, t1, t2, fun h => zeros_500 s1 s2 h⟩

set_option maxRecDepth 100000 in
set_option maxHeartbeats 8000000 in
theorem coderZeros_walk (a0 : Option Addr) (l0 c0 : Nat) (x0 : List Int) (a1 : Int) (w : World) (r0 : RowIn .u32 w a0 l0 c0 x0) (b1 : -9223372036854775808 ≤ a1 ∧ a1 ≤ 9223372036854775807) :
    Calls Try.prog 10 #[.slice a0 l0 c0, .int .i64 a1] w fun e w' => e = .returned (.bool true) ∧ Below w.heap.size w w' := by
  have h0 := r0.hl
  obtain ⟨ze, rfl⟩ : ∃ z : Int, z = a1 := ⟨_, rfl⟩
  by_cases t0 : 100 < l0
  · have f0 : (100 < (l0 : Int)) = True := eq_true (by omega)
    go_enter Try.func10, Try.ntmps10
    go_wp2_with (((with_reducible refine (alive9_any _).mono ?_); rintro e wA ⟨rfl, hbA⟩))
    go_ret
    exact ⟨rfl, hbA⟩
  have f0 : (100 < (l0 : Int)) = False := eq_false (by omega)
  by_cases t1 : ze < 0
  · have f1 : (ze < 0) = True := eq_true t1
    go_enter Try.func10, Try.ntmps10
    go_wp2_with (((with_reducible refine (alive9_any _).mono ?_); rintro e wA ⟨rfl, hbA⟩))
    go_ret
    exact ⟨rfl, hbA⟩
  have f1 : (ze < 0) = False := eq_false t1
  by_cases t2 : 500 < ze
  · have f2 : (500 < ze) = True := eq_true t2
    go_enter Try.func10, Try.ntmps10
    go_wp2_with (((with_reducible refine (alive9_any _).mono ?_); rintro e wA ⟨rfl, hbA⟩))
    go_ret
    exact ⟨rfl, hbA⟩
  have f2 : (500 < ze) = False := eq_false t2
  obtain ⟨Z, rfl⟩ : ∃ Z : Nat, ze = (Z : Int) := ⟨ze.toNat, by omega⟩
  have hU := Co.okV_row r0.rd.2.2
  obtain ⟨k1, k2, k3, k4, k5, k6, k7, k8, k9⟩ := zeros9 hU (by omega) (Z := Z) (by omega)
  obtain ⟨i0, hi, hz0, hz1, hz2⟩ := info_parts info9z_u32
  have zwf : ∀ x ∈ List.replicate Z (0 : Int), (Lit.int .u32 x).wf = true := by intro x hx; rw [(List.mem_replicate.1 hx).2]; decide
  have awf : ∀ x ∈ x0 ++ zs Z, (Lit.int .u32 x).wf = true := by
    intro x hx
    rcases List.mem_append.1 hx with hx | hx
    · exact r0.rd.2.2 x hx
    · exact zwf x hx
  have hE := fun a q w' (r : RowIn .u32 w' a Z q (List.replicate Z 0)) => enc_any a Z q _ w' r
  rw [show List.replicate Z (0 : Int) = zs Z from rfl] at hE
  have hF := fun w' (r : RowIn .u32 w' a0 l0 c0 x0) => aft_any a0 l0 c0 x0 w' r
  have hA := fun a q w' (r : RowIn .u32 w' a (l0 + Z) q (x0 ++ zs Z)) => aft_any a (l0 + Z) q _ w' r
  simp only [k1] at hE
  simp only [k4] at hF
  simp only [k5] at hA
  obtain ⟨L, hL⟩ : ∃ z, enL (zs Z) = z := ⟨_, rfl⟩
  obtain ⟨N, hN⟩ : ∃ z, enN (zs Z) = z := ⟨_, rfl⟩
  obtain ⟨lL, hlL⟩ : ∃ l, L.length = l := ⟨_, rfl⟩
  obtain ⟨D, hD⟩ : ∃ z, afD x0 = z := ⟨_, rfl⟩
  obtain ⟨X, hX⟩ : ∃ z, afD (x0 ++ zs Z) = z := ⟨_, rfl⟩
  simp only [hL, hN, hlL] at hE
  rw [hN] at k2 k3
  simp only [hD] at hF k6 k7 k8
  simp only [hX] at hA k6 k7 k8 k9
  clear hL hN hlL hD hX k1 k4 k5 hU
  obtain ⟨da, db, ds, dt⟩ := D
  obtain ⟨xa, xb, xs, xt⟩ := X
  simp only at k6 k7 k8 k9
  subst k7 k8
  rw [show zs Z = List.replicate Z (0 : Int) from rfl] at hE
  have HAW := hid awf
  have K6 := hid k6
  have K9 := hid k9
  have K2 := hid k2
  clear awf k6 k9 k2
  unfold bv at hE
  unfold Du.dv at hF hA
  simp only at hF hA
  go_enter Try.func10, Try.ntmps10
  go_wp2_with (first | (at_make; refine makeI rfl _ _ 28 rfl w.heap.size 57 i0 4 .u32 Try.underlying28 hi hz0 hz1 hz2 _ Z rfl rfl rfl (by omega) (by omega) (Nat.le_refl _) ?_; intro w1 hown1 hgr1 hbm hsz; have rz := hown1.rowLit zwf; have zm : w.heap.size ≤ w1.heap.size := hbm.size) | ((with_reducible refine (hE _ _ _ rz).mono ?_); rintro e w2 ⟨a2, q2, rfl, -, hb2, -⟩; have z2 : w1.heap.size ≤ w2.heap.size := hb2.size; have hB2 : Below w.heap.size w w2 := hbm.trans (hb2.mono zm)) | ((with_reducible refine (hF _ (r0.same (bA hB2 (by omega)))).mono ?_); rintro e w3 ⟨rfl, hb3⟩; rw [size1] at hb3; have z3 := hb3.size; rw [size1] at z3; have hB3 : Below w.heap.size w w3 := hB2.trans ((below1 w2 _).mono (by omega)) |>.trans (hb3.mono (by omega)); have Xb := (Box2.of (blk1 w2 (.cells #[.slice a2 lL q2, .int .i64 N] 24))).below hb3 (by omega); have O1 : OwnI .u32 ((w3.alloc (.cells #[.int .i64 da, .int .i64 xb, .int .u64 ds, .int .u64 xt] 31)).alloc (.cells #[] 57)) (w3.heap.size + 1) 57 (.slice (some ⟨w3.heap.size + 1, 0, none⟩) 0 0) [] := (by have t := OwnI.lit (k := .u32) (w3.alloc (.cells #[.int .i64 da, .int .i64 xb, .int .u64 ds, .int .u64 xt] 31)) (w3.heap.size + 1) 57 [] (by rw [size1]; exact Nat.le_refl _) (by simp); rw [size1] at t; exact t)) | (at_builtin; refine appN rfl _ _ 28 rfl (w3.heap.size + 1) 57 i0 (.int .u32 0) 4 Try.underlying28 hi hz0 hz1 hz2 rfl .u32 _ _ O1 a0 l0 c0 x0 (r0.same (bA (bA hB3 (by omega)) (by rw [size1]; omega))).rd h0 rfl rfl (by simp) (by simp; omega) (by simp; omega) ?_; intro v4 w4 hown hgr hbw; rw [List.nil_append] at hown))
  have z4 : w3.heap.size + 2 ≤ w4.heap.size := by have := hbw.size; rw [size2] at this; exact this
  have hbw2 : Below (w3.heap.size + 1) (w3.alloc (.cells #[.int .i64 da, .int .i64 xb, .int .u64 ds, .int .u64 xt] 31)) w4 := Below.trans ((below1 (w3.alloc (.cells #[.int .i64 da, .int .i64 xb, .int .u64 ds, .int .u64 xt] 31)) _).mono (by rw [size1]; exact Nat.le_refl _)) hbw
  have Y0 := (box2A (o := (.cells #[.int .i64 da, .int .i64 xb, .int .u64 ds, .int .u64 xt] 31)) Xb).below hbw2 (by omega)
  have Y1 := (Box4.of (blk1 w3 (.cells #[.int .i64 da, .int .i64 xb, .int .u64 ds, .int .u64 xt] 31))).below hbw2 (by omega)
  have hB4 : Below w.heap.size w w4 := (bA hB3 (by omega)).trans (hbw2.mono (by omega))
  clear hbw hbw2 hgr O1 Xb hB3 hB2 hb2 hb3 hown1 hgr1 hbm hsz rz hE hF
  have zm2 : w.heap.size ≤ w2.heap.size := by omega
  go_loopw [9, 10] (fun v t wr => ∃ k : Nat, k ≤ Z ∧ t = .int .i64 k ∧ OwnI .u32 wr (w3.heap.size + 1) 57 v (x0 ++ zs k) ∧ Box2 wr w2.heap.size (.slice a2 lL q2) (.int .i64 N) ∧ Box4 wr w3.heap.size (.int .i64 da) (.int .i64 xb) (.int .u64 ds) (.int .u64 xt) ∧ Below w.heap.size w wr ∧ w3.heap.size + 1 ≤ wr.heap.size) (fun _ t _ => Z - (intOf t).toNat)
  case atStart => exact ⟨0, by omega, by go_num, by rw [show zs 0 = [] from rfl, List.append_nil]; exact hown, Y0, Y1, hB4, by omega⟩
  case round =>
    obtain ⟨k, hk, rfl, ho, Yb, Yd, hbr, hzr⟩ := hrel
    clear hown Y0 Y1 hB4
    by_cases hlt : k < Z
    · have hlk : (x0 ++ zs k).length = l0 + k := by rw [List.length_append, h0]; congr 1; exact List.length_replicate
      go_wp2_with (at_builtin; refine app1 rfl _ _ 28 rfl (w3.heap.size + 1) 57 i0 (.int .u32 0) 4 Try.underlying28 hi hz0 hz1 hz2 rfl .u32 _ _ ho _ rfl rfl (by omega) (by omega) (by omega) ?_; intro v5 w5 ho5 hgr5 hb5)
      go_roundw
      case rel => exact ⟨k + 1, by omega, by go_num, by rw [zs_succ, ← List.append_assoc]; exact ho5, Yb.below hb5 (by omega), Yd.below hb5 (by omega), hbr.trans (hb5.mono (by omega)), by have := hb5.size; omega⟩
      case measure => simp [intOf]; omega
    · obtain rfl : k = Z := by omega
      have hlk : (x0 ++ zs k).length = l0 + k := by rw [List.length_append, h0]; congr 1; exact List.length_replicate
      obtain ⟨av, cv, rfl, hrow⟩ := ho.row HAW.out
      rw [hlk] at hrow
      simp only [hlk]
      have f3 : (11 * (k : Int) < N) = False := eq_false (by have := K2.out; omega)
      have f4 : (xs ≤ ds) = True := eq_true K6.out
      have hw11 : IntKind.i64.wrap (11 * (k : Int)) = 11 * (k : Int) := by simp [IntKind.wrap, IntKind.bits, IntKind.signed]; omega
      have cb1 := Yb.c1
      obtain ⟨d0, d1, d2, d3, -, -, -, -⟩ := Yd
      have l2 : w2.heap.size < wr.heap.size := by omega
      have l3 : w3.heap.size < wr.heap.size := by omega
      clear ho
      by_cases h500 : k < 500
      · have f5 : ((k : Int) < 500) = True := eq_true (by omega)
        go_wp2_with (first | ((with_reducible refine (hA _ _ _ hrow).mono ?_); rintro e w6 ⟨rfl, hb6⟩; have z6 := hb6.size; have e1 := (Yb.below hb6 l2).c1; have e0 := cell_below d0 hb6 l3; have e2 := cell_below d1 hb6 l3; have e3 := cell_below d2 hb6 l3; have e4 := cell_below d3 hb6 l3; have l2' : w2.heap.size < w6.heap.size := (by omega); have l3' : w3.heap.size < w6.heap.size := (by omega)) | (go_at_call 16; (with_reducible refine (alive9_any _).mono ?_); rintro e wA ⟨rfl, hbA⟩))
        go_ret
        exact ⟨rfl, (bA (hbr.trans (hb6.mono (by omega))) (by omega)).trans (hbA.mono (by rw [size1]; omega))⟩
      · have f5 : ((k : Int) < 500) = False := eq_false (by omega)
        obtain rfl := K9.out (by omega)
        go_wp2_with (first | ((with_reducible refine (hA _ _ _ hrow).mono ?_); rintro e w6 ⟨rfl, hb6⟩; have z6 := hb6.size; have e1 := (Yb.below hb6 l2).c1; have e0 := cell_below d0 hb6 l3; have e2 := cell_below d1 hb6 l3; have e3 := cell_below d2 hb6 l3; have e4 := cell_below d3 hb6 l3; have l2' : w2.heap.size < w6.heap.size := (by omega); have l3' : w3.heap.size < w6.heap.size := (by omega)) | (go_at_call 16; (with_reducible refine (alive9_any _).mono ?_); rintro e wA ⟨rfl, hbA⟩))
        go_ret
        exact ⟨rfl, (bA (hbr.trans (hb6.mono (by omega))) (by omega)).trans (hbA.mono (by rw [size1]; omega))⟩
end Go.Proofs.Ytogoiolpngbodaa.Wk

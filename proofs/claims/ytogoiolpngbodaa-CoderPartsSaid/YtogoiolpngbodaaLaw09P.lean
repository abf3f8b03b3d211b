/- The law CoderParts. -/
import Derived.Test.YtogoiolpngbodaaLaw09
import Derived.Deep.DeepCutAuto
import Derived.Deep.RegionHeld3
namespace Go.Proofs.Ytogoiolpngbodaa.Wk
open Go.Proofs Go.RowKit Go.Proofs.Ytogoiolpngbodaa.Kit Go.Proofs.Ytogoiolpngbodaa.M01 Go.Proofs.Ytogoiolpngbodaa.M02 Go.Proofs.Ytogoiolpngbodaa.M05 Go.Proofs.Ytogoiolpngbodaa.M06 Go.Proofs.Ytogoiolpngbodaa.M07 Go.Proofs.Ytogoiolpngbodaa.M08 Go.Proofs.Ytogoiolpngbodaa.M09 Go.Proofs.Ytogoiolpngbodaa.Bt Go.Proofs.Ytogoiolpngbodaa.R02 Go.Proofs.Ytogoiolpngbodaa.Co Go.Proofs.Ytogoiolpngbodaa.R09
set_option linter.unusedVariables false
set_option linter.unusedSimpArgs false

theorem World.size_drew' (w : World) : w.drew.heap.size = w.heap.size := rfl

set_option maxRecDepth 100000 in
set_option maxHeartbeats 8000000 in
theorem coderParts_walk (a0 : Option Addr) (l0 c0 : Nat) (x0 : List Int) (a1 : Int) (w : World) (r0 : RowIn .u32 w a0 l0 c0 x0) (b1 : -9223372036854775808 ≤ a1 ∧ a1 ≤ 9223372036854775807) :
    Calls Try.prog 7 #[.slice a0 l0 c0, .int .i64 a1] w fun e w' => e = .returned (.bool true) ∧ Below w.heap.size w w' := by
  have h0 := r0.hl
  obtain ⟨ze, rfl⟩ : ∃ z : Int, z = a1 := ⟨_, rfl⟩
  by_cases t0 : 100 < l0
  · have f0 : (100 < (l0 : Int)) = True := eq_true (by omega)
    go_enter Try.func7, Try.ntmps7
    go_wp2_with (((with_reducible refine (alive9_any _).mono ?_); rintro e wA ⟨rfl, hbA⟩))
    go_ret
    exact ⟨rfl, hbA⟩
  have f0 : (100 < (l0 : Int)) = False := eq_false (by omega)
  by_cases t1 : ze < 0
  · have f1 : (ze < 0) = True := eq_true t1
    go_enter Try.func7, Try.ntmps7
    go_wp2_with (((with_reducible refine (alive9_any _).mono ?_); rintro e wA ⟨rfl, hbA⟩))
    go_ret
    exact ⟨rfl, hbA⟩
  have f1 : (ze < 0) = False := eq_false t1
  by_cases t2 : (l0 : Int) < ze
  · have f2 : ((l0 : Int) < ze) = True := eq_true t2
    go_enter Try.func7, Try.ntmps7
    go_wp2_with (((with_reducible refine (alive9_any _).mono ?_); rintro e wA ⟨rfl, hbA⟩))
    go_ret
    exact ⟨rfl, hbA⟩
  have f2 : ((l0 : Int) < ze) = False := eq_false t2
  obtain ⟨A, rfl⟩ : ∃ A : Nat, ze = (A : Int) := ⟨ze.toNat, by omega⟩
  have HU := hid (Co.okV_row r0.rd.2.2)
  have hAl : A ≤ l0 := by omega
  have hcl := r0.hc
  have hAc : A ≤ c0 := by omega
  have Rf := Co.row_front r0 hAl
  have hfl : (x0.take A).length = A := by rw [List.length_take]; omega
  obtain ⟨e1, e2, e3, e4⟩ := c_en (l := x0) (by omega)
  obtain ⟨g1, g2, g3, g4⟩ := c_en (l := x0.take A) (by omega)
  have hE := fun w' (r : RowIn .u32 w' a0 l0 c0 x0) => enc_any a0 l0 c0 x0 w' r
  have hE2 := fun w' (r : RowIn .u32 w' a0 A c0 (x0.take A)) => enc_any a0 A c0 (x0.take A) w' r
  have hF := fun w' (r : RowIn .u32 w' a0 l0 c0 x0) => aft_any a0 l0 c0 x0 w' r
  have hF2 := fun w' (r : RowIn .u32 w' a0 A c0 (x0.take A)) => aft_any a0 A c0 (x0.take A) w' r
  obtain ⟨s1, s2⟩ := stI_ok isD_st' okD_st (okV_take HU.out A)
  have hCD := fun w' => R08.rcheckD_any (stI stD (x0.take A)) w' s2
  rw [show chD (stI stD (x0.take A)) = 0 by unfold chD; rw [if_pos s1]] at hCD
  simp only [e1, e2, e3] at hE
  simp only [e1, e4] at hF
  simp only [g1, g2, g3] at hE2
  simp only [g1, g4] at hF2
  obtain ⟨L, hL⟩ : ∃ z, cL stD x0 = z := ⟨_, rfl⟩
  obtain ⟨N, hN⟩ : ∃ z, cN stD x0 = z := ⟨_, rfl⟩
  obtain ⟨X, hX⟩ : ∃ z, stI stD x0 = z := ⟨_, rfl⟩
  obtain ⟨lL, hlL⟩ : ∃ l, L.length = l := ⟨_, rfl⟩
  simp only [hL, hN, hlL] at hE
  simp only [hX] at hF
  have HL := hid (And.intro hL (And.intro hN hX))
  obtain ⟨LA, hLA⟩ : ∃ z, cL stD (x0.take A) = z := ⟨_, rfl⟩
  obtain ⟨NA, hNA⟩ : ∃ z, cN stD (x0.take A) = z := ⟨_, rfl⟩
  obtain ⟨SA, hSA⟩ : ∃ z, stI stD (x0.take A) = z := ⟨_, rfl⟩
  obtain ⟨lA, hlA⟩ : ∃ l, LA.length = l := ⟨_, rfl⟩
  simp only [hLA, hNA, hlA] at hE2
  simp only [hSA] at hF2 hCD
  have HA := hid (And.intro hLA (And.intro hNA hSA))
  clear e1 e2 e3 e4 g1 g2 g3 g4 hL hN hX hlL hLA hNA hSA hlA s1 s2
  obtain ⟨xa, xb, xs, xt⟩ := X
  obtain ⟨pa, pb, ps, pt⟩ := SA
  unfold bv at hE hE2
  unfold Du.dv at hF hF2 hCD
  simp only at hF hF2 hCD
  by_cases hz : l0 = 0
  · have HZ := hid hz
    clear hz
    cases a0 with
    | none =>
      go_enter Try.func7, Try.ntmps7
      go_wp2_with (first | ((with_reducible refine (hE _ (r0.same ((Below.refl _ w)))).mono ?_); rintro e w1 ⟨a1, q1, rfl, h1, hb1, -⟩; have z1 := hb1.size; have hq1 : Below w.heap.size w w1 := (Below.refl _ w).trans (hb1.mono (by omega)); have hB1 := hq1; have Rc_1 := h1) | ((with_reducible refine (hE2 _ (Rf.same (hB1.trans ((below1 w1 _).mono hB1.size)))).mono ?_); rintro e w2 ⟨a2, q2, rfl, h2, hb2, -⟩; rw [size1] at hb2; have z2 := hb2.size; rw [size1] at z2; have hq2 : Below w1.heap.size w1 w2 := (below1 w1 _).trans (hb2.mono (by omega)); have hB2 := hB1.trans (hq2.mono hB1.size); have Xc_2 := (Box2.of (blk1 w1 _)).below hb2 (by omega); have Rc_2 := Rc_1.same hq2; have Rb_2 := h2; have cc0_2 := Xc_2.c0; have cc1_2 := Xc_2.c1; have lc_2 : w1.heap.size < w2.heap.size := (by omega)) | ((with_reducible refine (hF2 _ (Rf.same (hB2.trans ((below1 w2 _).mono hB2.size)))).mono ?_); rintro e w3 ⟨rfl, hb3⟩; rw [size1] at hb3; have z3 := hb3.size; rw [size1] at z3; have hq3 : Below w2.heap.size w2 w3 := (below1 w2 _).trans (hb3.mono (by omega)); have hB3 := hB2.trans (hq3.mono hB2.size); have Xc_3 := Xc_2.below hq3 (by omega); have Xb_3 := (Box2.of (blk1 w2 _)).below hb3 (by omega); have Rc_3 := Rc_2.same hq3; have Rb_3 := Rb_2.same hq3; have cc0_3 := Xc_3.c0; have cc1_3 := Xc_3.c1; have lc_3 : w1.heap.size < w3.heap.size := (by omega); have cb0_3 := Xb_3.c0; have cb1_3 := Xb_3.c1; have lb_3 : w2.heap.size < w3.heap.size := (by omega); clear cc0_2 cc1_2 lc_2 Xc_2) | ((with_reducible refine (hCD _ ).mono ?_); rintro e w4 ⟨rfl, hb4⟩; rw [size1] at hb4; have z4 := hb4.size; rw [size1] at z4; have hq4 : Below w3.heap.size w3 w4 := (below1 w3 _).trans (hb4.mono (by omega)); have hB4 := hB3.trans (hq4.mono hB3.size); have Xc_4 := Xc_3.below hq4 (by omega); have Xb_4 := Xb_3.below hq4 (by omega); have Xd_4 := (Box4.of (blk1 w3 _)).below hb4 (by omega); have Rc_4 := Rc_3.same hq4; have Rb_4 := Rb_3.same hq4; have cc0_4 := Xc_4.c0; have cc1_4 := Xc_4.c1; have lc_4 : w1.heap.size < w4.heap.size := (by omega); have cb0_4 := Xb_4.c0; have cb1_4 := Xb_4.c1; have lb_4 : w2.heap.size < w4.heap.size := (by omega); have cd0_4 := Xd_4.c0; have cd1_4 := Xd_4.c1; have cd2_4 := Xd_4.c2; have cd3_4 := Xd_4.c3; have ld_4 : w3.heap.size < w4.heap.size := (by omega); clear cc0_3 cc1_3 lc_3 Xc_3 cb0_3 cb1_3 lb_3 Xb_3))
      have n1 : L ≠ [] → ∀ x, a1 = some x → x.block ≠ w2.heap.size ∧ x.block ≠ w3.heap.size := fun h x hx => by have := Co.row_lt h1 h x hx; omega
      have n2 : LA ≠ [] → ∀ x, a2 = some x → x.block ≠ w2.heap.size ∧ x.block ≠ w3.heap.size := fun h x hx => by have := Co.row_lt h2 h x hx; omega
      have q12 : w1.heap.size < w2.heap.size := by omega
      have q23 : w2.heap.size < w3.heap.size := by omega
      have q0 : w.heap.size ≤ w1.heap.size := by omega
      have hB0 := hB4
      clear hb1 hb2 hb3 hb4 h1 h2 hq1 hq2 hq3 hq4 hB1 hB2 hB3 hB4 z1 z2 z3 z4 hE hE2 hF2 hCD cc0_4 cc1_4 cb0_4 cb1_4 cd0_4 cd1_4 cd2_4 cd3_4
      generalize w1.heap.size = F at *
      generalize w2.heap.size = G at *
      generalize w3.heap.size = H at *
      go_loopw [11] (fun t wr => ∃ k : Nat, A ≤ k ∧ k ≤ l0 ∧ t = .int .i64 k ∧ ∃ a' len' cap' S, S = stI stD (x0.take k) ∧ Box2 wr G (.slice a' len' cap') (.int .i64 (cN stD (x0.take k))) ∧ RowIn .u8 wr a' len' cap' (cL stD (x0.take k)) ∧ Box4 wr H (.int .i64 S.a) (.int .i64 S.b) (.int .u64 S.s) (.int .u64 S.t) ∧ (cL stD (x0.take k) ≠ [] → ∀ x, a' = some x → x.block ≠ G ∧ x.block ≠ H) ∧ Box2 wr F (.slice a1 lL q1) (.int .i64 N) ∧ RowIn .u8 wr a1 lL q1 L ∧ (L ≠ [] → ∀ x, a1 = some x → x.block ≠ G ∧ x.block ≠ H) ∧ Below w.heap.size w wr ∧ F < wr.heap.size ∧ G < wr.heap.size ∧ H < wr.heap.size) (fun t _ => l0 - (intOf t).toNat)
      case atStart =>
        obtain ⟨u1, u2, u3⟩ := HA.out
        refine ⟨A, Nat.le_refl _, hAl, by go_num, a2, lA, q2, ⟨pa, pb, ps, pt⟩, u3.symm, by rw [u2]; exact Xb_4, by rw [u1]; exact Rb_4, Xd_4, by rw [u1]; exact n2, Xc_4, Rc_4, n1, hB0, lc_4, lb_4, ld_4⟩
      case round =>
        obtain ⟨k, hAk, hk, rfl, a', len', cap', S, eS, Yb, hrow, Yd, nb, Yc, Rc, nc, hbr, lF, lG, lH⟩ := hrel
        clear Xb_4 Rb_4 Xd_4 Xc_4 Rc_4 n1 n2 hB0 lc_4 lb_4 ld_4
        by_cases hlt : k < l0
        · exfalso
          have := HZ.out
          omega
        · obtain rfl : k = l0 := by omega
          have ex : x0.take k = x0 := List.take_of_length_le (by omega)
          rw [ex] at eS
          rw [ex] at Yb hrow
          have hS := fun w' (r : RowIn .u8 w' a1 lL q1 L) (r' : RowIn .u8 w' a' len' cap' L) => same_any a1 lL q1 L N a' len' cap' L N w' r r'
          have es : sameB L N L N = true := by simp [sameB]
          simp only [es] at hS
          unfold bv at hS
          obtain ⟨kk1, kk2, kk3⟩ := HL.out
          rw [kk1] at hrow
          rw [kk2] at Yb
          rw [kk3] at eS
          clear es ex kk1 kk2 kk3
          subst eS
          simp only at Yd
          obtain ⟨g0, g1, gf0, gf1⟩ := Yb
          obtain ⟨h0', h1', h2', h3', hf0, hf1, hf2, hf3⟩ := Yd
          obtain ⟨c0', c1', -, -⟩ := Yc
          go_wp2_with (first | ((with_reducible refine (hF _ (r0.same hbr)).mono ?_); rintro e w6 ⟨rfl, hb6⟩; have z6 := hb6.size; have g0_6 := cell_below g0 hb6 lG; have g1_6 := cell_below g1 hb6 lG; have h0_6 := cell_below h0' hb6 lH; have h1_6 := cell_below h1' hb6 lH; have h2_6 := cell_below h2' hb6 lH; have h3_6 := cell_below h3' hb6 lH; have c0_6 := cell_below c0' hb6 lF; have c1_6 := cell_below c1' hb6 lF; have lG6 : G < w6.heap.size := (by omega); have lH6 : H < w6.heap.size := (by omega); have lF6 : F < w6.heap.size := (by omega); have Rc6 := rowA (o := (.cells #[.int .i64 xa, .int .i64 xb, .int .u64 xs, .int .u64 xt] 31)) (Rc.same hb6); have Rb6 := rowA (o := (.cells #[.int .i64 xa, .int .i64 xb, .int .u64 xs, .int .u64 xt] 31)) (hrow.same hb6); have X6 := Box4.of (blk1 w6 (.cells #[.int .i64 xa, .int .i64 xb, .int .u64 xs, .int .u64 xt] 31)); have hB6 := hbr.trans (hb6.mono (by omega))) | ((with_reducible refine (hS _ Rc6 Rb6).mono ?_); rintro e w7 ⟨rfl, hb7⟩; rw [size1] at hb7; have z7 := hb7.size; rw [size1] at z7; have hq7 := (below1 w6 (.cells #[.int .i64 xa, .int .i64 xb, .int .u64 xs, .int .u64 xt] 31)).trans (hb7.mono (by omega)); have h0_7 := cell_below h0_6 hq7 lH6; have h1_7 := cell_below h1_6 hq7 lH6; have h2_7 := cell_below h2_6 hq7 lH6; have h3_7 := cell_below h3_6 hq7 lH6; obtain ⟨x0', x1', x2', x3', -, -, -, -⟩ := X6.below hb7 (by omega); have lH7 : H < w7.heap.size := (by omega); have lX7 : w6.heap.size < w7.heap.size := (by omega)) | ((with_reducible refine (alive9_any _).mono ?_); rintro e wA ⟨rfl, hbA⟩))
          go_ret
          exact ⟨rfl, (hB6.trans (hq7.mono (by omega))).trans (hbA.mono (by omega))⟩
    | some x =>
      go_enter Try.func7, Try.ntmps7
      go_wp2_with (first | ((with_reducible refine (hE _ (r0.same ((Below.refl _ w)))).mono ?_); rintro e w1 ⟨a1, q1, rfl, h1, hb1, -⟩; have z1 := hb1.size; have hq1 : Below w.heap.size w w1 := (Below.refl _ w).trans (hb1.mono (by omega)); have hB1 := hq1; have Rc_1 := h1) | ((with_reducible refine (hE2 _ (Rf.same (hB1.trans ((below1 w1 _).mono hB1.size)))).mono ?_); rintro e w2 ⟨a2, q2, rfl, h2, hb2, -⟩; rw [size1] at hb2; have z2 := hb2.size; rw [size1] at z2; have hq2 : Below w1.heap.size w1 w2 := (below1 w1 _).trans (hb2.mono (by omega)); have hB2 := hB1.trans (hq2.mono hB1.size); have Xc_2 := (Box2.of (blk1 w1 _)).below hb2 (by omega); have Rc_2 := Rc_1.same hq2; have Rb_2 := h2; have cc0_2 := Xc_2.c0; have cc1_2 := Xc_2.c1; have lc_2 : w1.heap.size < w2.heap.size := (by omega)) | ((with_reducible refine (hF2 _ (Rf.same (hB2.trans ((below1 w2 _).mono hB2.size)))).mono ?_); rintro e w3 ⟨rfl, hb3⟩; rw [size1] at hb3; have z3 := hb3.size; rw [size1] at z3; have hq3 : Below w2.heap.size w2 w3 := (below1 w2 _).trans (hb3.mono (by omega)); have hB3 := hB2.trans (hq3.mono hB2.size); have Xc_3 := Xc_2.below hq3 (by omega); have Xb_3 := (Box2.of (blk1 w2 _)).below hb3 (by omega); have Rc_3 := Rc_2.same hq3; have Rb_3 := Rb_2.same hq3; have cc0_3 := Xc_3.c0; have cc1_3 := Xc_3.c1; have lc_3 : w1.heap.size < w3.heap.size := (by omega); have cb0_3 := Xb_3.c0; have cb1_3 := Xb_3.c1; have lb_3 : w2.heap.size < w3.heap.size := (by omega); clear cc0_2 cc1_2 lc_2 Xc_2) | ((with_reducible refine (hCD _ ).mono ?_); rintro e w4 ⟨rfl, hb4⟩; rw [size1] at hb4; have z4 := hb4.size; rw [size1] at z4; have hq4 : Below w3.heap.size w3 w4 := (below1 w3 _).trans (hb4.mono (by omega)); have hB4 := hB3.trans (hq4.mono hB3.size); have Xc_4 := Xc_3.below hq4 (by omega); have Xb_4 := Xb_3.below hq4 (by omega); have Xd_4 := (Box4.of (blk1 w3 _)).below hb4 (by omega); have Rc_4 := Rc_3.same hq4; have Rb_4 := Rb_3.same hq4; have cc0_4 := Xc_4.c0; have cc1_4 := Xc_4.c1; have lc_4 : w1.heap.size < w4.heap.size := (by omega); have cb0_4 := Xb_4.c0; have cb1_4 := Xb_4.c1; have lb_4 : w2.heap.size < w4.heap.size := (by omega); have cd0_4 := Xd_4.c0; have cd1_4 := Xd_4.c1; have cd2_4 := Xd_4.c2; have cd3_4 := Xd_4.c3; have ld_4 : w3.heap.size < w4.heap.size := (by omega); clear cc0_3 cc1_3 lc_3 Xc_3 cb0_3 cb1_3 lb_3 Xb_3))
      have n1 : L ≠ [] → ∀ x, a1 = some x → x.block ≠ w2.heap.size ∧ x.block ≠ w3.heap.size := fun h x hx => by have := Co.row_lt h1 h x hx; omega
      have n2 : LA ≠ [] → ∀ x, a2 = some x → x.block ≠ w2.heap.size ∧ x.block ≠ w3.heap.size := fun h x hx => by have := Co.row_lt h2 h x hx; omega
      have q12 : w1.heap.size < w2.heap.size := by omega
      have q23 : w2.heap.size < w3.heap.size := by omega
      have q0 : w.heap.size ≤ w1.heap.size := by omega
      have hB0 := hB4
      clear hb1 hb2 hb3 hb4 h1 h2 hq1 hq2 hq3 hq4 hB1 hB2 hB3 hB4 z1 z2 z3 z4 hE hE2 hF2 hCD cc0_4 cc1_4 cb0_4 cb1_4 cd0_4 cd1_4 cd2_4 cd3_4
      generalize w1.heap.size = F at *
      generalize w2.heap.size = G at *
      generalize w3.heap.size = H at *
      go_loopw [11] (fun t wr => ∃ k : Nat, A ≤ k ∧ k ≤ l0 ∧ t = .int .i64 k ∧ ∃ a' len' cap' S, S = stI stD (x0.take k) ∧ Box2 wr G (.slice a' len' cap') (.int .i64 (cN stD (x0.take k))) ∧ RowIn .u8 wr a' len' cap' (cL stD (x0.take k)) ∧ Box4 wr H (.int .i64 S.a) (.int .i64 S.b) (.int .u64 S.s) (.int .u64 S.t) ∧ (cL stD (x0.take k) ≠ [] → ∀ x, a' = some x → x.block ≠ G ∧ x.block ≠ H) ∧ Box2 wr F (.slice a1 lL q1) (.int .i64 N) ∧ RowIn .u8 wr a1 lL q1 L ∧ (L ≠ [] → ∀ x, a1 = some x → x.block ≠ G ∧ x.block ≠ H) ∧ Below w.heap.size w wr ∧ F < wr.heap.size ∧ G < wr.heap.size ∧ H < wr.heap.size) (fun t _ => l0 - (intOf t).toNat)
      case atStart =>
        obtain ⟨u1, u2, u3⟩ := HA.out
        refine ⟨A, Nat.le_refl _, hAl, by go_num, a2, lA, q2, ⟨pa, pb, ps, pt⟩, u3.symm, by rw [u2]; exact Xb_4, by rw [u1]; exact Rb_4, Xd_4, by rw [u1]; exact n2, Xc_4, Rc_4, n1, hB0, lc_4, lb_4, ld_4⟩
      case round =>
        obtain ⟨k, hAk, hk, rfl, a', len', cap', S, eS, Yb, hrow, Yd, nb, Yc, Rc, nc, hbr, lF, lG, lH⟩ := hrel
        clear Xb_4 Rb_4 Xd_4 Xc_4 Rc_4 n1 n2 hB0 lc_4 lb_4 ld_4
        by_cases hlt : k < l0
        · exfalso
          have := HZ.out
          omega
        · obtain rfl : k = l0 := by omega
          have ex : x0.take k = x0 := List.take_of_length_le (by omega)
          rw [ex] at eS
          rw [ex] at Yb hrow
          have hS := fun w' (r : RowIn .u8 w' a1 lL q1 L) (r' : RowIn .u8 w' a' len' cap' L) => same_any a1 lL q1 L N a' len' cap' L N w' r r'
          have es : sameB L N L N = true := by simp [sameB]
          simp only [es] at hS
          unfold bv at hS
          obtain ⟨kk1, kk2, kk3⟩ := HL.out
          rw [kk1] at hrow
          rw [kk2] at Yb
          rw [kk3] at eS
          clear es ex kk1 kk2 kk3
          subst eS
          simp only at Yd
          obtain ⟨g0, g1, gf0, gf1⟩ := Yb
          obtain ⟨h0', h1', h2', h3', hf0, hf1, hf2, hf3⟩ := Yd
          obtain ⟨c0', c1', -, -⟩ := Yc
          go_wp2_with (first | ((with_reducible refine (hF _ (r0.same hbr)).mono ?_); rintro e w6 ⟨rfl, hb6⟩; have z6 := hb6.size; have g0_6 := cell_below g0 hb6 lG; have g1_6 := cell_below g1 hb6 lG; have h0_6 := cell_below h0' hb6 lH; have h1_6 := cell_below h1' hb6 lH; have h2_6 := cell_below h2' hb6 lH; have h3_6 := cell_below h3' hb6 lH; have c0_6 := cell_below c0' hb6 lF; have c1_6 := cell_below c1' hb6 lF; have lG6 : G < w6.heap.size := (by omega); have lH6 : H < w6.heap.size := (by omega); have lF6 : F < w6.heap.size := (by omega); have Rc6 := rowA (o := (.cells #[.int .i64 xa, .int .i64 xb, .int .u64 xs, .int .u64 xt] 31)) (Rc.same hb6); have Rb6 := rowA (o := (.cells #[.int .i64 xa, .int .i64 xb, .int .u64 xs, .int .u64 xt] 31)) (hrow.same hb6); have X6 := Box4.of (blk1 w6 (.cells #[.int .i64 xa, .int .i64 xb, .int .u64 xs, .int .u64 xt] 31)); have hB6 := hbr.trans (hb6.mono (by omega))) | ((with_reducible refine (hS _ Rc6 Rb6).mono ?_); rintro e w7 ⟨rfl, hb7⟩; rw [size1] at hb7; have z7 := hb7.size; rw [size1] at z7; have hq7 := (below1 w6 (.cells #[.int .i64 xa, .int .i64 xb, .int .u64 xs, .int .u64 xt] 31)).trans (hb7.mono (by omega)); have h0_7 := cell_below h0_6 hq7 lH6; have h1_7 := cell_below h1_6 hq7 lH6; have h2_7 := cell_below h2_6 hq7 lH6; have h3_7 := cell_below h3_6 hq7 lH6; obtain ⟨x0', x1', x2', x3', -, -, -, -⟩ := X6.below hb7 (by omega); have lH7 : H < w7.heap.size := (by omega); have lX7 : w6.heap.size < w7.heap.size := (by omega)) | ((with_reducible refine (alive9_any _).mono ?_); rintro e wA ⟨rfl, hbA⟩))
          go_ret
          exact ⟨rfl, (hB6.trans (hq7.mono (by omega))).trans (hbA.mono (by omega))⟩
  · obtain ⟨b, off, rfl, -⟩ := r0.rd.cells (by intro h; rw [h] at h0; simp at h0; omega)
    go_enter Try.func7, Try.ntmps7
    go_wp2_with (first | ((with_reducible refine (hE _ (r0.same ((Below.refl _ w)))).mono ?_); rintro e w1 ⟨a1, q1, rfl, h1, hb1, -⟩; have z1 := hb1.size; have hq1 : Below w.heap.size w w1 := (Below.refl _ w).trans (hb1.mono (by omega)); have hB1 := hq1; have Rc_1 := h1) | ((with_reducible refine (hE2 _ (Rf.same (hB1.trans ((below1 w1 _).mono hB1.size)))).mono ?_); rintro e w2 ⟨a2, q2, rfl, h2, hb2, -⟩; rw [size1] at hb2; have z2 := hb2.size; rw [size1] at z2; have hq2 : Below w1.heap.size w1 w2 := (below1 w1 _).trans (hb2.mono (by omega)); have hB2 := hB1.trans (hq2.mono hB1.size); have Xc_2 := (Box2.of (blk1 w1 _)).below hb2 (by omega); have Rc_2 := Rc_1.same hq2; have Rb_2 := h2; have cc0_2 := Xc_2.c0; have cc1_2 := Xc_2.c1; have lc_2 : w1.heap.size < w2.heap.size := (by omega)) | ((with_reducible refine (hF2 _ (Rf.same (hB2.trans ((below1 w2 _).mono hB2.size)))).mono ?_); rintro e w3 ⟨rfl, hb3⟩; rw [size1] at hb3; have z3 := hb3.size; rw [size1] at z3; have hq3 : Below w2.heap.size w2 w3 := (below1 w2 _).trans (hb3.mono (by omega)); have hB3 := hB2.trans (hq3.mono hB2.size); have Xc_3 := Xc_2.below hq3 (by omega); have Xb_3 := (Box2.of (blk1 w2 _)).below hb3 (by omega); have Rc_3 := Rc_2.same hq3; have Rb_3 := Rb_2.same hq3; have cc0_3 := Xc_3.c0; have cc1_3 := Xc_3.c1; have lc_3 : w1.heap.size < w3.heap.size := (by omega); have cb0_3 := Xb_3.c0; have cb1_3 := Xb_3.c1; have lb_3 : w2.heap.size < w3.heap.size := (by omega); clear cc0_2 cc1_2 lc_2 Xc_2) | ((with_reducible refine (hCD _ ).mono ?_); rintro e w4 ⟨rfl, hb4⟩; rw [size1] at hb4; have z4 := hb4.size; rw [size1] at z4; have hq4 : Below w3.heap.size w3 w4 := (below1 w3 _).trans (hb4.mono (by omega)); have hB4 := hB3.trans (hq4.mono hB3.size); have Xc_4 := Xc_3.below hq4 (by omega); have Xb_4 := Xb_3.below hq4 (by omega); have Xd_4 := (Box4.of (blk1 w3 _)).below hb4 (by omega); have Rc_4 := Rc_3.same hq4; have Rb_4 := Rb_3.same hq4; have cc0_4 := Xc_4.c0; have cc1_4 := Xc_4.c1; have lc_4 : w1.heap.size < w4.heap.size := (by omega); have cb0_4 := Xb_4.c0; have cb1_4 := Xb_4.c1; have lb_4 : w2.heap.size < w4.heap.size := (by omega); have cd0_4 := Xd_4.c0; have cd1_4 := Xd_4.c1; have cd2_4 := Xd_4.c2; have cd3_4 := Xd_4.c3; have ld_4 : w3.heap.size < w4.heap.size := (by omega); clear cc0_3 cc1_3 lc_3 Xc_3 cb0_3 cb1_3 lb_3 Xb_3))
    have n1 : L ≠ [] → ∀ x, a1 = some x → x.block ≠ w2.heap.size ∧ x.block ≠ w3.heap.size := fun h x hx => by have := Co.row_lt h1 h x hx; omega
    have n2 : LA ≠ [] → ∀ x, a2 = some x → x.block ≠ w2.heap.size ∧ x.block ≠ w3.heap.size := fun h x hx => by have := Co.row_lt h2 h x hx; omega
    have q12 : w1.heap.size < w2.heap.size := by omega
    have q23 : w2.heap.size < w3.heap.size := by omega
    have q0 : w.heap.size ≤ w1.heap.size := by omega
    have hB0 := hB4
    clear hb1 hb2 hb3 hb4 h1 h2 hq1 hq2 hq3 hq4 hB1 hB2 hB3 hB4 z1 z2 z3 z4 hE hE2 hF2 hCD cc0_4 cc1_4 cb0_4 cb1_4 cd0_4 cd1_4 cd2_4 cd3_4
    generalize w1.heap.size = F at *
    generalize w2.heap.size = G at *
    generalize w3.heap.size = H at *
    go_loopw [11] (fun t wr => ∃ k : Nat, A ≤ k ∧ k ≤ l0 ∧ t = .int .i64 k ∧ ∃ a' len' cap' S, S = stI stD (x0.take k) ∧ Box2 wr G (.slice a' len' cap') (.int .i64 (cN stD (x0.take k))) ∧ RowIn .u8 wr a' len' cap' (cL stD (x0.take k)) ∧ Box4 wr H (.int .i64 S.a) (.int .i64 S.b) (.int .u64 S.s) (.int .u64 S.t) ∧ (cL stD (x0.take k) ≠ [] → ∀ x, a' = some x → x.block ≠ G ∧ x.block ≠ H) ∧ Box2 wr F (.slice a1 lL q1) (.int .i64 N) ∧ RowIn .u8 wr a1 lL q1 L ∧ (L ≠ [] → ∀ x, a1 = some x → x.block ≠ G ∧ x.block ≠ H) ∧ Below w.heap.size w wr ∧ F < wr.heap.size ∧ G < wr.heap.size ∧ H < wr.heap.size) (fun t _ => l0 - (intOf t).toNat)
    case atStart =>
      obtain ⟨u1, u2, u3⟩ := HA.out
      refine ⟨A, Nat.le_refl _, hAl, by go_num, a2, lA, q2, ⟨pa, pb, ps, pt⟩, u3.symm, by rw [u2]; exact Xb_4, by rw [u1]; exact Rb_4, Xd_4, by rw [u1]; exact n2, Xc_4, Rc_4, n1, hB0, lc_4, lb_4, ld_4⟩
    case round =>
      obtain ⟨k, hAk, hk, rfl, a', len', cap', S, eS, Yb, hrow, Yd, nb, Yc, Rc, nc, hbr, lF, lG, lH⟩ := hrel
      clear Xb_4 Rb_4 Xd_4 Xc_4 Rc_4 n1 n2 hB0 lc_4 lb_4 ld_4
      by_cases hlt : k < l0
      · obtain ⟨b, off, he, cc⟩ := r0.rd.cells (by intro h; rw [h] at h0; simp at h0; omega)
        cases he
        have hlk : k < x0.length := by rw [h0]; exact hlt
        have d1 := cc k hlk
        have hvb := bd_u32 (Co.getD_wf9 r0.rd.2.2 hlk)
        have htk := take_snoc hlk
        obtain ⟨v, ev⟩ : ∃ m, x0.getD k 0 = m := ⟨_, rfl⟩
        rw [ev] at d1 hvb htk
        have lb0 := World.block_lt_of_cell? w _ d1
        have d1 : wr.cell? ⟨b, off + k, none⟩ = some (.int .u32 v) := cell_below d1 hbr lb0
        have lb : b < wr.heap.size := World.block_lt_of_cell? wr _ d1
        have hvU : isU v := hvb
        have hUk := okV_take HU.out k
        have hlk2 : (x0.take k).length = k := by rw [List.length_take]; omega
        obtain ⟨sok, sd⟩ := stI_ok isD_st' okD_st hUk
        rw [← eS] at sok sd
        obtain ⟨wE, wL, wN, wD, wS, -⟩ := c_write (v := v) isD_st' okD_st hUk (by omega) hvU
        rw [← eS] at wE wL wN wD
        rw [← htk] at wL wN wD
        have hW := fun w' (r : RowIn .u8 w' a' len' cap' (cL stD (x0.take k))) => Du.dwr_any a' len' cap' (cL stD (x0.take k)) (cN stD (x0.take k)) S v w' r (by have := c_bd isD_st' okD_st hUk (by omega); unfold isInt; omega) sd hvU
        simp only [wE, wL, wN, wD] at hW
        obtain ⟨L2, hL2⟩ : ∃ x, cL stD (x0.take (k + 1)) = x := ⟨_, rfl⟩
        obtain ⟨N2, hN2⟩ : ∃ x, cN stD (x0.take (k + 1)) = x := ⟨_, rfl⟩
        obtain ⟨T, hT⟩ : ∃ x, stI stD (x0.take (k + 1)) = x := ⟨_, rfl⟩
        obtain ⟨N1, hN1⟩ : ∃ x, cN stD (x0.take k) = x := ⟨_, rfl⟩
        obtain ⟨L1, hL1⟩ : ∃ x, cL stD (x0.take k) = x := ⟨_, rfl⟩
        simp only [hL2, hN2, hT, hN1, hL1] at hW
        rw [hN1] at Yb
        rw [hL1] at hrow
        have HE := hid (And.intro hL2 (And.intro hN2 hT))
        clear hL2 hN2 hT hN1 hL1 wE wL wN wD wS eS ev htk cc sok sd hUk hlk2
        obtain ⟨sa, sb, ss, st⟩ := S
        obtain ⟨ta, tb, ts, tt⟩ := T
        unfold bv Du.dv at hW
        simp only at hW Yd
        obtain ⟨g0, g1, gf0, gf1⟩ := Yb
        obtain ⟨h0', h1', h2', h3', hf0, hf1, hf2, hf3⟩ := Yd
        go_wp2_with fail
        go_cut [12, 13, 14] (fun s12 s13 s14 wx => ∃ K1 K2 a3 q3, s12 = .pointer (some ⟨K1, 0, none⟩) ∧ s13 = .pointer (some ⟨K2, 0, none⟩) ∧ s14 = .int .i64 0 ∧ wr.heap.size ≤ K1 ∧ K1 < wx.heap.size ∧ Box2 wx K1 (.slice a3 L2.length q3) (.int .i64 N2) ∧ wr.heap.size ≤ K2 ∧ K2 < wx.heap.size ∧ Box4 wx K2 (.int .i64 ta) (.int .i64 tb) (.int .u64 ts) (.int .u64 tt) ∧ K1 ≠ K2 ∧ RowIn .u8 wx a3 L2.length q3 L2 ∧ Fresh wr a3 ∧ Below wr.heap.size wr wx)
        case first =>
          have nn0_0 : G ≠ wr.heap.size := by omega
          have nn0_1 : G ≠ wr.heap.size + 1 := by omega
          have nn1_0 : H ≠ wr.heap.size := by omega
          have nn1_1 : H ≠ wr.heap.size + 1 := by omega
          have nn2_0 : b ≠ wr.heap.size := by omega
          have nn2_1 : b ≠ wr.heap.size + 1 := by omega
          have ll0 : G < wr.heap.size + 1 := Nat.lt_succ_of_lt lG
          have ll1 : H < wr.heap.size + 1 := Nat.lt_succ_of_lt lH
          have ll2 : b < wr.heap.size + 1 := Nat.lt_succ_of_lt lb
          go_region_held3 (fun w' => w'.cell? ⟨G, 0, none⟩ = some (.slice a' len' cap') ∧ w'.cell? ⟨G, 1, none⟩ = some (.int .i64 N1) ∧ w'.cell? ⟨H, 0, none⟩ = some (.int .i64 sa) ∧ w'.cell? ⟨H, 1, none⟩ = some (.int .i64 sb) ∧ w'.cell? ⟨H, 2, none⟩ = some (.int .u64 ss) ∧ w'.cell? ⟨H, 3, none⟩ = some (.int .u64 st) ∧ w'.cell? ⟨b, off + k, none⟩ = some (.int .u32 v)) (first | (simp only [kS, kA, kD, World.size_setCell, World.size_alloc, ne_eq, not_false_eq_true, and_self, nn0_0, nn0_1, nn1_0, nn1_1, nn2_0, nn2_1, gg0, gh0, gg1, gh1, gg2, gh2, st0, st1, st2, st3, st4, st5, st6]; done) | (simp only [kA, kD, World.size_setCell, World.size_alloc, and_self, g0, g1, h0', h1', h2', h3', d1, lG, lH, lb, ll0, ll1, ll2]; done)) (first | (go_at_call 28; (with_reducible refine (hW wr.drew (hrow.same (Below.refl wr.heap.size wr).drew)).mono ?_); rintro e w3 ⟨a3, q3, rfl, rr3, hb3, F3⟩; have hwz : wr.heap.size + 0 ≤ w3.heap.size := (by have t : wr.heap.size ≤ w3.heap.size := hb3.size; exact t); have hbW : Below wr.heap.size wr w3 := (Below.refl wr.heap.size wr).drew.trans (hb3.mono (show wr.heap.size ≤ wr.heap.size by exact Nat.le_refl _)); have Fwr : Fresh wr a3 := F3.lift (show wr.heap.size ≤ wr.heap.size by exact (Nat.le_refl wr.heap.size)); have st0 := cell_below g0 hbW lG; have st1 := cell_below g1 hbW lG; have st2 := cell_below h0' hbW lH; have st3 := cell_below h1' hbW lH; have st4 := cell_below h2' hbW lH; have st5 := cell_below h3' hbW lH; have st6 := cell_below d1 hbW lb; have gg0 : G < w3.heap.size := Nat.lt_of_lt_of_le lG hbW.size; have gh0 := Nat.lt_succ_of_lt gg0; have gg1 : H < w3.heap.size := Nat.lt_of_lt_of_le lH hbW.size; have gh1 := Nat.lt_succ_of_lt gg1; have gg2 : b < w3.heap.size := Nat.lt_of_lt_of_le lb hbW.size; have gh2 := Nat.lt_succ_of_lt gg2) | (go_at_call 28; (with_reducible refine (hW (wr.alloc (.cells #[.slice none 0 0, .int .i64 0] 24)).drew (hrow.same (below1 wr (.cells #[.slice none 0 0, .int .i64 0] 24)).drew)).mono ?_); rintro e w3 ⟨a3, q3, rfl, rr3, hb3, F3⟩; have hwz : wr.heap.size + 1 ≤ w3.heap.size := (by have t : (wr.alloc (.cells #[.slice none 0 0, .int .i64 0] 24)).heap.size ≤ w3.heap.size := hb3.size; rw [size1] at t; exact t); have hbW : Below wr.heap.size wr w3 := (below1 wr (.cells #[.slice none 0 0, .int .i64 0] 24)).drew.trans (hb3.mono (show wr.heap.size ≤ (wr.alloc (.cells #[.slice none 0 0, .int .i64 0] 24)).heap.size by rw [size1]; omega)); have Fwr : Fresh wr a3 := F3.lift (show wr.heap.size ≤ (wr.alloc (.cells #[.slice none 0 0, .int .i64 0] 24)).heap.size by rw [size1]; have := (Nat.le_refl wr.heap.size); omega); have hwl0 : wr.heap.size < w3.heap.size := (by omega); have Y0 := (Box2.of (blk1 wr (.cells #[.slice none 0 0, .int .i64 0] 24))).drew.below hb3 (show wr.heap.size < (wr.alloc (.cells #[.slice none 0 0, .int .i64 0] 24)).heap.size by rw [size1]; omega); have y0c0 := Y0.c0; have y0f0 := Y0.f0; have y0c1 := Y0.c1; have y0f1 := Y0.f1; have B0 := Blk2.of Y0; have ne0 := F3.ne (g := wr.heap.size) (show wr.heap.size < (wr.alloc (.cells #[.slice none 0 0, .int .i64 0] 24)).heap.size by rw [size1]; omega); have st0 := cell_below g0 hbW lG; have st1 := cell_below g1 hbW lG; have st2 := cell_below h0' hbW lH; have st3 := cell_below h1' hbW lH; have st4 := cell_below h2' hbW lH; have st5 := cell_below h3' hbW lH; have st6 := cell_below d1 hbW lb; have gg0 : G < w3.heap.size := Nat.lt_of_lt_of_le lG hbW.size; have gh0 := Nat.lt_succ_of_lt gg0; have gg1 : H < w3.heap.size := Nat.lt_of_lt_of_le lH hbW.size; have gh1 := Nat.lt_succ_of_lt gg1; have gg2 : b < w3.heap.size := Nat.lt_of_lt_of_le lb hbW.size; have gh2 := Nat.lt_succ_of_lt gg2) | (go_at_call 28; (with_reducible refine (hW (wr.alloc (.cells #[.int .i64 0, .int .i64 0, .int .u64 0, .int .u64 0] 31)).drew (hrow.same (below1 wr (.cells #[.int .i64 0, .int .i64 0, .int .u64 0, .int .u64 0] 31)).drew)).mono ?_); rintro e w3 ⟨a3, q3, rfl, rr3, hb3, F3⟩; have hwz : wr.heap.size + 1 ≤ w3.heap.size := (by have t : (wr.alloc (.cells #[.int .i64 0, .int .i64 0, .int .u64 0, .int .u64 0] 31)).heap.size ≤ w3.heap.size := hb3.size; rw [size1] at t; exact t); have hbW : Below wr.heap.size wr w3 := (below1 wr (.cells #[.int .i64 0, .int .i64 0, .int .u64 0, .int .u64 0] 31)).drew.trans (hb3.mono (show wr.heap.size ≤ (wr.alloc (.cells #[.int .i64 0, .int .i64 0, .int .u64 0, .int .u64 0] 31)).heap.size by rw [size1]; omega)); have Fwr : Fresh wr a3 := F3.lift (show wr.heap.size ≤ (wr.alloc (.cells #[.int .i64 0, .int .i64 0, .int .u64 0, .int .u64 0] 31)).heap.size by rw [size1]; have := (Nat.le_refl wr.heap.size); omega); have hwl0 : wr.heap.size < w3.heap.size := (by omega); have Y1 := (Box4.of (blk1 wr (.cells #[.int .i64 0, .int .i64 0, .int .u64 0, .int .u64 0] 31))).drew.below hb3 (show wr.heap.size < (wr.alloc (.cells #[.int .i64 0, .int .i64 0, .int .u64 0, .int .u64 0] 31)).heap.size by rw [size1]; omega); have y1c0 := Y1.c0; have y1f0 := Y1.f0; have y1c1 := Y1.c1; have y1f1 := Y1.f1; have y1c2 := Y1.c2; have y1f2 := Y1.f2; have y1c3 := Y1.c3; have y1f3 := Y1.f3; have B1 := Blk4.of Y1; have ne1 := F3.ne (g := wr.heap.size) (show wr.heap.size < (wr.alloc (.cells #[.int .i64 0, .int .i64 0, .int .u64 0, .int .u64 0] 31)).heap.size by rw [size1]; omega); have st0 := cell_below g0 hbW lG; have st1 := cell_below g1 hbW lG; have st2 := cell_below h0' hbW lH; have st3 := cell_below h1' hbW lH; have st4 := cell_below h2' hbW lH; have st5 := cell_below h3' hbW lH; have st6 := cell_below d1 hbW lb; have gg0 : G < w3.heap.size := Nat.lt_of_lt_of_le lG hbW.size; have gh0 := Nat.lt_succ_of_lt gg0; have gg1 : H < w3.heap.size := Nat.lt_of_lt_of_le lH hbW.size; have gh1 := Nat.lt_succ_of_lt gg1; have gg2 : b < w3.heap.size := Nat.lt_of_lt_of_le lb hbW.size; have gh2 := Nat.lt_succ_of_lt gg2) | (go_at_call 28; (with_reducible refine (hW ((wr.alloc (.cells #[.slice none 0 0, .int .i64 0] 24)).alloc (.cells #[.int .i64 0, .int .i64 0, .int .u64 0, .int .u64 0] 31)).drew (hrow.same (below2 wr (.cells #[.slice none 0 0, .int .i64 0] 24) (.cells #[.int .i64 0, .int .i64 0, .int .u64 0, .int .u64 0] 31)).drew)).mono ?_); rintro e w3 ⟨a3, q3, rfl, rr3, hb3, F3⟩; have hwz : wr.heap.size + 2 ≤ w3.heap.size := (by have t : ((wr.alloc (.cells #[.slice none 0 0, .int .i64 0] 24)).alloc (.cells #[.int .i64 0, .int .i64 0, .int .u64 0, .int .u64 0] 31)).heap.size ≤ w3.heap.size := hb3.size; rw [size2] at t; exact t); have hbW : Below wr.heap.size wr w3 := (below2 wr (.cells #[.slice none 0 0, .int .i64 0] 24) (.cells #[.int .i64 0, .int .i64 0, .int .u64 0, .int .u64 0] 31)).drew.trans (hb3.mono (show wr.heap.size ≤ ((wr.alloc (.cells #[.slice none 0 0, .int .i64 0] 24)).alloc (.cells #[.int .i64 0, .int .i64 0, .int .u64 0, .int .u64 0] 31)).heap.size by rw [size2]; omega)); have Fwr : Fresh wr a3 := F3.lift (show wr.heap.size ≤ ((wr.alloc (.cells #[.slice none 0 0, .int .i64 0] 24)).alloc (.cells #[.int .i64 0, .int .i64 0, .int .u64 0, .int .u64 0] 31)).heap.size by rw [size2]; have := (Nat.le_refl wr.heap.size); omega); have hwl0 : wr.heap.size < w3.heap.size := (by omega); have Y0 := (Box2.of (blk2a wr (.cells #[.slice none 0 0, .int .i64 0] 24) (.cells #[.int .i64 0, .int .i64 0, .int .u64 0, .int .u64 0] 31))).drew.below hb3 (show wr.heap.size < ((wr.alloc (.cells #[.slice none 0 0, .int .i64 0] 24)).alloc (.cells #[.int .i64 0, .int .i64 0, .int .u64 0, .int .u64 0] 31)).heap.size by rw [size2]; omega); have y0c0 := Y0.c0; have y0f0 := Y0.f0; have y0c1 := Y0.c1; have y0f1 := Y0.f1; have B0 := Blk2.of Y0; have ne0 := F3.ne (g := wr.heap.size) (show wr.heap.size < ((wr.alloc (.cells #[.slice none 0 0, .int .i64 0] 24)).alloc (.cells #[.int .i64 0, .int .i64 0, .int .u64 0, .int .u64 0] 31)).heap.size by rw [size2]; omega); have hwl1 : wr.heap.size + 1 < w3.heap.size := (by omega); have Y1 := (Box4.of (blk2 wr (.cells #[.slice none 0 0, .int .i64 0] 24) (.cells #[.int .i64 0, .int .i64 0, .int .u64 0, .int .u64 0] 31))).drew.below hb3 (show wr.heap.size + 1 < ((wr.alloc (.cells #[.slice none 0 0, .int .i64 0] 24)).alloc (.cells #[.int .i64 0, .int .i64 0, .int .u64 0, .int .u64 0] 31)).heap.size by rw [size2]; omega); have y1c0 := Y1.c0; have y1f0 := Y1.f0; have y1c1 := Y1.c1; have y1f1 := Y1.f1; have y1c2 := Y1.c2; have y1f2 := Y1.f2; have y1c3 := Y1.c3; have y1f3 := Y1.f3; have B1 := Blk4.of Y1; have ne1 := F3.ne (g := wr.heap.size + 1) (show wr.heap.size + 1 < ((wr.alloc (.cells #[.slice none 0 0, .int .i64 0] 24)).alloc (.cells #[.int .i64 0, .int .i64 0, .int .u64 0, .int .u64 0] 31)).heap.size by rw [size2]; omega); have st0 := cell_below g0 hbW lG; have st1 := cell_below g1 hbW lG; have st2 := cell_below h0' hbW lH; have st3 := cell_below h1' hbW lH; have st4 := cell_below h2' hbW lH; have st5 := cell_below h3' hbW lH; have st6 := cell_below d1 hbW lb; have gg0 : G < w3.heap.size := Nat.lt_of_lt_of_le lG hbW.size; have gh0 := Nat.lt_succ_of_lt gg0; have gg1 : H < w3.heap.size := Nat.lt_of_lt_of_le lH hbW.size; have gh1 := Nat.lt_succ_of_lt gg1; have gg2 : b < w3.heap.size := Nat.lt_of_lt_of_le lb hbW.size; have gh2 := Nat.lt_succ_of_lt gg2) | (go_at_call 28; (with_reducible refine (hW ((wr.alloc (.cells #[.int .i64 0, .int .i64 0, .int .u64 0, .int .u64 0] 31)).alloc (.cells #[.slice none 0 0, .int .i64 0] 24)).drew (hrow.same (below2 wr (.cells #[.int .i64 0, .int .i64 0, .int .u64 0, .int .u64 0] 31) (.cells #[.slice none 0 0, .int .i64 0] 24)).drew)).mono ?_); rintro e w3 ⟨a3, q3, rfl, rr3, hb3, F3⟩; have hwz : wr.heap.size + 2 ≤ w3.heap.size := (by have t : ((wr.alloc (.cells #[.int .i64 0, .int .i64 0, .int .u64 0, .int .u64 0] 31)).alloc (.cells #[.slice none 0 0, .int .i64 0] 24)).heap.size ≤ w3.heap.size := hb3.size; rw [size2] at t; exact t); have hbW : Below wr.heap.size wr w3 := (below2 wr (.cells #[.int .i64 0, .int .i64 0, .int .u64 0, .int .u64 0] 31) (.cells #[.slice none 0 0, .int .i64 0] 24)).drew.trans (hb3.mono (show wr.heap.size ≤ ((wr.alloc (.cells #[.int .i64 0, .int .i64 0, .int .u64 0, .int .u64 0] 31)).alloc (.cells #[.slice none 0 0, .int .i64 0] 24)).heap.size by rw [size2]; omega)); have Fwr : Fresh wr a3 := F3.lift (show wr.heap.size ≤ ((wr.alloc (.cells #[.int .i64 0, .int .i64 0, .int .u64 0, .int .u64 0] 31)).alloc (.cells #[.slice none 0 0, .int .i64 0] 24)).heap.size by rw [size2]; have := (Nat.le_refl wr.heap.size); omega); have hwl0 : wr.heap.size < w3.heap.size := (by omega); have Y1 := (Box4.of (blk2a wr (.cells #[.int .i64 0, .int .i64 0, .int .u64 0, .int .u64 0] 31) (.cells #[.slice none 0 0, .int .i64 0] 24))).drew.below hb3 (show wr.heap.size < ((wr.alloc (.cells #[.int .i64 0, .int .i64 0, .int .u64 0, .int .u64 0] 31)).alloc (.cells #[.slice none 0 0, .int .i64 0] 24)).heap.size by rw [size2]; omega); have y1c0 := Y1.c0; have y1f0 := Y1.f0; have y1c1 := Y1.c1; have y1f1 := Y1.f1; have y1c2 := Y1.c2; have y1f2 := Y1.f2; have y1c3 := Y1.c3; have y1f3 := Y1.f3; have B1 := Blk4.of Y1; have ne1 := F3.ne (g := wr.heap.size) (show wr.heap.size < ((wr.alloc (.cells #[.int .i64 0, .int .i64 0, .int .u64 0, .int .u64 0] 31)).alloc (.cells #[.slice none 0 0, .int .i64 0] 24)).heap.size by rw [size2]; omega); have hwl1 : wr.heap.size + 1 < w3.heap.size := (by omega); have Y0 := (Box2.of (blk2 wr (.cells #[.int .i64 0, .int .i64 0, .int .u64 0, .int .u64 0] 31) (.cells #[.slice none 0 0, .int .i64 0] 24))).drew.below hb3 (show wr.heap.size + 1 < ((wr.alloc (.cells #[.int .i64 0, .int .i64 0, .int .u64 0, .int .u64 0] 31)).alloc (.cells #[.slice none 0 0, .int .i64 0] 24)).heap.size by rw [size2]; omega); have y0c0 := Y0.c0; have y0f0 := Y0.f0; have y0c1 := Y0.c1; have y0f1 := Y0.f1; have B0 := Blk2.of Y0; have ne0 := F3.ne (g := wr.heap.size + 1) (show wr.heap.size + 1 < ((wr.alloc (.cells #[.int .i64 0, .int .i64 0, .int .u64 0, .int .u64 0] 31)).alloc (.cells #[.slice none 0 0, .int .i64 0] 24)).heap.size by rw [size2]; omega); have st0 := cell_below g0 hbW lG; have st1 := cell_below g1 hbW lG; have st2 := cell_below h0' hbW lH; have st3 := cell_below h1' hbW lH; have st4 := cell_below h2' hbW lH; have st5 := cell_below h3' hbW lH; have st6 := cell_below d1 hbW lb; have gg0 : G < w3.heap.size := Nat.lt_of_lt_of_le lG hbW.size; have gh0 := Nat.lt_succ_of_lt gg0; have gg1 : H < w3.heap.size := Nat.lt_of_lt_of_le lH hbW.size; have gh1 := Nat.lt_succ_of_lt gg1; have gg2 : b < w3.heap.size := Nat.lt_of_lt_of_le lb hbW.size; have gh2 := Nat.lt_succ_of_lt gg2) | fail)
          all_goals (try go_wp2_with fail)
          all_goals go_meet
          all_goals refine ⟨_, _, a3, q3, rfl, rfl, rfl, ?_, ?_, ?_, ?_, ?_, ?_, ?_, ?_, Fwr, ?_⟩
          all_goals first
            | (with_reducible refine Nat.le_refl _)
            | ((try simp only [World.size_setCell, World.size_alloc]); omega)
            | ((repeat (first | with_reducible exact B0 | (with_reducible refine box2P ?_) | (with_reducible refine box2N (by (try simp only [World.size_setCell, World.size_alloc]); done)) | (with_reducible refine box2N (by simp only [World.size_setCell, World.size_alloc])) | (with_reducible refine box2N rfl) | (with_reducible refine box2A ?_) | (with_reducible refine box2S ?_ (by omega)) | (with_reducible refine blk2A ?_) | (with_reducible refine blk2S ?_ (by omega)))); done)
            | ((repeat (first | with_reducible exact B1 | (with_reducible refine box4P ?_) | (with_reducible refine box4N (by (try simp only [World.size_setCell, World.size_alloc]); done)) | (with_reducible refine box4N (by simp only [World.size_setCell, World.size_alloc])) | (with_reducible refine box4N rfl) | (with_reducible refine box4A ?_) | (with_reducible refine box4S ?_ (by omega)) | (with_reducible refine blk4A ?_) | (with_reducible refine blk4S ?_ (by omega)))); done)
            | ((repeat (first | with_reducible exact rr3 | (with_reducible refine rowA ?_) | (with_reducible refine rowS ?_ ne0) | (with_reducible refine rowS ?_ ne1))); done)
            | ((repeat (first | with_reducible exact hbW | (with_reducible refine bS ?_ (by omega)) | (with_reducible refine bA ?_ (by (try simp only [World.size_setCell, World.size_alloc]); omega)))); done)
        case rest =>
          obtain ⟨K1, K2, a3, q3, rfl, rfl, rfl, gK1, lK1, XK1, gK2, lK2, XK2, dK12, rK, FK, hb5⟩ := hcut
          obtain ⟨w5, ew5⟩ : ∃ x, x = wc := ⟨_, rfl⟩
          subst ew5
          have z5 := hb5.size
          obtain ⟨gg0, gg1, ggf0, ggf1⟩ := (Box2.mk g0 g1 gf0 gf1).below hb5 lG
          obtain ⟨hh0, hh1, hh2, hh3, hhf0, hhf1, hhf2, hhf3⟩ := (Box4.mk h0' h1' h2' h3' hf0 hf1 hf2 hf3).below hb5 lH
          have Yc5 := Yc.below hb5 lF
          have Rc5 := Rc.same hb5
          obtain ⟨x0', x1', xf0', xf1'⟩ := XK1
          obtain ⟨y0', y1', y2', y3', yf0', yf1', yf2', yf3'⟩ := XK2
          have lG5 : G < w5.heap.size := by omega
          have lH5 : H < w5.heap.size := by omega
          clear g0 g1 gf0 gf1 h0' h1' h2' h3' hf0 hf1 hf2 hf3 d1 hW
          go_wp2_with fail
          go_region
          go_wp2
          go_roundw
          case rel =>
            obtain ⟨hL2, hN2, hT⟩ := HE.out
            have nG := FK.ne lG
            have nH := FK.ne lH
            refine ⟨k + 1, by omega, by omega, by go_num, a3, L2.length, q3, ⟨ta, tb, ts, tt⟩, hT.symm, ?_, ?_, ?_, ?_, ?_, ?_, ?_, ?_, ?_, ?_, ?_⟩
            · rw [hN2]; exact (((((Box2.mk gg0 gg1 ggf0 ggf1).put (.slice a3 L2.length q3) (.int .i64 N2)).set (by omega)).set (by omega)).set (by omega)).set (by omega) |>.drew
            · rw [hL2]; exact (rowS (rowS (rowS (rowS (rowS (rowS rK nG) nG) nH) nH) nH) nH).drew
            · exact (Box4.putAll (((Box4.mk hh0 hh1 hh2 hh3 hhf0 hhf1 hhf2 hhf3).set (by omega)).set (by omega)) _ _ _ _).drew
            · intro _ x hx; exact ⟨nG x hx, nH x hx⟩
            · exact ((((((Yc5.set (by omega)).set (by omega)).set (by omega)).set (by omega)).set (by omega)).set (by omega)).drew
            · exact (rowK (rowK (rowK (rowK (rowK (rowK Rc5 (fun h x hx => (nc h x hx).1)) (fun h x hx => (nc h x hx).1)) (fun h x hx => (nc h x hx).2)) (fun h x hx => (nc h x hx).2)) (fun h x hx => (nc h x hx).2)) (fun h x hx => (nc h x hx).2)).drew
            · exact nc
            · exact (Below.set4 (Below.set2 (hbr.trans (hb5.mono (by omega))) (by omega) _ _) (by omega) _ _ _ _).drew
            · show F < _; simp only [World.size_setCell, World.size_drew']; omega
            · show G < _; simp only [World.size_setCell, World.size_drew']; omega
            · show H < _; simp only [World.size_setCell, World.size_drew']; omega
          case measure => simp [intOf]; omega
      · obtain rfl : k = l0 := by omega
        have ex : x0.take k = x0 := List.take_of_length_le (by omega)
        rw [ex] at eS
        rw [ex] at Yb hrow
        have hS := fun w' (r : RowIn .u8 w' a1 lL q1 L) (r' : RowIn .u8 w' a' len' cap' L) => same_any a1 lL q1 L N a' len' cap' L N w' r r'
        have es : sameB L N L N = true := by simp [sameB]
        simp only [es] at hS
        unfold bv at hS
        obtain ⟨kk1, kk2, kk3⟩ := HL.out
        rw [kk1] at hrow
        rw [kk2] at Yb
        rw [kk3] at eS
        clear es ex kk1 kk2 kk3
        subst eS
        simp only at Yd
        obtain ⟨g0, g1, gf0, gf1⟩ := Yb
        obtain ⟨h0', h1', h2', h3', hf0, hf1, hf2, hf3⟩ := Yd
        obtain ⟨c0', c1', -, -⟩ := Yc
        go_wp2_with (first | ((with_reducible refine (hF _ (r0.same hbr)).mono ?_); rintro e w6 ⟨rfl, hb6⟩; have z6 := hb6.size; have g0_6 := cell_below g0 hb6 lG; have g1_6 := cell_below g1 hb6 lG; have h0_6 := cell_below h0' hb6 lH; have h1_6 := cell_below h1' hb6 lH; have h2_6 := cell_below h2' hb6 lH; have h3_6 := cell_below h3' hb6 lH; have c0_6 := cell_below c0' hb6 lF; have c1_6 := cell_below c1' hb6 lF; have lG6 : G < w6.heap.size := (by omega); have lH6 : H < w6.heap.size := (by omega); have lF6 : F < w6.heap.size := (by omega); have Rc6 := rowA (o := (.cells #[.int .i64 xa, .int .i64 xb, .int .u64 xs, .int .u64 xt] 31)) (Rc.same hb6); have Rb6 := rowA (o := (.cells #[.int .i64 xa, .int .i64 xb, .int .u64 xs, .int .u64 xt] 31)) (hrow.same hb6); have X6 := Box4.of (blk1 w6 (.cells #[.int .i64 xa, .int .i64 xb, .int .u64 xs, .int .u64 xt] 31)); have hB6 := hbr.trans (hb6.mono (by omega))) | ((with_reducible refine (hS _ Rc6 Rb6).mono ?_); rintro e w7 ⟨rfl, hb7⟩; rw [size1] at hb7; have z7 := hb7.size; rw [size1] at z7; have hq7 := (below1 w6 (.cells #[.int .i64 xa, .int .i64 xb, .int .u64 xs, .int .u64 xt] 31)).trans (hb7.mono (by omega)); have h0_7 := cell_below h0_6 hq7 lH6; have h1_7 := cell_below h1_6 hq7 lH6; have h2_7 := cell_below h2_6 hq7 lH6; have h3_7 := cell_below h3_6 hq7 lH6; obtain ⟨x0', x1', x2', x3', -, -, -, -⟩ := X6.below hb7 (by omega); have lH7 : H < w7.heap.size := (by omega); have lX7 : w6.heap.size < w7.heap.size := (by omega)) | ((with_reducible refine (alive9_any _).mono ?_); rintro e wA ⟨rfl, hbA⟩))
        go_ret
        exact ⟨rfl, (hB6.trans (hq7.mono (by omega))).trans (hbA.mono (by omega))⟩
end Go.Proofs.Ytogoiolpngbodaa.Wk

/- The law DualSides. -/
import Derived.Test.YtbhoodhcipegbaaLaw08
import Derived.Test.YtbhoodhcipegbaaMath08b
import Derived.Deep.DeepCutAuto
import Derived.Deep.RegionHeld3
import Derived.Test.YtbhoodhcipegbaaKit6
namespace Go.Proofs.Ytbhoodhcipegbaa.Wk
open Go.Proofs Go.RowKit Go.Proofs.Ytbhoodhcipegbaa.Kit Go.Proofs.Ytbhoodhcipegbaa.M01 Go.Proofs.Ytbhoodhcipegbaa.M02 Go.Proofs.Ytbhoodhcipegbaa.M06 Go.Proofs.Ytbhoodhcipegbaa.M07 Go.Proofs.Ytbhoodhcipegbaa.M08 Go.Proofs.Ytbhoodhcipegbaa.Bt Go.Proofs.Ytbhoodhcipegbaa.R02 Go.Proofs.Ytbhoodhcipegbaa.Un Go.Proofs.Ytbhoodhcipegbaa.R06 Go.Proofs.Ytbhoodhcipegbaa.Ri Go.Proofs.Ytbhoodhcipegbaa.R07 Go.Proofs.Ytbhoodhcipegbaa.Du Go.Proofs.Ytbhoodhcipegbaa.R08
set_option linter.unusedVariables false

set_option linter.unusedSimpArgs false
open Go.Proofs.Ytbhoodhcipegbaa.MP
theorem getD_wf8 {xs : List Int} {k : IntKind} (h : ∀ x ∈ xs, (Lit.int k x).wf = true) {i : Nat} (hi : i < xs.length) : (Lit.int k (xs.getD i 0)).wf = true := by
  rw [List.getD_eq_getElem?_getD, List.getElem?_eq_getElem hi]; exact h _ (List.getElem_mem hi)
theorem cell_below8 {w w' : World} {B : Nat} {a : Addr} {u : Value} (h : w.cell? a = some u) (hb : Below B w w') (hl : a.block < B) : w'.cell? a = some u := by rw [hb.cell hl]; exact h
theorem b2_keep {w : World} {g G H : Nat} {u v p q r s t z : Value} (h : Box2 w g u v) (h1 : g ≠ G) (h2 : g ≠ H) : Box2 ((((((w.setCell ⟨G, 0, none⟩ p).setCell ⟨G, 1, none⟩ q).setCell ⟨H, 0, none⟩ r).setCell ⟨H, 1, none⟩ s).setCell ⟨H, 2, none⟩ t).setCell ⟨H, 3, none⟩ z).drew g u v := ((((((h.set h1).set h1).set h2).set h2).set h2).set h2).drew
theorem b4_keep {w : World} {g G H : Nat} {u v x y p q r s t z : Value} (h : Box4 w g u v x y) (h1 : g ≠ G) (h2 : g ≠ H) : Box4 ((((((w.setCell ⟨G, 0, none⟩ p).setCell ⟨G, 1, none⟩ q).setCell ⟨H, 0, none⟩ r).setCell ⟨H, 1, none⟩ s).setCell ⟨H, 2, none⟩ t).setCell ⟨H, 3, none⟩ z).drew g u v x y := ((((((h.set h1).set h1).set h2).set h2).set h2).set h2).drew
theorem b2_put {w : World} {G H : Nat} {u v p q r s t z : Value} (h : Box2 w G u v) (h2 : G ≠ H) : Box2 ((((((w.setCell ⟨G, 0, none⟩ p).setCell ⟨G, 1, none⟩ q).setCell ⟨H, 0, none⟩ r).setCell ⟨H, 1, none⟩ s).setCell ⟨H, 2, none⟩ t).setCell ⟨H, 3, none⟩ z).drew G p q := (((((h.put p q).set h2).set h2).set h2).set h2).drew
theorem b4_put {w : World} {G H : Nat} {u v x y p q r s t z : Value} (h : Box4 w H u v x y) (h2 : H ≠ G) : Box4 ((((((w.setCell ⟨G, 0, none⟩ p).setCell ⟨G, 1, none⟩ q).setCell ⟨H, 0, none⟩ r).setCell ⟨H, 1, none⟩ s).setCell ⟨H, 2, none⟩ t).setCell ⟨H, 3, none⟩ z).drew H r s t z := (((h.set h2).set h2).putAll r s t z).drew
theorem row_keep {k : IntKind} {w : World} {a : Option Addr} {len cap : Nat} {xs : List Int} {G H : Nat} {p q r s t z : Value} (h : RowIn k w a len cap xs) (h1 : ∀ x, a = some x → x.block ≠ G) (h2 : ∀ x, a = some x → x.block ≠ H) : RowIn k ((((((w.setCell ⟨G, 0, none⟩ p).setCell ⟨G, 1, none⟩ q).setCell ⟨H, 0, none⟩ r).setCell ⟨H, 1, none⟩ s).setCell ⟨H, 2, none⟩ t).setCell ⟨H, 3, none⟩ z).drew a len cap xs := ((((((h.set h1).set h1).set h2).set h2).set h2).set h2).drew
theorem below_keep {w w' : World} {B G H : Nat} {p q r s t z : Value} (h : Below B w w') (h1 : B ≤ G) (h2 : B ≤ H) : Below B w ((((((w'.setCell ⟨G, 0, none⟩ p).setCell ⟨G, 1, none⟩ q).setCell ⟨H, 0, none⟩ r).setCell ⟨H, 1, none⟩ s).setCell ⟨H, 2, none⟩ t).setCell ⟨H, 3, none⟩ z).drew := (Below.set4 (Below.set2 h h1 p q) h2 r s t z).drew
theorem size_drew8 (W : World) : W.drew.heap.size = W.heap.size := rfl
theorem size_keep {w : World} {G H : Nat} {p q r s t z : Value} : ((((((w.setCell ⟨G, 0, none⟩ p).setCell ⟨G, 1, none⟩ q).setCell ⟨H, 0, none⟩ r).setCell ⟨H, 1, none⟩ s).setCell ⟨H, 2, none⟩ t).setCell ⟨H, 3, none⟩ z).drew.heap.size = w.heap.size := by
  rw [size_drew8]; simp only [World.size_setCell]
theorem cellS4 {w : World} {a : Addr} {u p q r s : Value} {g i j k l : Nat} (h : w.cell? a = some u) (hne : a.block ≠ g) : ((((w.setCell ⟨g, i, none⟩ p).setCell ⟨g, j, none⟩ q).setCell ⟨g, k, none⟩ r).setCell ⟨g, l, none⟩ s).cell? a = some u := cellS2 (cellS2 h hne) hne
theorem okV_of {xs : List Int} (h : ∀ x ∈ xs, (Lit.int .u32 x).wf = true) : okV xs := fun x hx => bd_u32 (h x hx)

set_option maxRecDepth 100000 in
set_option maxHeartbeats 16000000 in
theorem dualSides_walk (a00 : Option Addr) (l00 c00 : Nat) (x00 : List Int) (n01 : Int) (n10 : Int) (n11 : Int) (n12 : Int) (n13 : Int) (a2 : Option Addr) (l2 c2 : Nat) (x2 : List Int) (w : World) (r00 : RowIn .u8 w a00 l00 c00 x00) (b01 : -9223372036854775808 ≤ n01 ∧ n01 ≤ 9223372036854775807) (b10 : -9223372036854775808 ≤ n10 ∧ n10 ≤ 9223372036854775807) (b11 : -9223372036854775808 ≤ n11 ∧ n11 ≤ 9223372036854775807) (b12 : 0 ≤ n12 ∧ n12 ≤ 18446744073709551615) (b13 : 0 ≤ n13 ∧ n13 ≤ 18446744073709551615) (r2 : RowIn .u32 w a2 l2 c2 x2) :
    Calls Try.prog 6 #[.agg #[.slice a00 l00 c00, .int .i64 n01], .agg #[.int .i64 n10, .int .i64 n11, .int .u64 n12, .int .u64 n13], .slice a2 l2 c2] w fun e w' => e = .returned (.bool true) ∧ Below w.heap.size w w' := by
  have hd : isD ⟨n10, n11, n12, n13⟩ := ⟨b10, b11, b12, b13⟩
  have hC := fun w' (r : RowIn .u8 w' a00 l00 c00 x00) => rcheck_any a00 l00 c00 x00 n01 w' r b01
  have hCD := fun w' => rcheckD_any ⟨n10, n11, n12, n13⟩ w' hd
  unfold bv at hC
  unfold dv at hCD
  simp only at hCD
  have hl2 := r2.rd.len
  rw [r2.hl] at hl2
  by_cases hok : okB x00 n01 = true
  case neg =>
    have e1 : chkE x00 n01 = 8 := by simp [chkE, hok]
    simp only [e1] at hC
    clear hok hCD hd e1
    go_enter Try.func6, Try.ntmps6
    go_wp2_with (first | ((with_reducible refine (hC _ (r00.same ((below2 w _ _)))).mono ?_); rintro e w1 ⟨rfl, hb1⟩; rw [size2] at hb1; have z1 := hb1.size; rw [size2] at z1; have hq1 : Below w.heap.size w w1 := (below2 w _ _).trans (hb1.mono (by omega)); have hB1 := hq1; have Xb_1 := (Box2.of (blk2a w _ _)).below hb1 (by omega); have Xd_1 := (Box4.of (blk2 w _ _)).below hb1 (by omega); have cb0_1 := Xb_1.c0; have cb1_1 := Xb_1.c1; have lb_1 : w.heap.size < w1.heap.size := (by omega); have cd0_1 := Xd_1.c0; have cd1_1 := Xd_1.c1; have cd2_1 := Xd_1.c2; have cd3_1 := Xd_1.c3; have ld_1 : w.heap.size + 1 < w1.heap.size := (by omega)) | (go_at_call 17; (with_reducible refine (alive8_any _).mono ?_); rintro e wA ⟨rfl, hbA⟩))
    go_ret
    exact ⟨rfl, hB1.trans (hbA.mono hB1.size)⟩
  have e1 : chkE x00 n01 = 0 := by simp [chkE, hok]
  simp only [e1] at hC
  clear e1
  obtain ⟨hn0, hn1, hxl, hval⟩ := okB_iff.1 hok
  have hby := byte_of r00.rd
  have hv0 := val_nonneg hby
  have hll := r00.hl
  by_cases t0 : 500 < n01
  · have f0 : (500 < n01) = True := eq_true t0
    go_enter Try.func6, Try.ntmps6
    go_wp2_with (first | ((with_reducible refine (hC _ (r00.same ((below2 w _ _)))).mono ?_); rintro e w1 ⟨rfl, hb1⟩; rw [size2] at hb1; have z1 := hb1.size; rw [size2] at z1; have hq1 : Below w.heap.size w w1 := (below2 w _ _).trans (hb1.mono (by omega)); have hB1 := hq1; have Xb_1 := (Box2.of (blk2a w _ _)).below hb1 (by omega); have Xd_1 := (Box4.of (blk2 w _ _)).below hb1 (by omega); have cb0_1 := Xb_1.c0; have cb1_1 := Xb_1.c1; have lb_1 : w.heap.size < w1.heap.size := (by omega); have cd0_1 := Xd_1.c0; have cd1_1 := Xd_1.c1; have cd2_1 := Xd_1.c2; have cd3_1 := Xd_1.c3; have ld_1 : w.heap.size + 1 < w1.heap.size := (by omega)) | (go_at_call 17; (with_reducible refine (alive8_any _).mono ?_); rintro e wA ⟨rfl, hbA⟩))
    go_ret
    exact ⟨rfl, hB1.trans (hbA.mono hB1.size)⟩
  have f0 : (500 < n01) = False := eq_false t0
  by_cases h : okD ⟨n10, n11, n12, n13⟩ = true
  case neg =>
    rw [show chD ⟨n10, n11, n12, n13⟩ = 8 by unfold chD; rw [if_neg h]] at hCD
    clear hok hd h hxl hval hby hv0
    go_enter Try.func6, Try.ntmps6
    go_wp2_with (first | ((with_reducible refine (hC _ (r00.same ((below2 w _ _)))).mono ?_); rintro e w1 ⟨rfl, hb1⟩; rw [size2] at hb1; have z1 := hb1.size; rw [size2] at z1; have hq1 : Below w.heap.size w w1 := (below2 w _ _).trans (hb1.mono (by omega)); have hB1 := hq1; have Xb_1 := (Box2.of (blk2a w _ _)).below hb1 (by omega); have Xd_1 := (Box4.of (blk2 w _ _)).below hb1 (by omega); have cb0_1 := Xb_1.c0; have cb1_1 := Xb_1.c1; have lb_1 : w.heap.size < w1.heap.size := (by omega); have cd0_1 := Xd_1.c0; have cd1_1 := Xd_1.c1; have cd2_1 := Xd_1.c2; have cd3_1 := Xd_1.c3; have ld_1 : w.heap.size + 1 < w1.heap.size := (by omega)) | ((with_reducible refine (hCD _ ).mono ?_); rintro e w2 ⟨rfl, hb2⟩; have z2 := hb2.size; have hq2 : Below w1.heap.size w1 w2 := (Below.refl _ w1).trans (hb2.mono (by omega)); have hB2 := hB1.trans (hq2.mono hB1.size); have Xb_2 := Xb_1.below hq2 (by omega); have Xd_2 := Xd_1.below hq2 (by omega); have cb0_2 := Xb_2.c0; have cb1_2 := Xb_2.c1; have lb_2 : w.heap.size < w2.heap.size := (by omega); have cd0_2 := Xd_2.c0; have cd1_2 := Xd_2.c1; have cd2_2 := Xd_2.c2; have cd3_2 := Xd_2.c3; have ld_2 : w.heap.size + 1 < w2.heap.size := (by omega); clear cb0_1 cb1_1 lb_1 Xb_1 cd0_1 cd1_1 cd2_1 cd3_1 ld_1 Xd_1) | (go_at_call 17; (with_reducible refine (alive8_any _).mono ?_); rintro e wA ⟨rfl, hbA⟩))
    go_ret
    exact ⟨rfl, hB2.trans (hbA.mono hB2.size)⟩
  rw [show chD ⟨n10, n11, n12, n13⟩ = 0 by unfold chD; rw [if_pos h]] at hCD
  by_cases t2 : 12 < (l2 : Int)
  · have f2 : (12 < (l2 : Int)) = True := eq_true t2
    go_enter Try.func6, Try.ntmps6
    go_wp2_with (first | ((with_reducible refine (hC _ (r00.same ((below2 w _ _)))).mono ?_); rintro e w1 ⟨rfl, hb1⟩; rw [size2] at hb1; have z1 := hb1.size; rw [size2] at z1; have hq1 : Below w.heap.size w w1 := (below2 w _ _).trans (hb1.mono (by omega)); have hB1 := hq1; have Xb_1 := (Box2.of (blk2a w _ _)).below hb1 (by omega); have Xd_1 := (Box4.of (blk2 w _ _)).below hb1 (by omega); have cb0_1 := Xb_1.c0; have cb1_1 := Xb_1.c1; have lb_1 : w.heap.size < w1.heap.size := (by omega); have cd0_1 := Xd_1.c0; have cd1_1 := Xd_1.c1; have cd2_1 := Xd_1.c2; have cd3_1 := Xd_1.c3; have ld_1 : w.heap.size + 1 < w1.heap.size := (by omega)) | ((with_reducible refine (hCD _ ).mono ?_); rintro e w2 ⟨rfl, hb2⟩; have z2 := hb2.size; have hq2 : Below w1.heap.size w1 w2 := (Below.refl _ w1).trans (hb2.mono (by omega)); have hB2 := hB1.trans (hq2.mono hB1.size); have Xb_2 := Xb_1.below hq2 (by omega); have Xd_2 := Xd_1.below hq2 (by omega); have cb0_2 := Xb_2.c0; have cb1_2 := Xb_2.c1; have lb_2 : w.heap.size < w2.heap.size := (by omega); have cd0_2 := Xd_2.c0; have cd1_2 := Xd_2.c1; have cd2_2 := Xd_2.c2; have cd3_2 := Xd_2.c3; have ld_2 : w.heap.size + 1 < w2.heap.size := (by omega); clear cb0_1 cb1_1 lb_1 Xb_1 cd0_1 cd1_1 cd2_1 cd3_1 ld_1 Xd_1) | (go_at_call 17; (with_reducible refine (alive8_any _).mono ?_); rintro e wA ⟨rfl, hbA⟩))
    go_ret
    exact ⟨rfl, hB2.trans (hbA.mono hB2.size)⟩
  have f2 : (12 < (l2 : Int)) = False := eq_false t2
  have hxe := ok_eq hby hok
  obtain ⟨V, hV⟩ : ∃ V, val x00 = V := ⟨_, rfl⟩
  rw [hV] at hval hv0 hxe
  have HX := hid hxe
  have hlen2 := r2.hl
  have HL2 := hid hlen2
  have hll12 : x2.length ≤ 12 := by omega
  have hU := okV_of r2.rd.2.2
  obtain ⟨D, hD⟩ : ∃ D : D4, D = ⟨n10, n11, n12, n13⟩ := ⟨_, rfl⟩
  rw [← hD] at h hd
  have HOK := hid (And.intro hd h)
  have HD := hid hD
  clear hV hxl hby hok hxe hlen2 hD hd h
  go_enter Try.func6, Try.ntmps6
  go_wp2_with (first | ((with_reducible refine (hC _ (r00.same ((below2 w _ _)))).mono ?_); rintro e w1 ⟨rfl, hb1⟩; rw [size2] at hb1; have z1 := hb1.size; rw [size2] at z1; have hq1 : Below w.heap.size w w1 := (below2 w _ _).trans (hb1.mono (by omega)); have hB1 := hq1; have Xb_1 := (Box2.of (blk2a w _ _)).below hb1 (by omega); have Xd_1 := (Box4.of (blk2 w _ _)).below hb1 (by omega); have cb0_1 := Xb_1.c0; have cb1_1 := Xb_1.c1; have lb_1 : w.heap.size < w1.heap.size := (by omega); have cd0_1 := Xd_1.c0; have cd1_1 := Xd_1.c1; have cd2_1 := Xd_1.c2; have cd3_1 := Xd_1.c3; have ld_1 : w.heap.size + 1 < w1.heap.size := (by omega)) | ((with_reducible refine (hCD _ ).mono ?_); rintro e w2 ⟨rfl, hb2⟩; have z2 := hb2.size; have hq2 : Below w1.heap.size w1 w2 := (Below.refl _ w1).trans (hb2.mono (by omega)); have hB2 := hB1.trans (hq2.mono hB1.size); have Xb_2 := Xb_1.below hq2 (by omega); have Xd_2 := Xd_1.below hq2 (by omega); have cb0_2 := Xb_2.c0; have cb1_2 := Xb_2.c1; have lb_2 : w.heap.size < w2.heap.size := (by omega); have cd0_2 := Xd_2.c0; have cd1_2 := Xd_2.c1; have cd2_2 := Xd_2.c2; have cd3_2 := Xd_2.c3; have ld_2 : w.heap.size + 1 < w2.heap.size := (by omega); clear cb0_1 cb1_1 lb_1 Xb_1 cd0_1 cd1_1 cd2_1 cd3_1 ld_1 Xd_1))
  go_cut [7, 8] (fun s7 s8 wx => ∃ G H, s7 = .pointer (some ⟨G, 0, none⟩) ∧ s8 = .pointer (some ⟨H, 0, none⟩) ∧ w2.heap.size ≤ G ∧ w2.heap.size ≤ H ∧ G < wx.heap.size ∧ H < wx.heap.size ∧ G ≠ H ∧ Box2 wx G (.slice a00 l00 c00) (.int .i64 n01) ∧ Box4 wx H (.int .i64 n10) (.int .i64 n11) (.int .u64 n12) (.int .u64 n13) ∧ Below w2.heap.size w2 wx)
  case first =>
    go_region
    all_goals (try go_wp2_with fail)
    all_goals go_meet
    all_goals
      first
        | exact ⟨w2.heap.size, w2.heap.size + 1, rfl, rfl, Nat.le_refl _, Nat.le_succ _, by show w2.heap.size < ((w2.alloc (.cells #[.slice a00 l00 c00, .int .i64 n01] 24)).alloc (.cells #[.int .i64 n10, .int .i64 n11, .int .u64 n12, .int .u64 n13] 30)).heap.size; rw [size2]; omega, by show w2.heap.size + 1 < ((w2.alloc (.cells #[.slice a00 l00 c00, .int .i64 n01] 24)).alloc (.cells #[.int .i64 n10, .int .i64 n11, .int .u64 n12, .int .u64 n13] 30)).heap.size; rw [size2]; omega, by omega, (Box2.of (blk2a w2 (.cells #[.slice a00 l00 c00, .int .i64 n01] 24) (.cells #[.int .i64 n10, .int .i64 n11, .int .u64 n12, .int .u64 n13] 30))).drew, (Box4.of (blk2 w2 (.cells #[.slice a00 l00 c00, .int .i64 n01] 24) (.cells #[.int .i64 n10, .int .i64 n11, .int .u64 n12, .int .u64 n13] 30))).drew, (below2 w2 (.cells #[.slice a00 l00 c00, .int .i64 n01] 24) (.cells #[.int .i64 n10, .int .i64 n11, .int .u64 n12, .int .u64 n13] 30)).drew⟩
        | exact ⟨w2.heap.size + 1, w2.heap.size, rfl, rfl, Nat.le_succ _, Nat.le_refl _, by show w2.heap.size + 1 < ((w2.alloc (.cells #[.int .i64 n10, .int .i64 n11, .int .u64 n12, .int .u64 n13] 30)).alloc (.cells #[.slice a00 l00 c00, .int .i64 n01] 24)).heap.size; rw [size2]; omega, by show w2.heap.size < ((w2.alloc (.cells #[.int .i64 n10, .int .i64 n11, .int .u64 n12, .int .u64 n13] 30)).alloc (.cells #[.slice a00 l00 c00, .int .i64 n01] 24)).heap.size; rw [size2]; omega, by omega, (Box2.of (blk2 w2 (.cells #[.int .i64 n10, .int .i64 n11, .int .u64 n12, .int .u64 n13] 30) (.cells #[.slice a00 l00 c00, .int .i64 n01] 24))).drew, (Box4.of (blk2a w2 (.cells #[.int .i64 n10, .int .i64 n11, .int .u64 n12, .int .u64 n13] 30) (.cells #[.slice a00 l00 c00, .int .i64 n01] 24))).drew, (below2 w2 (.cells #[.int .i64 n10, .int .i64 n11, .int .u64 n12, .int .u64 n13] 30) (.cells #[.slice a00 l00 c00, .int .i64 n01] 24)).drew⟩
  case rest =>
    obtain ⟨G, H, rfl, rfl, gG, gH, lG, lH, hGH, XG, XH, hbe⟩ := hcut
    have Xb := Xb_2.below hbe lb_2
    have Xd := Xd_2.below hbe ld_2
    have hBc := hB2.trans (hbe.mono hB2.size)
    have hGw : w.heap.size + 2 ≤ G := by omega
    have hHw : w.heap.size + 2 ≤ H := by omega
    clear hbe hB1 hB2 hb1 hb2 hq1 hq2 z1 z2 Xb_2 Xd_2 cb0_2 cb1_2 cd0_2 cd1_2 cd2_2 cd3_2 lb_2 ld_2 gG gH hC hCD
    go_wp2_with fail
    go_loopw [9] (fun t wr => ∃ i : Nat, i ≤ l2 ∧ t = .int .i64 i ∧ Box2 wr w.heap.size (.slice a00 l00 c00) (.int .i64 n01) ∧ Box4 wr (w.heap.size + 1) (.int .i64 n10) (.int .i64 n11) (.int .u64 n12) (.int .u64 n13) ∧ Below w.heap.size w wr ∧ G < wr.heap.size ∧ H < wr.heap.size ∧
      ∃ N L a' cap' len' S, N = jN n01 (pcd D (x2.take i)) ∧ L = bl N (jV V n01 (pcd D (x2.take i))) ∧ S = stI D (x2.take i) ∧ Box2 wr G (.slice a' len' cap') (.int .i64 N) ∧ RowIn .u8 wr a' len' cap' L ∧ Box4 wr H (.int .i64 S.a) (.int .i64 S.b) (.int .u64 S.s) (.int .u64 S.t)) (fun t _ => l2 - (intOf t).toNat)
    case atStart =>
      refine ⟨0, by omega, by go_num, Xb, Xd, hBc, lG, lH, n01, x00, a00, c00, l00, D, ?_, ?_, ?_, XG, r00.same hBc, ?_⟩
      · rw [List.take_zero, pcd, (j_nil V n01).1]
      · rw [List.take_zero, pcd, (j_nil V n01).2]; exact HX.out
      · rw [List.take_zero, stI]
      · rw [HD.out]; exact XH
    case round =>
      obtain ⟨i, hi, rfl, Xb', Xd', hBr, lGr, lHr, N, L, a', cap', len', S, eN, eL, eS, XG', hrow, XH'⟩ := hrel
      clear Xb Xd hBc lG lH XG XH
      have hpo := pcd_ok HOK.out.1 HOK.out.2 (okV_take hU i)
      have hti : (pcd D (x2.take i)).length ≤ 12 := by rw [pcd_len, List.length_take]; omega
      have hNb := j_bd (m := 81) (by omega) hn0 hv0 hval hpo
      rw [← eN] at hNb
      have hNi : n01 ≤ N ∧ N ≤ 2000 := by omega
      obtain ⟨hSok, hSd⟩ := stI_ok HOK.out.1 HOK.out.2 (okV_take hU i)
      rw [← eS] at hSok hSd
      by_cases hlt : i < l2
      · obtain ⟨b, off, rfl, cc⟩ := r2.rd.cells (by intro h; have := HL2.out; rw [h] at this; simp at this; omega)
        have hix : i < x2.length := by rw [HL2.out]; exact hlt
        have d1 := cc i hix
        have hvb := bd_u32 (getD_wf8 r2.rd.2.2 hix)
        have htk := take_snoc hix
        obtain ⟨v, hv⟩ : ∃ m, x2.getD i 0 = m := ⟨_, rfl⟩
        rw [hv] at d1 hvb htk
        have d1 : wr.cell? ⟨b, off + i, none⟩ = some (.int .u32 v) := cell_below8 d1 hBr (World.block_lt_of_cell? w _ d1)
        have hlb : b < wr.heap.size := World.block_lt_of_cell? wr _ d1
        have hvU : isU v := hvb
        have esn : pcd D (x2.take (i + 1)) = pcd D (x2.take i) ++ [(duS S v, duV S v)] := by rw [htk, pcd_snoc, ← eS]
        have est : stI D (x2.take (i + 1)) = learnD S v := by rw [htk, stI_snoc, ← eS]
        obtain ⟨wE, wL, wN, wD, wS⟩ := pd_write (v := v) (s := S) hn0 (by omega) hv0 hval hpo (by omega) hvU hSok
        rw [← eN, ← eL] at wE wL wN wD
        rw [← eN, ← esn] at wS
        rw [← esn] at wL wN
        have hpo2 := pcd_ok HOK.out.1 HOK.out.2 (okV_take hU (i + 1))
        have hti2 : (pcd D (x2.take (i + 1))).length = i + 1 := by rw [pcd_len, List.length_take]; omega
        have hit : (pcd D (x2.take (i + 1))).take i = pcd D (x2.take i) := by rw [pcd_take, List.take_take, Nat.min_eq_left (by omega)]
        have hat : (pcd D (x2.take (i + 1)))[i]? = some (duS S v, duV S v) := by
          have hlen : (pcd D (x2.take i)).length = i := by rw [pcd_len, List.length_take]; omega
          rw [esn, List.getElem?_append_right (by omega), hlen, Nat.sub_self]; rfl
        obtain ⟨rE, rN, rX, rD⟩ := pd_read (v := v) (s := S) (i := i) hn0 (by omega) hv0 hval hpo2 (by omega) (by omega) hat hvU hSok
        rw [hit, ← eN] at rE rN rX rD
        rw [List.take_of_length_le (Nat.le_of_eq hti2)] at rX
        have hz := duS_bd hSok hvU
        obtain ⟨hTok, hTd⟩ := learn_ok hSd hSok hvU
        have hLen := fun w' => dlen_any S v w' hSd hvU
        have hLn := fun w' => learn_any S v w' hSd hvU
        have hCT := fun w' => rcheckD_any (learnD S v) w' hTd
        rw [show chD (learnD S v) = 0 by unfold chD; rw [if_pos hTok]] at hCT
        rw [show chD S = 0 by unfold chD; rw [if_pos hSok], show dlN S v = duS S v by unfold dlN; rw [if_pos hSok]] at hLen
        rw [show chD S = 0 by unfold chD; rw [if_pos hSok], show lnD S v = learnD S v by unfold lnD; rw [if_pos hSok]] at hLn
        have hW := fun w' hb => dwr_any a' len' cap' L N S v w' (hrow.same (w' := w') hb) (isInt_small (by omega) (by omega)) hSd hvU
        simp only [wE, wL, wN, wD] at hW
        obtain ⟨L2, hL2⟩ : ∃ x, bl (jN n01 (pcd D (x2.take (i + 1)))) (jV V n01 (pcd D (x2.take (i + 1)))) = x := ⟨_, rfl⟩
        obtain ⟨N2, hN2⟩ : ∃ x, jN n01 (pcd D (x2.take (i + 1))) = x := ⟨_, rfl⟩
        obtain ⟨Z, hZ⟩ : ∃ x, duS S v = x := ⟨_, rfl⟩
        obtain ⟨T, hT⟩ : ∃ x, learnD S v = x := ⟨_, rfl⟩
        simp only [hL2] at hW rE rN rX rD
        simp only [hN2] at hW rE rN rX rD wS hL2
        simp only [hZ] at hLen wS hz
        simp only [hT] at hLn hCT hW rD est
        have hRd := fun a3 q3 w' (r : RowIn .u8 w' a3 L2.length q3 L2) => drd_any a3 L2.length q3 L2 N2 N S w' r (isInt_small (by omega) (by omega)) (isInt_small (by omega) (by omega)) hSd
        simp only [rE, rN, rX, rD] at hRd
        have HE := hid (And.intro hL2 hN2)
        have HT := hid est
        clear hL2 hN2
        subst wS
        clear wE wL wN wD rE rN rX rD hZ hT eN eL eS esn est hpo hpo2 hat hit hti hti2 htk cc hv hSok hSd hTok hTd hNb
        obtain ⟨sa, sb, ss, st⟩ := S
        obtain ⟨ta, tb, ts, tt⟩ := T
        unfold bv at hW hRd
        unfold dv at hLen hLn hCT hW hRd
        simp only at hLen hLn hCT hW hRd XH'
        have hi12 : (i : Int) < l2 := by omega
        obtain ⟨g0, g1, gf0, gf1⟩ := XG'
        obtain ⟨h0, h1, h2, h3, hf0, hf1, hf2, hf3⟩ := XH'
        go_wp2_with fail
        go_cut [10, 11] (fun s10 s11 wx => s10 = .int .i64 Z ∧ s11 = .int .i64 0 ∧ Below wr.heap.size wr wx)
        case first =>
          as_aux_lemma =>
            go_region_with (go_at_call 12; (with_reducible refine (hLen _).mono ?_); rintro e w3 ⟨rfl, hb3⟩; have hbW : Below wr.heap.size wr w3 := ((Below.refl wr.heap.size wr).drew).trans (hb3.mono (Nat.le_refl _)))
            all_goals (try go_wp2_with fail)
            all_goals go_meet
            all_goals exact ⟨rfl, rfl, hbW⟩
        case rest =>
          obtain ⟨rfl, rfl, hb1⟩ := hcut
          obtain ⟨y1, ey1⟩ : ∃ x, x = wc := ⟨_, rfl⟩
          subst ey1
          obtain ⟨gn0, gn1, gnf0, gnf1⟩ := (Box2.mk g0 g1 gf0 gf1).below hb1 lGr; obtain ⟨hn0, hn1, hn2, hn3, hnf0, hnf1, hnf2, hnf3⟩ := (Box4.mk h0 h1 h2 h3 hf0 hf1 hf2 hf3).below hb1 lHr; clear g0 gf0 g1 gf1 h0 hf0 h1 hf1 h2 hf2 h3 hf3; have g0 := gn0; have gf0 := gnf0; have g1 := gn1; have gf1 := gnf1; have h0 := hn0; have hf0 := hnf0; have h1 := hn1; have hf1 := hnf1; have h2 := hn2; have hf2 := hnf2; have h3 := hn3; have hf3 := hnf3; clear gn0 gnf0 gn1 gnf1 hn0 hnf0 hn1 hnf1 hn2 hnf2 hn3 hnf3
          have d1 : y1.cell? ⟨b, off + i, none⟩ = some (.int .u32 v) := cell_below8 d1 hb1 hlb
          have hs1 := hb1.size
          have lb1 : b < y1.heap.size := by omega
          have lG1 : G < y1.heap.size := by omega
          have lH1 : H < y1.heap.size := by omega
          clear hLen
          go_wp2_with fail
          go_cut [12, 13] (fun s12 s13 wx => ∃ K, s12 = .pointer (some ⟨K, 0, none⟩) ∧ s13 = .int .i64 0 ∧ y1.heap.size ≤ K ∧ K < wx.heap.size ∧ Box4 wx K (.int .i64 ta) (.int .i64 tb) (.int .u64 ts) (.int .u64 tt) ∧ Below y1.heap.size y1 wx)
          case first =>
            as_aux_lemma =>
              go_region_with (first  | (go_at_call 11; (with_reducible refine (hLn y1.drew).mono ?_); rintro e w3 ⟨rfl, hb3⟩; have hbW : Below y1.heap.size y1 w3 := ((Below.refl y1.heap.size y1).drew).trans (hb3.mono (Nat.le_refl _)))  | (go_at_call 11; (with_reducible refine (hLn (y1.alloc (.cells #[.int .i64 0, .int .i64 0, .int .u64 0, .int .u64 0] 30)).drew).mono ?_); rintro e w3 ⟨rfl, hb3⟩; have hbW : Below y1.heap.size y1 w3 := ((below1 y1 (.cells #[.int .i64 0, .int .i64 0, .int .u64 0, .int .u64 0] 30)).drew).trans (hb3.mono (show y1.heap.size ≤ (y1.alloc (.cells #[.int .i64 0, .int .i64 0, .int .u64 0, .int .u64 0] 30)).heap.size by rw [size1]; omega)); obtain ⟨cc0, cc1, cc2, cc3, ccf0, ccf1, ccf2, ccf3⟩ := (Box4.of (blk1 y1 (.cells #[.int .i64 0, .int .i64 0, .int .u64 0, .int .u64 0] 30))).drew.below hb3 (show y1.heap.size < (y1.alloc (.cells #[.int .i64 0, .int .i64 0, .int .u64 0, .int .u64 0] 30)).heap.size by rw [size1]; omega)))
              all_goals (try go_wp2_with fail)
              all_goals go_meet
              all_goals
                first
                  | exact ⟨w3.heap.size, rfl, rfl, hbW.size, by rw [size1]; omega, Box4.of (blk1 w3 (.cells #[.int .i64 ta, .int .i64 tb, .int .u64 ts, .int .u64 tt] 30)), hbW.trans ((below1 w3 (.cells #[.int .i64 ta, .int .i64 tb, .int .u64 ts, .int .u64 tt] 30)).mono hbW.size)⟩
                  | exact ⟨y1.heap.size, rfl, rfl, Nat.le_refl _, by simp only [World.size_setCell]; exact Box4.lt (Box4.mk cc0 cc1 cc2 cc3 ccf0 ccf1 ccf2 ccf3), Box4.putAll (Box4.mk cc0 cc1 cc2 cc3 ccf0 ccf1 ccf2 ccf3) _ _ _ _, Below.set4 hbW (Nat.le_refl _) _ _ _ _⟩
          case rest =>
            obtain ⟨K, rfl, rfl, gK, lK, XK, hb2⟩ := hcut
            obtain ⟨y2, ey2⟩ : ∃ x, x = wc := ⟨_, rfl⟩
            subst ey2
            obtain ⟨gn0, gn1, gnf0, gnf1⟩ := (Box2.mk g0 g1 gf0 gf1).below hb2 (Nat.lt_of_lt_of_le lGr hs1); obtain ⟨hn0, hn1, hn2, hn3, hnf0, hnf1, hnf2, hnf3⟩ := (Box4.mk h0 h1 h2 h3 hf0 hf1 hf2 hf3).below hb2 (Nat.lt_of_lt_of_le lHr hs1); clear g0 gf0 g1 gf1 h0 hf0 h1 hf1 h2 hf2 h3 hf3; have g0 := gn0; have gf0 := gnf0; have g1 := gn1; have gf1 := gnf1; have h0 := hn0; have hf0 := hnf0; have h1 := hn1; have hf1 := hnf1; have h2 := hn2; have hf2 := hnf2; have h3 := hn3; have hf3 := hnf3; clear gn0 gnf0 gn1 gnf1 hn0 hnf0 hn1 hnf1 hn2 hnf2 hn3 hnf3
            have d1 : y2.cell? ⟨b, off + i, none⟩ = some (.int .u32 v) := cell_below8 d1 hb2 (Nat.lt_of_lt_of_le hlb hs1)
            have hs2 := hb2.size
            have hb02 : Below wr.heap.size wr y2 := hb1.trans (hb2.mono hs1)
            have lb2 : b < y2.heap.size := by omega
            have lG2 : G < y2.heap.size := by omega
            have lH2 : H < y2.heap.size := by omega
            have lb2' : b < y2.heap.size + 1 := by omega
            have lG2' : G < y2.heap.size + 1 := by omega
            have lH2' : H < y2.heap.size + 1 := by omega
            clear hLn
            go_wp2_with fail
            go_cut [14, 15, 16] (fun s14 s15 s16 wx => ∃ K1 K2 a3 q3, s14 = .pointer (some ⟨K1, 0, none⟩) ∧ s15 = .pointer (some ⟨K2, 0, none⟩) ∧ s16 = .int .i64 0 ∧ y2.heap.size ≤ K1 ∧ y2.heap.size ≤ K2 ∧ K1 < wx.heap.size ∧ K2 < wx.heap.size ∧ Box2 wx K1 (.slice a3 L2.length q3) (.int .i64 (N + Z)) ∧ Box4 wx K2 (.int .i64 ta) (.int .i64 tb) (.int .u64 ts) (.int .u64 tt) ∧ RowIn .u8 wx a3 L2.length q3 L2 ∧ Fresh wr a3 ∧ Below y2.heap.size y2 wx)
            case first =>
              as_aux_lemma =>
                have nG0 : G ≠ y2.heap.size := by omega
                have nG1 : G ≠ y2.heap.size + 1 := by omega
                have nH0 : H ≠ y2.heap.size := by omega
                have nH1 : H ≠ y2.heap.size + 1 := by omega
                have nb0 : b ≠ y2.heap.size := by omega
                have nb1 : b ≠ y2.heap.size + 1 := by omega
                go_region_held3 (fun w' => w'.cell? ⟨G, 0, none⟩ = some (.slice a' len' cap') ∧ w'.cell? ⟨G, 1, none⟩ = some (.int .i64 N) ∧ w'.cell? ⟨H, 0, none⟩ = some (.int .i64 sa) ∧ w'.cell? ⟨H, 1, none⟩ = some (.int .i64 sb) ∧ w'.cell? ⟨H, 2, none⟩ = some (.int .u64 ss) ∧ w'.cell? ⟨H, 3, none⟩ = some (.int .u64 st) ∧ w'.cell? ⟨b, off + i, none⟩ = some (.int .u32 v)) (first | (simp only [kS, kA, kD, World.size_setCell, World.size_alloc, ne_eq, not_false_eq_true, and_self, nG0, nG1, nH0, nH1, nb0, nb1, gG, gH, gb, gG', gH', gb', s0, s1, s2, s3, s4, s5, s6]; done) | (simp only [kA, kD, World.size_setCell, World.size_alloc, and_self, g0, g1, h0, h1, h2, h3, d1, lG2, lH2, lb2, lG2', lH2', lb2']; done))  (first | (go_at_call 13; (with_reducible refine (hW y2.drew (hb02.trans ((Below.refl y2.heap.size y2).drew.mono hb02.size))).mono ?_); rintro e w3 ⟨a3, q3, rfl, rr3, hb3, F3⟩; have hwz : y2.heap.size + 0 ≤ w3.heap.size := (by have t : y2.heap.size ≤ w3.heap.size := hb3.size; exact t); have hbW : Below y2.heap.size y2 w3 := (Below.refl y2.heap.size y2).drew.trans (hb3.mono (show y2.heap.size ≤ y2.heap.size by omega)); have Fwr : Fresh wr a3 := F3.lift (show wr.heap.size ≤ y2.heap.size by exact hb02.size); have s0 := cell_below8 g0 hbW lG2; have s1 := cell_below8 g1 hbW lG2; have s2 := cell_below8 h0 hbW lH2; have s3 := cell_below8 h1 hbW lH2; have s4 := cell_below8 h2 hbW lH2; have s5 := cell_below8 h3 hbW lH2; have s6 := cell_below8 d1 hbW lb2; have gG : G < w3.heap.size := Nat.lt_of_lt_of_le lG2 hbW.size; have gH : H < w3.heap.size := Nat.lt_of_lt_of_le lH2 hbW.size; have gb : b < w3.heap.size := Nat.lt_of_lt_of_le lb2 hbW.size; have gG' := Nat.lt_succ_of_lt gG; have gH' := Nat.lt_succ_of_lt gH; have gb' := Nat.lt_succ_of_lt gb) | (go_at_call 13; (with_reducible refine (hW (y2.alloc (.cells #[.slice none 0 0, .int .i64 0] 24)).drew (hb02.trans ((below1 y2 (.cells #[.slice none 0 0, .int .i64 0] 24)).drew.mono hb02.size))).mono ?_); rintro e w3 ⟨a3, q3, rfl, rr3, hb3, F3⟩; have hwz : y2.heap.size + 1 ≤ w3.heap.size := (by have t : (y2.alloc (.cells #[.slice none 0 0, .int .i64 0] 24)).heap.size ≤ w3.heap.size := hb3.size; rw [size1] at t; exact t); have hbW : Below y2.heap.size y2 w3 := (below1 y2 (.cells #[.slice none 0 0, .int .i64 0] 24)).drew.trans (hb3.mono (show y2.heap.size ≤ (y2.alloc (.cells #[.slice none 0 0, .int .i64 0] 24)).heap.size by rw [size1]; omega)); have Fwr : Fresh wr a3 := F3.lift (show wr.heap.size ≤ (y2.alloc (.cells #[.slice none 0 0, .int .i64 0] 24)).heap.size by rw [size1]; have := hb02.size; omega); have hwl0 : y2.heap.size < w3.heap.size := (by omega); have Yp := (Box2.of (blk1 y2 (.cells #[.slice none 0 0, .int .i64 0] 24))).drew.below hb3 (show y2.heap.size < (y2.alloc (.cells #[.slice none 0 0, .int .i64 0] 24)).heap.size by rw [size1]; omega); have pc0 := Yp.c0; have pf0 := Yp.f0; have pc1 := Yp.c1; have pf1 := Yp.f1; have Bp := Blk2.of Yp; have nep := F3.ne (g := y2.heap.size) (show y2.heap.size < (y2.alloc (.cells #[.slice none 0 0, .int .i64 0] 24)).heap.size by rw [size1]; omega); have s0 := cell_below8 g0 hbW lG2; have s1 := cell_below8 g1 hbW lG2; have s2 := cell_below8 h0 hbW lH2; have s3 := cell_below8 h1 hbW lH2; have s4 := cell_below8 h2 hbW lH2; have s5 := cell_below8 h3 hbW lH2; have s6 := cell_below8 d1 hbW lb2; have gG : G < w3.heap.size := Nat.lt_of_lt_of_le lG2 hbW.size; have gH : H < w3.heap.size := Nat.lt_of_lt_of_le lH2 hbW.size; have gb : b < w3.heap.size := Nat.lt_of_lt_of_le lb2 hbW.size; have gG' := Nat.lt_succ_of_lt gG; have gH' := Nat.lt_succ_of_lt gH; have gb' := Nat.lt_succ_of_lt gb) | (go_at_call 13; (with_reducible refine (hW (y2.alloc (.cells #[.int .i64 0, .int .i64 0, .int .u64 0, .int .u64 0] 30)).drew (hb02.trans ((below1 y2 (.cells #[.int .i64 0, .int .i64 0, .int .u64 0, .int .u64 0] 30)).drew.mono hb02.size))).mono ?_); rintro e w3 ⟨a3, q3, rfl, rr3, hb3, F3⟩; have hwz : y2.heap.size + 1 ≤ w3.heap.size := (by have t : (y2.alloc (.cells #[.int .i64 0, .int .i64 0, .int .u64 0, .int .u64 0] 30)).heap.size ≤ w3.heap.size := hb3.size; rw [size1] at t; exact t); have hbW : Below y2.heap.size y2 w3 := (below1 y2 (.cells #[.int .i64 0, .int .i64 0, .int .u64 0, .int .u64 0] 30)).drew.trans (hb3.mono (show y2.heap.size ≤ (y2.alloc (.cells #[.int .i64 0, .int .i64 0, .int .u64 0, .int .u64 0] 30)).heap.size by rw [size1]; omega)); have Fwr : Fresh wr a3 := F3.lift (show wr.heap.size ≤ (y2.alloc (.cells #[.int .i64 0, .int .i64 0, .int .u64 0, .int .u64 0] 30)).heap.size by rw [size1]; have := hb02.size; omega); have hwl0 : y2.heap.size < w3.heap.size := (by omega); have Yy := (Box4.of (blk1 y2 (.cells #[.int .i64 0, .int .i64 0, .int .u64 0, .int .u64 0] 30))).drew.below hb3 (show y2.heap.size < (y2.alloc (.cells #[.int .i64 0, .int .i64 0, .int .u64 0, .int .u64 0] 30)).heap.size by rw [size1]; omega); have yc0 := Yy.c0; have yf0 := Yy.f0; have yc1 := Yy.c1; have yf1 := Yy.f1; have yc2 := Yy.c2; have yf2 := Yy.f2; have yc3 := Yy.c3; have yf3 := Yy.f3; have By := Blk4.of Yy; have ney := F3.ne (g := y2.heap.size) (show y2.heap.size < (y2.alloc (.cells #[.int .i64 0, .int .i64 0, .int .u64 0, .int .u64 0] 30)).heap.size by rw [size1]; omega); have s0 := cell_below8 g0 hbW lG2; have s1 := cell_below8 g1 hbW lG2; have s2 := cell_below8 h0 hbW lH2; have s3 := cell_below8 h1 hbW lH2; have s4 := cell_below8 h2 hbW lH2; have s5 := cell_below8 h3 hbW lH2; have s6 := cell_below8 d1 hbW lb2; have gG : G < w3.heap.size := Nat.lt_of_lt_of_le lG2 hbW.size; have gH : H < w3.heap.size := Nat.lt_of_lt_of_le lH2 hbW.size; have gb : b < w3.heap.size := Nat.lt_of_lt_of_le lb2 hbW.size; have gG' := Nat.lt_succ_of_lt gG; have gH' := Nat.lt_succ_of_lt gH; have gb' := Nat.lt_succ_of_lt gb) | (go_at_call 13; (with_reducible refine (hW ((y2.alloc (.cells #[.slice none 0 0, .int .i64 0] 24)).alloc (.cells #[.int .i64 0, .int .i64 0, .int .u64 0, .int .u64 0] 30)).drew (hb02.trans ((below2 y2 (.cells #[.slice none 0 0, .int .i64 0] 24) (.cells #[.int .i64 0, .int .i64 0, .int .u64 0, .int .u64 0] 30)).drew.mono hb02.size))).mono ?_); rintro e w3 ⟨a3, q3, rfl, rr3, hb3, F3⟩; have hwz : y2.heap.size + 2 ≤ w3.heap.size := (by have t : ((y2.alloc (.cells #[.slice none 0 0, .int .i64 0] 24)).alloc (.cells #[.int .i64 0, .int .i64 0, .int .u64 0, .int .u64 0] 30)).heap.size ≤ w3.heap.size := hb3.size; rw [size2] at t; exact t); have hbW : Below y2.heap.size y2 w3 := (below2 y2 (.cells #[.slice none 0 0, .int .i64 0] 24) (.cells #[.int .i64 0, .int .i64 0, .int .u64 0, .int .u64 0] 30)).drew.trans (hb3.mono (show y2.heap.size ≤ ((y2.alloc (.cells #[.slice none 0 0, .int .i64 0] 24)).alloc (.cells #[.int .i64 0, .int .i64 0, .int .u64 0, .int .u64 0] 30)).heap.size by rw [size2]; omega)); have Fwr : Fresh wr a3 := F3.lift (show wr.heap.size ≤ ((y2.alloc (.cells #[.slice none 0 0, .int .i64 0] 24)).alloc (.cells #[.int .i64 0, .int .i64 0, .int .u64 0, .int .u64 0] 30)).heap.size by rw [size2]; have := hb02.size; omega); have hwl0 : y2.heap.size < w3.heap.size := (by omega); have hwl1 : y2.heap.size + 1 < w3.heap.size := (by omega); have Yp := (Box2.of (blk2a y2 (.cells #[.slice none 0 0, .int .i64 0] 24) (.cells #[.int .i64 0, .int .i64 0, .int .u64 0, .int .u64 0] 30))).drew.below hb3 (show y2.heap.size < ((y2.alloc (.cells #[.slice none 0 0, .int .i64 0] 24)).alloc (.cells #[.int .i64 0, .int .i64 0, .int .u64 0, .int .u64 0] 30)).heap.size by rw [size2]; omega); have pc0 := Yp.c0; have pf0 := Yp.f0; have pc1 := Yp.c1; have pf1 := Yp.f1; have Bp := Blk2.of Yp; have nep := F3.ne (g := y2.heap.size) (show y2.heap.size < ((y2.alloc (.cells #[.slice none 0 0, .int .i64 0] 24)).alloc (.cells #[.int .i64 0, .int .i64 0, .int .u64 0, .int .u64 0] 30)).heap.size by rw [size2]; omega); have Yy := (Box4.of (blk2 y2 (.cells #[.slice none 0 0, .int .i64 0] 24) (.cells #[.int .i64 0, .int .i64 0, .int .u64 0, .int .u64 0] 30))).drew.below hb3 (show y2.heap.size + 1 < ((y2.alloc (.cells #[.slice none 0 0, .int .i64 0] 24)).alloc (.cells #[.int .i64 0, .int .i64 0, .int .u64 0, .int .u64 0] 30)).heap.size by rw [size2]; omega); have yc0 := Yy.c0; have yf0 := Yy.f0; have yc1 := Yy.c1; have yf1 := Yy.f1; have yc2 := Yy.c2; have yf2 := Yy.f2; have yc3 := Yy.c3; have yf3 := Yy.f3; have By := Blk4.of Yy; have ney := F3.ne (g := y2.heap.size + 1) (show y2.heap.size + 1 < ((y2.alloc (.cells #[.slice none 0 0, .int .i64 0] 24)).alloc (.cells #[.int .i64 0, .int .i64 0, .int .u64 0, .int .u64 0] 30)).heap.size by rw [size2]; omega); have s0 := cell_below8 g0 hbW lG2; have s1 := cell_below8 g1 hbW lG2; have s2 := cell_below8 h0 hbW lH2; have s3 := cell_below8 h1 hbW lH2; have s4 := cell_below8 h2 hbW lH2; have s5 := cell_below8 h3 hbW lH2; have s6 := cell_below8 d1 hbW lb2; have gG : G < w3.heap.size := Nat.lt_of_lt_of_le lG2 hbW.size; have gH : H < w3.heap.size := Nat.lt_of_lt_of_le lH2 hbW.size; have gb : b < w3.heap.size := Nat.lt_of_lt_of_le lb2 hbW.size; have gG' := Nat.lt_succ_of_lt gG; have gH' := Nat.lt_succ_of_lt gH; have gb' := Nat.lt_succ_of_lt gb) | (go_at_call 13; (with_reducible refine (hW ((y2.alloc (.cells #[.int .i64 0, .int .i64 0, .int .u64 0, .int .u64 0] 30)).alloc (.cells #[.slice none 0 0, .int .i64 0] 24)).drew (hb02.trans ((below2 y2 (.cells #[.int .i64 0, .int .i64 0, .int .u64 0, .int .u64 0] 30) (.cells #[.slice none 0 0, .int .i64 0] 24)).drew.mono hb02.size))).mono ?_); rintro e w3 ⟨a3, q3, rfl, rr3, hb3, F3⟩; have hwz : y2.heap.size + 2 ≤ w3.heap.size := (by have t : ((y2.alloc (.cells #[.int .i64 0, .int .i64 0, .int .u64 0, .int .u64 0] 30)).alloc (.cells #[.slice none 0 0, .int .i64 0] 24)).heap.size ≤ w3.heap.size := hb3.size; rw [size2] at t; exact t); have hbW : Below y2.heap.size y2 w3 := (below2 y2 (.cells #[.int .i64 0, .int .i64 0, .int .u64 0, .int .u64 0] 30) (.cells #[.slice none 0 0, .int .i64 0] 24)).drew.trans (hb3.mono (show y2.heap.size ≤ ((y2.alloc (.cells #[.int .i64 0, .int .i64 0, .int .u64 0, .int .u64 0] 30)).alloc (.cells #[.slice none 0 0, .int .i64 0] 24)).heap.size by rw [size2]; omega)); have Fwr : Fresh wr a3 := F3.lift (show wr.heap.size ≤ ((y2.alloc (.cells #[.int .i64 0, .int .i64 0, .int .u64 0, .int .u64 0] 30)).alloc (.cells #[.slice none 0 0, .int .i64 0] 24)).heap.size by rw [size2]; have := hb02.size; omega); have hwl0 : y2.heap.size < w3.heap.size := (by omega); have hwl1 : y2.heap.size + 1 < w3.heap.size := (by omega); have Yy := (Box4.of (blk2a y2 (.cells #[.int .i64 0, .int .i64 0, .int .u64 0, .int .u64 0] 30) (.cells #[.slice none 0 0, .int .i64 0] 24))).drew.below hb3 (show y2.heap.size < ((y2.alloc (.cells #[.int .i64 0, .int .i64 0, .int .u64 0, .int .u64 0] 30)).alloc (.cells #[.slice none 0 0, .int .i64 0] 24)).heap.size by rw [size2]; omega); have yc0 := Yy.c0; have yf0 := Yy.f0; have yc1 := Yy.c1; have yf1 := Yy.f1; have yc2 := Yy.c2; have yf2 := Yy.f2; have yc3 := Yy.c3; have yf3 := Yy.f3; have By := Blk4.of Yy; have ney := F3.ne (g := y2.heap.size) (show y2.heap.size < ((y2.alloc (.cells #[.int .i64 0, .int .i64 0, .int .u64 0, .int .u64 0] 30)).alloc (.cells #[.slice none 0 0, .int .i64 0] 24)).heap.size by rw [size2]; omega); have Yp := (Box2.of (blk2 y2 (.cells #[.int .i64 0, .int .i64 0, .int .u64 0, .int .u64 0] 30) (.cells #[.slice none 0 0, .int .i64 0] 24))).drew.below hb3 (show y2.heap.size + 1 < ((y2.alloc (.cells #[.int .i64 0, .int .i64 0, .int .u64 0, .int .u64 0] 30)).alloc (.cells #[.slice none 0 0, .int .i64 0] 24)).heap.size by rw [size2]; omega); have pc0 := Yp.c0; have pf0 := Yp.f0; have pc1 := Yp.c1; have pf1 := Yp.f1; have Bp := Blk2.of Yp; have nep := F3.ne (g := y2.heap.size + 1) (show y2.heap.size + 1 < ((y2.alloc (.cells #[.int .i64 0, .int .i64 0, .int .u64 0, .int .u64 0] 30)).alloc (.cells #[.slice none 0 0, .int .i64 0] 24)).heap.size by rw [size2]; omega); have s0 := cell_below8 g0 hbW lG2; have s1 := cell_below8 g1 hbW lG2; have s2 := cell_below8 h0 hbW lH2; have s3 := cell_below8 h1 hbW lH2; have s4 := cell_below8 h2 hbW lH2; have s5 := cell_below8 h3 hbW lH2; have s6 := cell_below8 d1 hbW lb2; have gG : G < w3.heap.size := Nat.lt_of_lt_of_le lG2 hbW.size; have gH : H < w3.heap.size := Nat.lt_of_lt_of_le lH2 hbW.size; have gb : b < w3.heap.size := Nat.lt_of_lt_of_le lb2 hbW.size; have gG' := Nat.lt_succ_of_lt gG; have gH' := Nat.lt_succ_of_lt gH; have gb' := Nat.lt_succ_of_lt gb) | fail)
                all_goals (try go_wp2_with fail)
                all_goals go_meet
                all_goals refine ⟨_, _, a3, q3, rfl, rfl, rfl, ?_, ?_, ?_, ?_, ?_, ?_, ?_, Fwr, ?_⟩
                all_goals first
                  | (with_reducible refine Nat.le_refl _)
                  | (((try simp only [World.size_setCell, World.size_alloc]); omega))
                  | ((repeat (first | with_reducible exact Bp | (with_reducible refine box2P ?_) | (with_reducible refine box2N (by (try simp only [World.size_setCell, World.size_alloc]); done)) | (with_reducible refine box2N (by simp only [World.size_setCell, World.size_alloc])) | (with_reducible refine box2N rfl) | (with_reducible refine box2A ?_) | (with_reducible refine box2S ?_ (by omega)) | (with_reducible refine blk2A ?_) | (with_reducible refine blk2S ?_ (by omega)))); done)
                  | ((repeat (first | with_reducible exact By | (with_reducible refine box4P ?_) | (with_reducible refine box4N (by (try simp only [World.size_setCell, World.size_alloc]); done)) | (with_reducible refine box4N (by simp only [World.size_setCell, World.size_alloc])) | (with_reducible refine box4N rfl) | (with_reducible refine box4A ?_) | (with_reducible refine box4S ?_ (by omega)) | (with_reducible refine blk4A ?_) | (with_reducible refine blk4S ?_ (by omega)))); done)
                  | ((repeat (first | with_reducible exact rr3 | (with_reducible refine rowA ?_) | (with_reducible refine rowS ?_ nep) | (with_reducible refine rowS ?_ ney))); done)
                  | ((repeat (first | with_reducible exact hbW | (with_reducible refine bS ?_ (by omega)) | (with_reducible refine bA ?_ (by (try simp only [World.size_setCell, World.size_alloc]); omega)))); done)
            case rest =>
              obtain ⟨K1, K2, a3, q3, rfl, rfl, rfl, gK1, gK2, lK1, lK2, X1, X2, rw3, F3, hb3⟩ := hcut
              obtain ⟨y3, ey3⟩ : ∃ x, x = wc := ⟨_, rfl⟩
              subst ey3
              have hs3 := hb3.size
              obtain ⟨gn0, gn1, gnf0, gnf1⟩ := (Box2.mk g0 g1 gf0 gf1).below hb3 (show G < y2.heap.size by omega); obtain ⟨hn0, hn1, hn2, hn3, hnf0, hnf1, hnf2, hnf3⟩ := (Box4.mk h0 h1 h2 h3 hf0 hf1 hf2 hf3).below hb3 (show H < y2.heap.size by omega); clear g0 gf0 g1 gf1 h0 hf0 h1 hf1 h2 hf2 h3 hf3; have g0 := gn0; have gf0 := gnf0; have g1 := gn1; have gf1 := gnf1; have h0 := hn0; have hf0 := hnf0; have h1 := hn1; have hf1 := hnf1; have h2 := hn2; have hf2 := hnf2; have h3 := hn3; have hf3 := hnf3; clear gn0 gnf0 gn1 gnf1 hn0 hnf0 hn1 hnf1 hn2 hnf2 hn3 hnf3
              have d1 : y3.cell? ⟨b, off + i, none⟩ = some (.int .u32 v) := cell_below8 d1 hb3 (show b < y2.heap.size by omega)
              obtain ⟨k0, k1, k2, k3, kf0, kf1, kf2, kf3⟩ := XK.below hb3 lK
              obtain ⟨p0, p1, pf0, pf1⟩ := X1
              obtain ⟨m0, m1, m2, m3, mf0, mf1, mf2, mf3⟩ := X2
              have hb03 : Below wr.heap.size wr y3 := hb02.trans (hb3.mono hb02.size)
              have lK3 : K < y3.heap.size := by omega
              have lb3 : b < y3.heap.size := by omega
              have lG3 : G < y3.heap.size := by omega
              have lH3 : H < y3.heap.size := by omega
              clear XK hW
              go_wp2_with (first  | ((with_reducible refine (hCT _).mono ?_); rintro e y4 ⟨rfl, hb4⟩; have hs4 := hb4.size; have hb4' := hb4; have rw4 := rw3.same hb4; have d4 : y4.cell? ⟨b, off + i, none⟩ = some (.int .u32 v) := cell_below8 d1 hb4 lb3; obtain ⟨gx0, gx1, gxf0, gxf1⟩ := (Box2.mk g0 g1 gf0 gf1).below hb4 lG3; obtain ⟨hx0, hx1, hx2, hx3, hxf0, hxf1, hxf2, hxf3⟩ := (Box4.mk h0 h1 h2 h3 hf0 hf1 hf2 hf3).below hb4 lH3; obtain ⟨kx0, kx1, kx2, kx3, kxf0, kxf1, kxf2, kxf3⟩ := (Box4.mk k0 k1 k2 k3 kf0 kf1 kf2 kf3).below hb4 lK3; obtain ⟨px0, px1, pxf0, pxf1⟩ := (Box2.mk p0 p1 pf0 pf1).below hb4 lK1; obtain ⟨mx0, mx1, mx2, mx3, mxf0, mxf1, mxf2, mxf3⟩ := (Box4.mk m0 m1 m2 m3 mf0 mf1 mf2 mf3).below hb4 lK2; clear g0 gf0 g1 gf1 h0 hf0 h1 hf1 h2 hf2 h3 hf3 k0 kf0 k1 kf1 k2 kf2 k3 kf3 p0 pf0 p1 pf1 m0 mf0 m1 mf1 m2 mf2 m3 mf3 d1)  | ((with_reducible refine (hRd _ _ _ rw4).mono ?_); rintro e y5 ⟨rfl, hb5⟩; have hs5 := hb5.size; have rw5 := rw4.same hb5; have d5 : y5.cell? ⟨b, off + i, none⟩ = some (.int .u32 v) := cell_below8 d4 hb5 (show b < y4.heap.size by omega); have lb5 : b < y5.heap.size := (by omega); have lG5 : G < y5.heap.size := (by omega); have lH5 : H < y5.heap.size := (by omega); have lK15 : K1 < y5.heap.size := (by omega); have lK25 : K2 < y5.heap.size := (by omega); obtain ⟨g0, g1, gf0, gf1⟩ := (Box2.mk gx0 gx1 gxf0 gxf1).below hb5 (by omega); obtain ⟨h0, h1, h2, h3, hf0, hf1, hf2, hf3⟩ := (Box4.mk hx0 hx1 hx2 hx3 hxf0 hxf1 hxf2 hxf3).below hb5 (by omega); obtain ⟨p0, p1, pf0, pf1⟩ := (Box2.mk px0 px1 pxf0 pxf1).below hb5 (by omega); obtain ⟨m0, m1, m2, m3, mf0, mf1, mf2, mf3⟩ := (Box4.mk mx0 mx1 mx2 mx3 mxf0 mxf1 mxf2 mxf3).below hb5 (by omega); clear gx0 gxf0 gx1 gxf1 hx0 hxf0 hx1 hxf1 hx2 hxf2 hx3 hxf3 kx0 kxf0 kx1 kxf1 kx2 kxf2 kx3 kxf3 px0 pxf0 px1 pxf1 mx0 mxf0 mx1 mxf1 mx2 mxf2 mx3 mxf3 d4))
              clear d5 hRd hCT rw3 rw4 hb4
              have hb05 : Below wr.heap.size wr y5 := hb03.trans ((hb4'.trans (hb5.mono hs4)).mono hb03.size)
              have hbe := below1 y5 (.cells #[.int .i64 ta, .int .i64 tb, .int .u64 ts, .int .u64 tt] 30)
              have rw6 := rw5.same hbe
              have Xg6 := (Box2.mk g0 g1 gf0 gf1).below hbe (show G < y5.heap.size by omega); have Xh6 := (Box4.mk h0 h1 h2 h3 hf0 hf1 hf2 hf3).below hbe (show H < y5.heap.size by omega); have Xp6 := (Box2.mk p0 p1 pf0 pf1).below hbe (show K1 < y5.heap.size by omega); have Xm6 := (Box4.mk m0 m1 m2 m3 mf0 mf1 mf2 mf3).below hbe (show K2 < y5.heap.size by omega)
              have hb06 : Below wr.heap.size wr (y5.alloc (.cells #[.int .i64 ta, .int .i64 tb, .int .u64 ts, .int .u64 tt] 30)) := hb05.trans (hbe.mono hb05.size)
              have hz6 := size1 y5 (.cells #[.int .i64 ta, .int .i64 tb, .int .u64 ts, .int .u64 tt] 30)
              generalize (y5.alloc (.cells #[.int .i64 ta, .int .i64 tb, .int .u64 ts, .int .u64 tt] 30)) = y6 at *
              clear g0 gf0 g1 gf1 h0 hf0 h1 hf1 h2 hf2 h3 hf3 p0 pf0 p1 pf1 m0 mf0 m1 mf1 m2 mf2 m3 mf3 hbe
              obtain ⟨g0, g1, gf0, gf1⟩ := Xg6
              obtain ⟨h0, h1, h2, h3, hf0, hf1, hf2, hf3⟩ := Xh6
              obtain ⟨p0, p1, pf0, pf1⟩ := Xp6
              obtain ⟨m0, m1, m2, m3, mf0, mf1, mf2, mf3⟩ := Xm6
              go_region
              all_goals
                go_wp2
                go_roundw
                case rel =>
                  have hBN := hBr.trans (hb06.mono hBr.size)
                  have c1 := b2_keep (p := .slice a3 L2.length q3) (q := .int .i64 (N + Z)) (r := .int .i64 ta) (s := .int .i64 tb) (t := .int .u64 ts) (z := .int .u64 tt) (Xb'.below hb06 (show w.heap.size < wr.heap.size by omega)) (show w.heap.size ≠ G by omega) (show w.heap.size ≠ H by omega)
                  have c2 := b4_keep (p := .slice a3 L2.length q3) (q := .int .i64 (N + Z)) (r := .int .i64 ta) (s := .int .i64 tb) (t := .int .u64 ts) (z := .int .u64 tt) (Xd'.below hb06 (show w.heap.size + 1 < wr.heap.size by omega)) (show w.heap.size + 1 ≠ G by omega) (show w.heap.size + 1 ≠ H by omega)
                  have c3 := below_keep (p := .slice a3 L2.length q3) (q := .int .i64 (N + Z)) (r := .int .i64 ta) (s := .int .i64 tb) (t := .int .u64 ts) (z := .int .u64 tt) hBN (show w.heap.size ≤ G by omega) (show w.heap.size ≤ H by omega)
                  have c4 := b2_put (p := .slice a3 L2.length q3) (q := .int .i64 (N + Z)) (r := .int .i64 ta) (s := .int .i64 tb) (t := .int .u64 ts) (z := .int .u64 tt) (Box2.mk g0 g1 gf0 gf1) hGH
                  have c5 := row_keep (p := .slice a3 L2.length q3) (q := .int .i64 (N + Z)) (r := .int .i64 ta) (s := .int .i64 tb) (t := .int .u64 ts) (z := .int .u64 tt) rw6 (F3.ne lGr) (F3.ne lHr)
                  have c6 := b4_put (p := .slice a3 L2.length q3) (q := .int .i64 (N + Z)) (r := .int .i64 ta) (s := .int .i64 tb) (t := .int .u64 ts) (z := .int .u64 tt) (Box4.mk h0 h1 h2 h3 hf0 hf1 hf2 hf3) (Ne.symm hGH)
                  first
                    | exact ⟨i + 1, by omega, by go_num, c1, c2, c3, by rw [size_keep]; omega, by rw [size_keep]; omega, N + Z, L2, a3, q3, L2.length, ⟨ta, tb, ts, tt⟩, HE.out.2.symm, HE.out.1.symm, HT.out.symm, c4, c5, c6⟩
                    | ((repeat apply Exists.intro); exact ⟨⟨i + 1, by omega, by go_num, c1, c2, c3, by rw [size_keep]; omega, by rw [size_keep]; omega, N + Z, L2, a3, q3, L2.length, ⟨ta, tb, ts, tt⟩, HE.out.2.symm, HE.out.1.symm, HT.out.symm, c4, c5, c6⟩, rfl⟩)
                case measure => simp [intOf]; omega
      · as_aux_lemma =>
          obtain ⟨wo, ewo⟩ : ∃ x, x = wr := ⟨_, rfl⟩
          subst ewo
          have htk : x2.take i = x2 := List.take_of_length_le (by rw [HL2.out]; omega)
          rw [htk] at eN eL eS
          have HEX := hid (And.intro eN (And.intro eL eS))
          have hnl : ((i : Int) < l2) = False := eq_false (by omega)
          clear eN eL eS htk hpo hti hNb
          obtain ⟨sa, sb, ss, st⟩ := S
          simp only at XH'
          obtain ⟨b0, b1, bf0, bf1⟩ := Xb'
          obtain ⟨d0, d1, d2, d3, df0, df1, df2, df3⟩ := Xd'
          obtain ⟨g0, g1, gf0, gf1⟩ := XG'
          obtain ⟨h0, h1, h2, h3, hf0, hf1, hf2, hf3⟩ := XH'
          have lw0 : w.heap.size < wo.heap.size := by omega
          have lw1 : w.heap.size + 1 < wo.heap.size := by omega
          go_wp2_with fail
          go_cut [21, 22] (fun s21 s22 wx => ∃ K, s21 = .int .i64 n01 ∧ s22 = .pointer (some ⟨K, 0, none⟩) ∧ wo.heap.size ≤ K ∧ K < wx.heap.size ∧ Box4 wx K (.int .i64 n10) (.int .i64 n11) (.int .u64 n12) (.int .u64 n13) ∧ Below wo.heap.size wo wx)
          case first =>
            go_region
            all_goals (try go_wp2_with fail)
            all_goals go_meet
            all_goals exact ⟨wo.heap.size, rfl, rfl, Nat.le_refl _, by show wo.heap.size < (wo.alloc (.cells #[.int .i64 n10, .int .i64 n11, .int .u64 n12, .int .u64 n13] 30)).heap.size; rw [size1]; omega, (Box4.of (blk1 wo (.cells #[.int .i64 n10, .int .i64 n11, .int .u64 n12, .int .u64 n13] 30))).drew, (below1 wo (.cells #[.int .i64 n10, .int .i64 n11, .int .u64 n12, .int .u64 n13] 30)).drew⟩
          case rest =>
            obtain ⟨K, rfl, rfl, gK, lK, XK, hb1⟩ := hcut
            clear b0 b1 bf0 bf1 d0 d1 d2 d3 df0 df1 df2 df3 hnl
            have hs1 := hb1.size
            go_wp2_with fail
            go_loopw [21, 23] (fun t u wv => ∃ k : Nat, k ≤ l2 ∧ t = .int .i64 (jN n01 (pcd D (x2.take k))) ∧ u = .int .i64 k ∧ K < wv.heap.size ∧ Below wo.heap.size wo wv ∧ ∃ T, T = stI D (x2.take k) ∧ Box4 wv K (.int .i64 T.a) (.int .i64 T.b) (.int .u64 T.s) (.int .u64 T.t)) (fun _ u _ => l2 - (intOf u).toNat)
            case atStart =>
              refine ⟨0, by omega, ?_, by go_num, lK, hb1, D, ?_, ?_⟩
              · rw [List.take_zero, pcd, (j_nil V n01).1]
              · rw [List.take_zero, stI]
              · rw [HD.out]; exact XK
            case round =>
              obtain ⟨k, hk, rfl, rfl, lKv, hbv, T, eT, XK'⟩ := hrel
              obtain ⟨wv, ewv⟩ : ∃ x, x = wr := ⟨_, rfl⟩
              subst ewv
              clear XK hb1 lK hs1
              have hsv := hbv.size
              have hrow2 := hrow.same hbv
              obtain ⟨g0', g1', gf0', gf1'⟩ := (Box2.mk g0 g1 gf0 gf1).below hbv lGr
              obtain ⟨h0', h1', h2', h3', hf0', hf1', hf2', hf3'⟩ := (Box4.mk h0 h1 h2 h3 hf0 hf1 hf2 hf3).below hbv lHr
              have hpo2 := pcd_ok HOK.out.1 HOK.out.2 (okV_take hU k)
              have hpoA := pcd_ok HOK.out.1 HOK.out.2 hU
              have hlA : (pcd D x2).length ≤ 12 := by rw [pcd_len]; omega
              have hlk : (pcd D (x2.take k)).length ≤ 12 := by rw [pcd_len, List.length_take]; omega
              have hAb := j_bd (m := 81) (by omega) hn0 hv0 hval hpo2
              have hNb := j_bd (m := 81) (by omega) hn0 hv0 hval hpoA
              rw [← HEX.out.1] at hNb
              have hAi : 0 ≤ jN n01 (pcd D (x2.take k)) ∧ jN n01 (pcd D (x2.take k)) ≤ 2000 := by omega
              have hNi : 0 ≤ N ∧ N ≤ 2000 := by omega
              clear hAb hNb hlk
              obtain ⟨hTok, hTd⟩ := stI_ok HOK.out.1 HOK.out.2 (okV_take hU k)
              rw [← eT] at hTok hTd
              by_cases hlt : k < l2
              · obtain ⟨b, off, rfl, cc⟩ := r2.rd.cells (by intro h; have := HL2.out; rw [h] at this; simp at this; omega)
                have hix : k < x2.length := by rw [HL2.out]; exact hlt
                have dd := cc k hix
                have hvb := bd_u32 (getD_wf8 r2.rd.2.2 hix)
                have hat := pcd_at (d := D) hix
                have htk := take_snoc hix
                rw [← eT] at hat
                obtain ⟨v, hv⟩ : ∃ m, x2.getD k 0 = m := ⟨_, rfl⟩
                rw [hv] at dd hvb hat htk
                have dd : wo.cell? ⟨b, off + k, none⟩ = some (.int .u32 v) := cell_below8 dd hBr (World.block_lt_of_cell? w _ dd)
                have hlb : b < wo.heap.size := World.block_lt_of_cell? wo _ dd
                have dd : wv.cell? ⟨b, off + k, none⟩ = some (.int .u32 v) := cell_below8 dd hbv hlb
                have lbv : b < wv.heap.size := by omega
                have lGv : G < wv.heap.size := by omega
                have lHv : H < wv.heap.size := by omega
                have hvU : isU v := hvb
                obtain ⟨rE, rN, rX, rD⟩ := pd_read (v := v) (s := T) (i := k) hn0 (by omega) hv0 hval hpoA (by omega) (by rw [pcd_len]; exact hix) hat hvU hTok
                rw [← HEX.out.1, ← HEX.out.2.1] at rE rN rX rD
                rw [pcd_take, pcd_take] at rX
                rw [pcd_take] at rE rN rD
                have est : stI D (x2.take (k + 1)) = learnD T v := by rw [htk, stI_snoc, ← eT]
                have hRd := fun w' (r : RowIn .u8 w' a' len' cap' L) => drd_any a' len' cap' L N (jN n01 (pcd D (x2.take k))) T w' r (isInt_small (by omega) (by omega)) (isInt_small (by omega) (by omega)) hTd
                simp only [rE, rN, rX, rD] at hRd
                clear rE rN rX rD hat htk cc hv hTok hTd hpo2 hpoA hlA eT
                obtain ⟨A, hA⟩ : ∃ x, jN n01 (pcd D (x2.take k)) = x := ⟨_, rfl⟩
                obtain ⟨A2, hA2⟩ : ∃ x, jN n01 (pcd D (x2.take (k + 1))) = x := ⟨_, rfl⟩
                obtain ⟨U, hU2⟩ : ∃ x, learnD T v = x := ⟨_, rfl⟩
                simp only [hA, hA2, hU2] at hRd est hAi
                simp only [hA]
                have HA2 := hid (And.intro hA2 est)
                clear hA hA2 hU2 est
                obtain ⟨ta, tb, ts, tt⟩ := T
                obtain ⟨ua, ub, us, ut⟩ := U
                unfold bv at hRd
                unfold dv at hRd
                simp only at hRd XK'
                have hk12 : (k : Int) < l2 := by omega
                obtain ⟨k0, k1, k2, k3, kf0, kf1, kf2, kf3⟩ := XK'
                go_wp2_with ((with_reducible refine (hRd _ hrow2).mono ?_); rintro e y1 ⟨rfl, hb1⟩; have hs1 := hb1.size; have d5 : y1.cell? ⟨b, off + k, none⟩ = some (.int .u32 v) := cell_below8 dd hb1 lbv; have lb1 : b < y1.heap.size := (by omega); have lK1 : K < y1.heap.size := (by omega); obtain ⟨q0, q1, q2, q3, qf0, qf1, qf2, qf3⟩ := (Box4.mk k0 k1 k2 k3 kf0 kf1 kf2 kf3).below hb1 lKv; clear k0 k1 k2 k3 kf0 kf1 kf2 kf3 dd g0 g1 gf0 gf1 h0 h1 h2 h3 hf0 hf1 hf2 hf3 g0' g1' gf0' gf1' h0' h1' h2' h3' hf0' hf1' hf2' hf3')
                have hbe := below1 y1 (.cells #[.int .i64 ua, .int .i64 ub, .int .u64 us, .int .u64 ut] 30)
                have hz6 := size1 y1 (.cells #[.int .i64 ua, .int .i64 ub, .int .u64 us, .int .u64 ut] 30)
                have XN := Box4.of (blk1 y1 (.cells #[.int .i64 ua, .int .i64 ub, .int .u64 us, .int .u64 ut] 30))
                have XK6 := (Box4.mk q0 q1 q2 q3 qf0 qf1 qf2 qf3).below hbe lK1
                have hb6 : Below wo.heap.size wo (y1.alloc (.cells #[.int .i64 ua, .int .i64 ub, .int .u64 us, .int .u64 ut] 30)) := (hbv.trans (hb1.mono hsv)).trans (hbe.mono (by omega))
                generalize (y1.alloc (.cells #[.int .i64 ua, .int .i64 ub, .int .u64 us, .int .u64 ut] 30)) = y6 at *
                clear q0 q1 q2 q3 qf0 qf1 qf2 qf3 hbe
                obtain ⟨q0, q1, q2, q3, qf0, qf1, qf2, qf3⟩ := XK6
                obtain ⟨z0, z1, z2, z3, zf0, zf1, zf2, zf3⟩ := XN
                go_region
                all_goals
                  go_wp2
                  go_roundw
                  case rel =>
                    have c1 := (Below.set4 hb6 gK (.int .i64 ua) (.int .i64 ub) (.int .u64 us) (.int .u64 ut)).drew
                    have c2 := (Box4.putAll (Box4.mk q0 q1 q2 q3 qf0 qf1 qf2 qf3) (.int .i64 ua) (.int .i64 ub) (.int .u64 us) (.int .u64 ut)).drew
                    have c3 : K < (((((y6.setCell ⟨K, 0, none⟩ (.int .i64 ua)).setCell ⟨K, 1, none⟩ (.int .i64 ub)).setCell ⟨K, 2, none⟩ (.int .u64 us)).setCell ⟨K, 3, none⟩ (.int .u64 ut)).drew).heap.size := by rw [size_drew8]; simp only [World.size_setCell]; omega
                    first
                      | exact ⟨k + 1, by omega, by rw [HA2.out.1], by go_num, c3, c1, ⟨ua, ub, us, ut⟩, HA2.out.2.symm, c2⟩
                      | ((repeat apply Exists.intro); exact ⟨⟨k + 1, by omega, by rw [HA2.out.1], by go_num, c3, c1, ⟨ua, ub, us, ut⟩, HA2.out.2.symm, c2⟩, rfl⟩)
                  case measure => simp [intOf]; omega
              · have htk : x2.take k = x2 := List.take_of_length_le (by rw [HL2.out]; omega)
                rw [htk, ← HEX.out.2.2] at eT
                rw [htk, ← HEX.out.1]
                subst eT
                simp only at XK'
                have hnl : ((k : Int) < l2) = False := eq_false (by omega)
                obtain ⟨k0, k1, k2, k3, kf0, kf1, kf2, kf3⟩ := XK'
                clear hTok hTd hpo2 hpoA hlA hAi htk
                go_wp2_with (go_at_call 17; (with_reducible refine (alive8_any _).mono ?_); rintro e wA ⟨rfl, hbA⟩)
                go_ret
                exact ⟨rfl, (hBr.trans (hbv.mono hBr.size)).trans (hbA.mono (by have := hBr.size; omega))⟩
end Go.Proofs.Ytbhoodhcipegbaa.Wk

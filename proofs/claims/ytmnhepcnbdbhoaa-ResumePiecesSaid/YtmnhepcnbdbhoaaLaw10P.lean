/- The law ResumePieces. -/
import Derived.Test.YtmnhepcnbdbhoaaLaw10F
import Derived.Test.YtmnhepcnbdbhoaaLaw10K
namespace Go.Proofs.Ytmnhepcnbdbhoaa.Wk
open Go.Proofs Go.RowKit Go.Proofs.Ytmnhepcnbdbhoaa.Kit Go.Proofs.Ytmnhepcnbdbhoaa.M01 Go.Proofs.Ytmnhepcnbdbhoaa.M02 Go.Proofs.Ytmnhepcnbdbhoaa.M05 Go.Proofs.Ytmnhepcnbdbhoaa.M06 Go.Proofs.Ytmnhepcnbdbhoaa.M07 Go.Proofs.Ytmnhepcnbdbhoaa.M08 Go.Proofs.Ytmnhepcnbdbhoaa.M10 Go.Proofs.Ytmnhepcnbdbhoaa.Bt Go.Proofs.Ytmnhepcnbdbhoaa.R02 Go.Proofs.Ytmnhepcnbdbhoaa.R10 Go.Proofs.Ytmnhepcnbdbhoaa.Rs
set_option linter.unusedVariables false
attribute [local irreducible] wpStill
set_option linter.unusedSimpArgs false


theorem feeds_eq (a : Option Addr) (len cap : Nat) (s : R4) (pa : Option Addr) (plen pcap : Nat) (ps : List (List Int)) (bs : List Int) (X : R4) (L : List Int) (E : Int) (w : World) (hr : RowIn .u8 w a len cap s.xs) (hi : isR s) (hok : okR s = true) (hp : Kit.RowsIn w pa plen pcap ps) (hbb : isByte bs) (hlen : bs.length ≤ 41000)
    (hfl : ps.flatten = bs) (hX : reR s bs = X) (hL : reV s bs = L) (hE : reE s bs = E) :
    Calls Try.prog 20 #[vR a len cap s, .slice pa plen pcap] w fun e w' => ∃ a1 c1 a2 c2, e = .returned (.tuple #[vR a1 X.xs.length c1 X, .slice a2 L.length c2, .int .i64 E]) ∧ RowIn .u8 w' a1 X.xs.length c1 X.xs ∧ RowIn .u32 w' a2 L.length c2 L ∧ Below w.heap.size w w' ∧ (X.xs ≠ [] → ∀ x, a1 = some x → (s.xs ≠ [] ∧ a = some x) ∨ w.heap.size ≤ x.block) ∧ Fresh w a2 := by
  subst hfl hX hL hE
  exact feeds_any a len cap s pa plen pcap ps w hr hi hok hp hbb hlen
theorem cell_below {w w' : World} {B : Nat} {a : Addr} {u : Value} (h : w.cell? a = some u) (hb : Below B w w') (hl : a.block < B) : w'.cell? a = some u := by rw [hb.cell hl]; exact h

set_option maxRecDepth 100000 in
set_option maxHeartbeats 8000000 in
theorem resumePieces_walk (n00 : Int) (n01 : Int) (n02 : Int) (n03 : Int) (n04 : Int) (a05 : Option Addr) (l05 c05 : Nat) (x05 : List Int) (n06 : Int) (a1 : Option Addr) (l1 c1 : Nat) (x1 : List Int) (a2 : Option Addr) (l2 c2 : Nat) (x2 : List Int) (w : World) (b00 : -9223372036854775808 ≤ n00 ∧ n00 ≤ 9223372036854775807) (b01 : -9223372036854775808 ≤ n01 ∧ n01 ≤ 9223372036854775807) (b02 : -9223372036854775808 ≤ n02 ∧ n02 ≤ 9223372036854775807) (b03 : 0 ≤ n03 ∧ n03 ≤ 18446744073709551615) (b04 : 0 ≤ n04 ∧ n04 ≤ 18446744073709551615) (r05 : RowIn .u8 w a05 l05 c05 x05) (b06 : -9223372036854775808 ≤ n06 ∧ n06 ≤ 9223372036854775807) (r1 : RowIn .u8 w a1 l1 c1 x1) (r2 : RowIn .i64 w a2 l2 c2 x2) :
    Calls Try.prog 5 #[.agg #[.int .i64 n00, .int .i64 n01, .int .i64 n02, .int .u64 n03, .int .u64 n04, .slice a05 l05 c05, .int .i64 n06], .slice a1 l1 c1, .slice a2 l2 c2] w fun e w' => e = .returned (.bool true) ∧ Below w.heap.size w w' := by
  have iS : isR ⟨n00, ⟨n01, n02, n03, n04⟩, x05, n06⟩ := ⟨b00, ⟨b01, b02, b03, b04⟩, byte_of r05.rd, b06⟩
  have h1 := r1.hl
  have h2 := r2.hl
  have hcc := r1.hc
  have hmm := r1.hm
  have hcc2 := r2.hc
  have hmm2 := r2.hm
  have hG := fun w' (r : RowIn .u8 w' a05 l05 c05 x05) => R02.great_any a05 l05 c05 x05 n06 w' r
  have hC := fun w' (r : RowIn .u8 w' a05 l05 c05 x05) => rchk10_any a05 l05 c05 ⟨n00, ⟨n01, n02, n03, n04⟩, x05, n06⟩ w' r iS
  unfold bv at hG
  unfold vR at hC
  simp only at hC
  cases hg : greatB l05
  case true =>
    simp only [hg] at hG
    clear hg hC
    go_enter Try.func5, Try.ntmps5
    go_wp2_with (first | ((with_reducible refine (hG _ (r05.same ((below1 w _)))).mono ?_); rintro e w1 ⟨rfl, hb1⟩; rw [size1] at hb1; have z1 := hb1.size; rw [size1] at z1; have hq1 : Below w.heap.size w w1 := (below1 w _).trans (hb1.mono (by omega)); have hB1 := hq1; have Xs_1 := (Box7.of (blk1 w _)).below hb1 (by omega); have cs0_1 := Xs_1.c0; have cs1_1 := Xs_1.c1; have cs2_1 := Xs_1.c2; have cs3_1 := Xs_1.c3; have cs4_1 := Xs_1.c4; have cs5_1 := Xs_1.c5; have cs6_1 := Xs_1.c6; have ls_1 : w.heap.size < w1.heap.size := (by omega)) | (go_at_call 14; (with_reducible refine (alive10_any _).mono ?_); rintro e wA ⟨rfl, hbA⟩))
    go_ret
    exact ⟨rfl, hB1.trans (hbA.mono hB1.size)⟩
  simp only [hg] at hG
  by_cases hok : okR ⟨n00, ⟨n01, n02, n03, n04⟩, x05, n06⟩ = true
  case neg =>
    rw [rcE, if_neg hok] at hC
    go_enter Try.func5, Try.ntmps5
    go_wp2_with (first | ((with_reducible refine (hG _ (r05.same ((below1 w _)))).mono ?_); rintro e w1 ⟨rfl, hb1⟩; rw [size1] at hb1; have z1 := hb1.size; rw [size1] at z1; have hq1 : Below w.heap.size w w1 := (below1 w _).trans (hb1.mono (by omega)); have hB1 := hq1; have Xs_1 := (Box7.of (blk1 w _)).below hb1 (by omega); have cs0_1 := Xs_1.c0; have cs1_1 := Xs_1.c1; have cs2_1 := Xs_1.c2; have cs3_1 := Xs_1.c3; have cs4_1 := Xs_1.c4; have cs5_1 := Xs_1.c5; have cs6_1 := Xs_1.c6; have ls_1 : w.heap.size < w1.heap.size := (by omega)) | ((with_reducible refine (hC _ (r05.same (hB1))).mono ?_); rintro e w2 ⟨rfl, hb2⟩; have z2 := hb2.size; have hq2 : Below w1.heap.size w1 w2 := (Below.refl _ w1).trans (hb2.mono (by omega)); have hB2 := hB1.trans (hq2.mono hB1.size); have Xs_2 := Xs_1.below hq2 (by omega); have cs0_2 := Xs_2.c0; have cs1_2 := Xs_2.c1; have cs2_2 := Xs_2.c2; have cs3_2 := Xs_2.c3; have cs4_2 := Xs_2.c4; have cs5_2 := Xs_2.c5; have cs6_2 := Xs_2.c6; have ls_2 : w.heap.size < w2.heap.size := (by omega); clear cs0_1 cs1_1 cs2_1 cs3_1 cs4_1 cs5_1 cs6_1 ls_1 Xs_1) | (go_at_call 14; (with_reducible refine (alive10_any _).mono ?_); rintro e wA ⟨rfl, hbA⟩))
    go_ret
    exact ⟨rfl, hB2.trans (hbA.mono hB2.size)⟩
  rw [rcE, if_pos hok] at hC
  by_cases t0 : 190 < (l1 : Int)
  · have f0 : (190 < (l1 : Int)) = True := eq_true t0
    go_enter Try.func5, Try.ntmps5
    go_wp2_with (first | ((with_reducible refine (hG _ (r05.same ((below1 w _)))).mono ?_); rintro e w1 ⟨rfl, hb1⟩; rw [size1] at hb1; have z1 := hb1.size; rw [size1] at z1; have hq1 : Below w.heap.size w w1 := (below1 w _).trans (hb1.mono (by omega)); have hB1 := hq1; have Xs_1 := (Box7.of (blk1 w _)).below hb1 (by omega); have cs0_1 := Xs_1.c0; have cs1_1 := Xs_1.c1; have cs2_1 := Xs_1.c2; have cs3_1 := Xs_1.c3; have cs4_1 := Xs_1.c4; have cs5_1 := Xs_1.c5; have cs6_1 := Xs_1.c6; have ls_1 : w.heap.size < w1.heap.size := (by omega)) | ((with_reducible refine (hC _ (r05.same (hB1))).mono ?_); rintro e w2 ⟨rfl, hb2⟩; have z2 := hb2.size; have hq2 : Below w1.heap.size w1 w2 := (Below.refl _ w1).trans (hb2.mono (by omega)); have hB2 := hB1.trans (hq2.mono hB1.size); have Xs_2 := Xs_1.below hq2 (by omega); have cs0_2 := Xs_2.c0; have cs1_2 := Xs_2.c1; have cs2_2 := Xs_2.c2; have cs3_2 := Xs_2.c3; have cs4_2 := Xs_2.c4; have cs5_2 := Xs_2.c5; have cs6_2 := Xs_2.c6; have ls_2 : w.heap.size < w2.heap.size := (by omega); clear cs0_1 cs1_1 cs2_1 cs3_1 cs4_1 cs5_1 cs6_1 ls_1 Xs_1) | (go_at_call 14; (with_reducible refine (alive10_any _).mono ?_); rintro e wA ⟨rfl, hbA⟩))
    go_ret
    exact ⟨rfl, hB2.trans (hbA.mono hB2.size)⟩
  have f0 : (190 < (l1 : Int)) = False := eq_false t0
  by_cases t1 : 20 < (l2 : Int)
  · have f1 : (20 < (l2 : Int)) = True := eq_true t1
    go_enter Try.func5, Try.ntmps5
    go_wp2_with (first | ((with_reducible refine (hG _ (r05.same ((below1 w _)))).mono ?_); rintro e w1 ⟨rfl, hb1⟩; rw [size1] at hb1; have z1 := hb1.size; rw [size1] at z1; have hq1 : Below w.heap.size w w1 := (below1 w _).trans (hb1.mono (by omega)); have hB1 := hq1; have Xs_1 := (Box7.of (blk1 w _)).below hb1 (by omega); have cs0_1 := Xs_1.c0; have cs1_1 := Xs_1.c1; have cs2_1 := Xs_1.c2; have cs3_1 := Xs_1.c3; have cs4_1 := Xs_1.c4; have cs5_1 := Xs_1.c5; have cs6_1 := Xs_1.c6; have ls_1 : w.heap.size < w1.heap.size := (by omega)) | ((with_reducible refine (hC _ (r05.same (hB1))).mono ?_); rintro e w2 ⟨rfl, hb2⟩; have z2 := hb2.size; have hq2 : Below w1.heap.size w1 w2 := (Below.refl _ w1).trans (hb2.mono (by omega)); have hB2 := hB1.trans (hq2.mono hB1.size); have Xs_2 := Xs_1.below hq2 (by omega); have cs0_2 := Xs_2.c0; have cs1_2 := Xs_2.c1; have cs2_2 := Xs_2.c2; have cs3_2 := Xs_2.c3; have cs4_2 := Xs_2.c4; have cs5_2 := Xs_2.c5; have cs6_2 := Xs_2.c6; have ls_2 : w.heap.size < w2.heap.size := (by omega); clear cs0_1 cs1_1 cs2_1 cs3_1 cs4_1 cs5_1 cs6_1 ls_1 Xs_1) | (go_at_call 14; (with_reducible refine (alive10_any _).mono ?_); rintro e wA ⟨rfl, hbA⟩))
    go_ret
    exact ⟨rfl, hB2.trans (hbA.mono hB2.size)⟩
  have f1 : (20 < (l2 : Int)) = False := eq_false t1
  have hbb := byte_of r1.rd
  have hF := fun w' (r : RowIn .u8 w' a05 l05 c05 x05) (r' : RowIn .u8 w' a1 l1 c1 x1) => feed_any a05 l05 c05 ⟨n00, ⟨n01, n02, n03, n04⟩, x05, n06⟩ a1 l1 c1 x1 w' r iS r'
  have e0 : reE ⟨n00, ⟨n01, n02, n03, n04⟩, x05, n06⟩ x1 = rvE ⟨n00, ⟨n01, n02, n03, n04⟩, x05, n06⟩ x1 := by rw [reE, if_pos hok, if_neg (by omega)]
  have HE := hid (rv_err iS hok hbb (by omega))
  have HV := hid (fun h => rv_ok iS hok hbb (by omega) h)
  have HU := hid (ru_all iS hok hbb (by omega))
  have HX := hid (fun (h : reE ⟨n00, ⟨n01, n02, n03, n04⟩, x05, n06⟩ x1 = 0) => (show reR ⟨n00, ⟨n01, n02, n03, n04⟩, x05, n06⟩ x1 = rvR _ x1 ∧ reV ⟨n00, ⟨n01, n02, n03, n04⟩, x05, n06⟩ x1 = ruL _ x1 by rw [reR, reV, h]; exact ⟨rfl, rfl⟩))
  rw [← e0] at HE HV
  obtain ⟨E, hE⟩ : ∃ E, reE ⟨n00, ⟨n01, n02, n03, n04⟩, x05, n06⟩ x1 = E := ⟨_, rfl⟩
  obtain ⟨XR, hXR⟩ : ∃ E, reR ⟨n00, ⟨n01, n02, n03, n04⟩, x05, n06⟩ x1 = E := ⟨_, rfl⟩
  obtain ⟨L, hL⟩ : ∃ E, reV ⟨n00, ⟨n01, n02, n03, n04⟩, x05, n06⟩ x1 = E := ⟨_, rfl⟩
  have hFS := fun pa pl pc ps w' hfl r hp => feeds_eq a05 l05 c05 ⟨n00, ⟨n01, n02, n03, n04⟩, x05, n06⟩ pa pl pc ps x1 XR L E w' r iS hok hp hbb (by omega) hfl hXR hL hE
  have hK := fun w' (r : RowIn .u8 w' a1 l1 c1 x1) (r' : RowIn .i64 w' a2 l2 c2 x2) => cut10_any a1 l1 c1 x1 a2 l2 c2 x2 w' r r' (by omega)
  have HQ : Hid ((E = 0 ∧ rcE XR = 0 ∧ IntKind.i64.wrap (XR.l + (L.length : Int)) = n00) ∨ E ≠ 0) := hid (by
    by_cases h : E = 0
    · left
      obtain ⟨v1, v2, -⟩ := HV.out (hE.trans h)
      obtain ⟨q1, q2⟩ := HX.out (hE.trans h)
      rw [← q1, hXR] at v1
      refine ⟨h, by rw [rcE, if_pos v1], ?_⟩
      have q3 := HU.out.2.2.2.2.2.1
      rw [← q2, hL] at q3
      have q3 : (L.length : Int) + ruK ⟨n00, ⟨n01, n02, n03, n04⟩, x05, n06⟩ x1 = n00 := q3
      rw [← hXR, q1, show (rvR ⟨n00, ⟨n01, n02, n03, n04⟩, x05, n06⟩ x1).l + (L.length : Int) = n00 by
        show ((ruK ⟨n00, ⟨n01, n02, n03, n04⟩, x05, n06⟩ x1 : Nat) : Int) + _ = n00; omega]
      exact Du.wrap_i64_id b00.1 b00.2
    · exact .inr h)
  have HXR : Hid (isR XR) := hid (by
    by_cases h : reE ⟨n00, ⟨n01, n02, n03, n04⟩, x05, n06⟩ x1 = 0
    · rw [← hXR, (HX.out h).1]; exact (HV.out h).2.1
    · rw [← hXR, reR, if_neg h]; exact ⟨by decide, ⟨by decide, by decide, by decide, by decide⟩, fun x hx => (by cases hx), by decide⟩)
  rw [hE, hXR, hL] at hF
  clear HE HV HU HX e0 hE hXR hL hg
  obtain ⟨xl, ⟨xa, xb, xs, xt⟩, X, xn⟩ := XR
  unfold vR at hF hFS
  simp only at hF hFS
  obtain ⟨lX, hlX⟩ : ∃ l, X.length = l := ⟨_, rfl⟩
  obtain ⟨lL, hlL⟩ : ∃ l, L.length = l := ⟨_, rfl⟩
  simp only [hlX, hlL] at hF hFS HQ
  clear hlX hlL hbb iS
  go_enter Try.func5, Try.ntmps5
  go_wp2_with (first | ((with_reducible refine (hG _ (r05.same ((below1 w _)))).mono ?_); rintro e w1 ⟨rfl, hb1⟩; rw [size1] at hb1; have z1 := hb1.size; rw [size1] at z1; have hq1 : Below w.heap.size w w1 := (below1 w _).trans (hb1.mono (by omega)); have hB1 := hq1; have Xs_1 := (Box7.of (blk1 w _)).below hb1 (by omega); have cs0_1 := Xs_1.c0; have cs1_1 := Xs_1.c1; have cs2_1 := Xs_1.c2; have cs3_1 := Xs_1.c3; have cs4_1 := Xs_1.c4; have cs5_1 := Xs_1.c5; have cs6_1 := Xs_1.c6; have ls_1 : w.heap.size < w1.heap.size := (by omega)) | ((with_reducible refine (hC _ (r05.same (hB1))).mono ?_); rintro e w2 ⟨rfl, hb2⟩; have z2 := hb2.size; have hq2 : Below w1.heap.size w1 w2 := (Below.refl _ w1).trans (hb2.mono (by omega)); have hB2 := hB1.trans (hq2.mono hB1.size); have Xs_2 := Xs_1.below hq2 (by omega); have cs0_2 := Xs_2.c0; have cs1_2 := Xs_2.c1; have cs2_2 := Xs_2.c2; have cs3_2 := Xs_2.c3; have cs4_2 := Xs_2.c4; have cs5_2 := Xs_2.c5; have cs6_2 := Xs_2.c6; have ls_2 : w.heap.size < w2.heap.size := (by omega); clear cs0_1 cs1_1 cs2_1 cs3_1 cs4_1 cs5_1 cs6_1 ls_1 Xs_1) | ((with_reducible refine (hF _ (r05.same (hB2)) (r1.same (hB2))).mono ?_); rintro e w3 ⟨a3, q3, p3, m3, rfl, h3, g3, hb3, -, -⟩; have Rx_3 := h3; have Rm_3 := g3; have z3 := hb3.size; have hq3 : Below w2.heap.size w2 w3 := (Below.refl _ w2).trans (hb3.mono (by omega)); have hB3 := hB2.trans (hq3.mono hB2.size); have Xs_3 := Xs_2.below hq3 (by omega); have cs0_3 := Xs_3.c0; have cs1_3 := Xs_3.c1; have cs2_3 := Xs_3.c2; have cs3_3 := Xs_3.c3; have cs4_3 := Xs_3.c4; have cs5_3 := Xs_3.c5; have cs6_3 := Xs_3.c6; have ls_3 : w.heap.size < w3.heap.size := (by omega); clear cs0_2 cs1_2 cs2_2 cs3_2 cs4_2 cs5_2 cs6_2 ls_2 Xs_2) | fail)
  have Sy := box7A (o := (.cells #[.int .i64 xl, .int .i64 xa, .int .i64 xb, .int .u64 xs, .int .u64 xt, .slice a3 lX q3, .int .i64 xn] 29)) Xs_3
  have Xy := Box7.of (blk1 w3 (.cells #[.int .i64 xl, .int .i64 xa, .int .i64 xb, .int .u64 xs, .int .u64 xt, .slice a3 lX q3, .int .i64 xn] 29))
  have rxy := rowA (o := (.cells #[.int .i64 xl, .int .i64 xa, .int .i64 xb, .int .u64 xs, .int .u64 xt, .slice a3 lX q3, .int .i64 xn] 29)) Rx_3
  have rmy := rowA (o := (.cells #[.int .i64 xl, .int .i64 xa, .int .i64 xb, .int .u64 xs, .int .u64 xt, .slice a3 lX q3, .int .i64 xn] 29)) Rm_3
  have hBy := bA (o := (.cells #[.int .i64 xl, .int .i64 xa, .int .i64 xb, .int .u64 xs, .int .u64 xt, .slice a3 lX q3, .int .i64 xn] 29)) hB3 hB3.size
  have zy := size1 w3 (.cells #[.int .i64 xl, .int .i64 xa, .int .i64 xb, .int .u64 xs, .int .u64 xt, .slice a3 lX q3, .int .i64 xn] 29)
  generalize w3.alloc (.cells #[.int .i64 xl, .int .i64 xa, .int .i64 xb, .int .u64 xs, .int .u64 xt, .slice a3 lX q3, .int .i64 xn] 29) = y at *
  obtain ⟨G, hG⟩ : ∃ G, w3.heap.size = G := ⟨_, rfl⟩
  simp only [hG] at Xy zy ⊢
  have lG : G < y.heap.size := by omega
  clear zy
  have lB : w.heap.size < y.heap.size := by have := hB3.size; rw [hG] at this; omega
  have nG : w.heap.size ≠ G := by have := ls_3; omega
  clear cs0_3 cs1_3 cs2_3 cs3_3 cs4_3 cs5_3 cs6_3 ls_3 Xs_3 Rx_3 Rm_3 hF hG
  have r1y := r1.same hBy
  have r2y := r2.same hBy
  have rSy := r05.same hBy
  have hS0 : x05 ≠ [] → ∀ x, a05 = some x → x.block < w.heap.size := fun h x hx => Co.row_lt r05 h x hx
  obtain ⟨s0, s1, s2, s3, s4, s5, s6, -, -, -, -, -, -, -⟩ := id Sy
  go_cut [10, 11, 12] (fun s10 s11 s12 wx => ∃ K1 a5 q5 a6 q6, s10 = .pointer (some ⟨K1, 0, none⟩) ∧ s11 = .slice a6 lL q6 ∧ s12 = .int .i64 E ∧ y.heap.size ≤ K1 ∧ K1 < wx.heap.size ∧ Box7 wx K1 (.int .i64 xl) (.int .i64 xa) (.int .i64 xb) (.int .u64 xs) (.int .u64 xt) (.slice a5 lX q5) (.int .i64 xn) ∧ RowIn .u8 wx a5 lX q5 X ∧ RowIn .u32 wx a6 lL q6 L ∧ Below y.heap.size y wx)
  case first =>
    have nn0 : w.heap.size ≠ y.heap.size := by omega
    have ll0 : w.heap.size < y.heap.size + 1 := Nat.lt_succ_of_lt lB
    go_region_held3 (fun w' => w'.cell? ⟨w.heap.size, 0, none⟩ = some (.int .i64 n00) ∧ w'.cell? ⟨w.heap.size, 1, none⟩ = some (.int .i64 n01) ∧ w'.cell? ⟨w.heap.size, 2, none⟩ = some (.int .i64 n02) ∧ w'.cell? ⟨w.heap.size, 3, none⟩ = some (.int .u64 n03) ∧ w'.cell? ⟨w.heap.size, 4, none⟩ = some (.int .u64 n04) ∧ w'.cell? ⟨w.heap.size, 5, none⟩ = some (.slice a05 l05 c05) ∧ w'.cell? ⟨w.heap.size, 6, none⟩ = some (.int .i64 n06)) (first | (simp only [kS, kA, kD, World.size_setCell, World.size_alloc, ne_eq, not_false_eq_true, and_self, nn0, nnc, nn3, gg, gh, st0, st1, st2, st3, st4, st5, st6]; done) | (simp only [kS, kA, kD, World.size_setCell, World.size_alloc, ne_eq, not_false_eq_true, and_self, nn0, nnc, gc, gd, ct0, ct1, ct2, ct3, ct4, ct5, ct6]; done) | (simp only [kA, kD, World.size_setCell, World.size_alloc, and_self, nn0, lB, ll0, s0, s1, s2, s3, s4, s5, s6]; done)) (first | (go_at_call 21; (with_reducible refine (hK y.drew (r1y.same (Below.refl y.heap.size y).drew) (r2y.same (Below.refl y.heap.size y).drew)).mono ?_); rintro e wc ⟨pa, pl, pc, ps, rfl, hps, hfl, hbc⟩; have hwzc : y.heap.size + 0 ≤ wc.heap.size := (by have t : y.heap.size ≤ wc.heap.size := hbc.size; exact t); have hbWc : Below y.heap.size y wc := (Below.refl y.heap.size y).drew.trans (hbc.mono (show y.heap.size ≤ y.heap.size by exact Nat.le_refl _)); have ct0 := cell_below s0 hbWc lB; have ct1 := cell_below s1 hbWc lB; have ct2 := cell_below s2 hbWc lB; have ct3 := cell_below s3 hbWc lB; have ct4 := cell_below s4 hbWc lB; have ct5 := cell_below s5 hbWc lB; have ct6 := cell_below s6 hbWc lB; have gc : w.heap.size < wc.heap.size := Nat.lt_of_lt_of_le lB hbWc.size; have gd := Nat.lt_succ_of_lt gc; have nnc : w.heap.size ≠ wc.heap.size := (by omega)) | (go_at_call 21; (with_reducible refine (hK (y.alloc (.cells #[.int .i64 0, .int .i64 0, .int .i64 0, .int .u64 0, .int .u64 0, .slice none 0 0, .int .i64 0] 29)).drew (r1y.same (below1 y (.cells #[.int .i64 0, .int .i64 0, .int .i64 0, .int .u64 0, .int .u64 0, .slice none 0 0, .int .i64 0] 29)).drew) (r2y.same (below1 y (.cells #[.int .i64 0, .int .i64 0, .int .i64 0, .int .u64 0, .int .u64 0, .slice none 0 0, .int .i64 0] 29)).drew)).mono ?_); rintro e wc ⟨pa, pl, pc, ps, rfl, hps, hfl, hbc⟩; have hwzc : y.heap.size + 1 ≤ wc.heap.size := (by have t : (y.alloc (.cells #[.int .i64 0, .int .i64 0, .int .i64 0, .int .u64 0, .int .u64 0, .slice none 0 0, .int .i64 0] 29)).heap.size ≤ wc.heap.size := hbc.size; rw [size1] at t; exact t); have hbWc : Below y.heap.size y wc := (below1 y (.cells #[.int .i64 0, .int .i64 0, .int .i64 0, .int .u64 0, .int .u64 0, .slice none 0 0, .int .i64 0] 29)).drew.trans (hbc.mono (show y.heap.size ≤ (y.alloc (.cells #[.int .i64 0, .int .i64 0, .int .i64 0, .int .u64 0, .int .u64 0, .slice none 0 0, .int .i64 0] 29)).heap.size by rw [size1]; omega)); have Yc := (Box7.of (blk1 y (.cells #[.int .i64 0, .int .i64 0, .int .i64 0, .int .u64 0, .int .u64 0, .slice none 0 0, .int .i64 0] 29))).drew.below hbc (show y.heap.size < (y.alloc (.cells #[.int .i64 0, .int .i64 0, .int .i64 0, .int .u64 0, .int .u64 0, .slice none 0 0, .int .i64 0] 29)).heap.size by rw [size1]; omega); have hlc : y.heap.size < wc.heap.size := (by omega); have yc0 := Yc.c0; have yf0 := Yc.f0; have yc1 := Yc.c1; have yf1 := Yc.f1; have yc2 := Yc.c2; have yf2 := Yc.f2; have yc3 := Yc.c3; have yf3 := Yc.f3; have yc4 := Yc.c4; have yf4 := Yc.f4; have yc5 := Yc.c5; have yf5 := Yc.f5; have yc6 := Yc.c6; have yf6 := Yc.f6; have ct0 := cell_below s0 hbWc lB; have ct1 := cell_below s1 hbWc lB; have ct2 := cell_below s2 hbWc lB; have ct3 := cell_below s3 hbWc lB; have ct4 := cell_below s4 hbWc lB; have ct5 := cell_below s5 hbWc lB; have ct6 := cell_below s6 hbWc lB; have gc : w.heap.size < wc.heap.size := Nat.lt_of_lt_of_le lB hbWc.size; have gd := Nat.lt_succ_of_lt gc; have nnc : w.heap.size ≠ wc.heap.size := (by omega)) | (have hh1 := Yc; go_at_call 20; (with_reducible refine (hFS pa pl pc ps wc hfl ((rSy.same hbWc).same (Below.refl wc.heap.size wc)) (hps.same (Below.refl wc.heap.size wc))).mono ?_); rintro e w3 ⟨a5, q5, a6, q6, rfl, rr3, rr4, hb3, hne3, F4⟩; have hwz : wc.heap.size + 0 ≤ w3.heap.size := (by have t : wc.heap.size ≤ w3.heap.size := hb3.size; exact t); have hbW : Below y.heap.size y w3 := hbWc.trans ((((Below.refl wc.heap.size wc)).trans (hb3.mono (show wc.heap.size ≤ wc.heap.size by exact Nat.le_refl _))).mono (by omega)); have Y0 := Yc.below hb3 hlc; have y0c0 := Y0.c0; have y0f0 := Y0.f0; have y0c1 := Y0.c1; have y0f1 := Y0.f1; have y0c2 := Y0.c2; have y0f2 := Y0.f2; have y0c3 := Y0.c3; have y0f3 := Y0.f3; have y0c4 := Y0.c4; have y0f4 := Y0.f4; have y0c5 := Y0.c5; have y0f5 := Y0.f5; have y0c6 := Y0.c6; have y0f6 := Y0.f6; have B0 := Blk7.of Y0; have hwl : y.heap.size < w3.heap.size := (by omega); have ne0 : X ≠ [] → ∀ x, a5 = some x → x.block ≠ y.heap.size := (fun h x hx => by rcases hne3 h x hx with q | q; (have := hS0 q.1 x q.2; omega); (have t : wc.heap.size ≤ x.block := q; omega)); have me0 : ∀ x, a6 = some x → x.block ≠ y.heap.size := (fun x hx => by have t : wc.heap.size ≤ x.block := F4 x hx; omega); have st0 := cell_below s0 hbW lB; have st1 := cell_below s1 hbW lB; have st2 := cell_below s2 hbW lB; have st3 := cell_below s3 hbW lB; have st4 := cell_below s4 hbW lB; have st5 := cell_below s5 hbW lB; have st6 := cell_below s6 hbW lB; have gg : w.heap.size < w3.heap.size := Nat.lt_of_lt_of_le lB hbW.size; have gh := Nat.lt_succ_of_lt gg; have nn3 : w.heap.size ≠ w3.heap.size := (by omega)) | (go_at_call 20; (with_reducible refine (hFS pa pl pc ps wc hfl ((rSy.same hbWc).same (Below.refl wc.heap.size wc)) (hps.same (Below.refl wc.heap.size wc))).mono ?_); rintro e w3 ⟨a5, q5, a6, q6, rfl, rr3, rr4, hb3, hne3, F4⟩; have hwz : wc.heap.size + 0 ≤ w3.heap.size := (by have t : wc.heap.size ≤ w3.heap.size := hb3.size; exact t); have hbW : Below y.heap.size y w3 := hbWc.trans ((((Below.refl wc.heap.size wc)).trans (hb3.mono (show wc.heap.size ≤ wc.heap.size by exact Nat.le_refl _))).mono (by omega)); have ne0 : True := trivial; have me0 : True := trivial; have B0 : True := trivial; have st0 := cell_below s0 hbW lB; have st1 := cell_below s1 hbW lB; have st2 := cell_below s2 hbW lB; have st3 := cell_below s3 hbW lB; have st4 := cell_below s4 hbW lB; have st5 := cell_below s5 hbW lB; have st6 := cell_below s6 hbW lB; have gg : w.heap.size < w3.heap.size := Nat.lt_of_lt_of_le lB hbW.size; have gh := Nat.lt_succ_of_lt gg; have nn3 : w.heap.size ≠ w3.heap.size := (by omega)) | (go_at_call 20; (with_reducible refine (hFS pa pl pc ps (wc.alloc (.cells #[.int .i64 0, .int .i64 0, .int .i64 0, .int .u64 0, .int .u64 0, .slice none 0 0, .int .i64 0] 29)) hfl ((rSy.same hbWc).same (below1 wc (.cells #[.int .i64 0, .int .i64 0, .int .i64 0, .int .u64 0, .int .u64 0, .slice none 0 0, .int .i64 0] 29))) (hps.same (below1 wc (.cells #[.int .i64 0, .int .i64 0, .int .i64 0, .int .u64 0, .int .u64 0, .slice none 0 0, .int .i64 0] 29)))).mono ?_); rintro e w3 ⟨a5, q5, a6, q6, rfl, rr3, rr4, hb3, hne3, F4⟩; have hwz : wc.heap.size + 1 ≤ w3.heap.size := (by have t : (wc.alloc (.cells #[.int .i64 0, .int .i64 0, .int .i64 0, .int .u64 0, .int .u64 0, .slice none 0 0, .int .i64 0] 29)).heap.size ≤ w3.heap.size := hb3.size; rw [size1] at t; exact t); have hbW : Below y.heap.size y w3 := hbWc.trans ((((below1 wc (.cells #[.int .i64 0, .int .i64 0, .int .i64 0, .int .u64 0, .int .u64 0, .slice none 0 0, .int .i64 0] 29))).trans (hb3.mono (show wc.heap.size ≤ (wc.alloc (.cells #[.int .i64 0, .int .i64 0, .int .i64 0, .int .u64 0, .int .u64 0, .slice none 0 0, .int .i64 0] 29)).heap.size by rw [size1]; omega))).mono (by omega)); have Y0 := (Box7.of (blk1 wc (.cells #[.int .i64 0, .int .i64 0, .int .i64 0, .int .u64 0, .int .u64 0, .slice none 0 0, .int .i64 0] 29))).below hb3 (show wc.heap.size < (wc.alloc (.cells #[.int .i64 0, .int .i64 0, .int .i64 0, .int .u64 0, .int .u64 0, .slice none 0 0, .int .i64 0] 29)).heap.size by rw [size1]; omega); have y0c0 := Y0.c0; have y0f0 := Y0.f0; have y0c1 := Y0.c1; have y0f1 := Y0.f1; have y0c2 := Y0.c2; have y0f2 := Y0.f2; have y0c3 := Y0.c3; have y0f3 := Y0.f3; have y0c4 := Y0.c4; have y0f4 := Y0.f4; have y0c5 := Y0.c5; have y0f5 := Y0.f5; have y0c6 := Y0.c6; have y0f6 := Y0.f6; have B0 := Blk7.of Y0; have hwl : wc.heap.size < w3.heap.size := (by omega); have ne0 : X ≠ [] → ∀ x, a5 = some x → x.block ≠ wc.heap.size := (fun h x hx => by rcases hne3 h x hx with q | q; (have := hS0 q.1 x q.2; omega); (have t : (wc.alloc (.cells #[.int .i64 0, .int .i64 0, .int .i64 0, .int .u64 0, .int .u64 0, .slice none 0 0, .int .i64 0] 29)).heap.size ≤ x.block := q; rw [size1] at t; omega)); have me0 : ∀ x, a6 = some x → x.block ≠ wc.heap.size := (fun x hx => by have t : (wc.alloc (.cells #[.int .i64 0, .int .i64 0, .int .i64 0, .int .u64 0, .int .u64 0, .slice none 0 0, .int .i64 0] 29)).heap.size ≤ x.block := F4 x hx; rw [size1] at t; omega); have st0 := cell_below s0 hbW lB; have st1 := cell_below s1 hbW lB; have st2 := cell_below s2 hbW lB; have st3 := cell_below s3 hbW lB; have st4 := cell_below s4 hbW lB; have st5 := cell_below s5 hbW lB; have st6 := cell_below s6 hbW lB; have gg : w.heap.size < w3.heap.size := Nat.lt_of_lt_of_le lB hbW.size; have gh := Nat.lt_succ_of_lt gg; have nn3 : w.heap.size ≠ w3.heap.size := (by omega)) | fail)
    all_goals (try go_wp2_with fail)
    all_goals go_meet
    all_goals refine ⟨_, a5, q5, a6, q6, rfl, rfl, rfl, ?_, ?_, ?_, ?_, ?_, ?_⟩
    all_goals first
      | (with_reducible refine Nat.le_refl _)
      | ((try simp only [World.size_setCell, World.size_alloc]); omega)
      | ((repeat (first | with_reducible exact B0 | (with_reducible refine box7P ?_) | (with_reducible refine box7N (by (try simp only [World.size_setCell, World.size_alloc]); done)) | (with_reducible refine box7N (by simp only [World.size_setCell, World.size_alloc])) | (with_reducible refine box7N rfl) | (with_reducible refine box7A ?_) | (with_reducible refine box7S ?_ (by omega)) | (with_reducible refine blk7A ?_) | (with_reducible refine blk7S ?_ (by omega)))); done)
      | ((repeat (first | with_reducible exact rr3 | (with_reducible refine rowA ?_) | (with_reducible refine rowK ?_ ne0))); done)
      | ((repeat (first | with_reducible exact rr4 | (with_reducible refine rowA ?_) | (with_reducible refine rowS ?_ me0))); done)
      | ((repeat (first | with_reducible exact hbW | (with_reducible refine bS ?_ (by omega)) | (with_reducible refine bA ?_ (by (try simp only [World.size_setCell, World.size_alloc]); omega)))); done)
  case rest =>
    obtain ⟨K1, a5, q5, a6, q6, rfl, rfl, rfl, gK, lK, Xy_5, Ry_5, Rk_5, hb5⟩ := hcut
    obtain ⟨w5, e5⟩ : ∃ x, x = wc := ⟨_, rfl⟩
    subst e5
    have Xs_5 := Sy.below hb5 lB
    have Xx_5 := Xy.below hb5 lG
    have Rx_5 := rxy.same hb5
    have Rm_5 := rmy.same hb5
    have hB5 := hBy.trans (hb5.mono (by omega))
    have z5 := hb5.size
    have cs0_5 := Xs_5.c0
    have cs1_5 := Xs_5.c1
    have cs2_5 := Xs_5.c2
    have cs3_5 := Xs_5.c3
    have cs4_5 := Xs_5.c4
    have cs5_5 := Xs_5.c5
    have cs6_5 := Xs_5.c6
    have cx0_5 := Xx_5.c0
    have cx1_5 := Xx_5.c1
    have cx2_5 := Xx_5.c2
    have cx3_5 := Xx_5.c3
    have cx4_5 := Xx_5.c4
    have cx5_5 := Xx_5.c5
    have cx6_5 := Xx_5.c6
    have cy0_5 := Xy_5.c0
    have cy1_5 := Xy_5.c1
    have cy2_5 := Xy_5.c2
    have cy3_5 := Xy_5.c3
    have cy4_5 := Xy_5.c4
    have cy5_5 := Xy_5.c5
    have cy6_5 := Xy_5.c6
    have ls_5 : w.heap.size < w5.heap.size := by omega
    have lx_5 : G < w5.heap.size := by omega
    have ly_5 : K1 < w5.heap.size := lK
    have es : sameR ⟨xl, ⟨xa, xb, xs, xt⟩, X, xn⟩ ⟨xl, ⟨xa, xb, xs, xt⟩, X, xn⟩ = true := sameR_self _ (by simp [sameB])
    have hSM := fun a q a' q' w' (r : RowIn .u8 w' a lX q X) (r' : RowIn .u8 w' a' lX q' X) => rsame10_any a lX q ⟨xl, ⟨xa, xb, xs, xt⟩, X, xn⟩ a' lX q' ⟨xl, ⟨xa, xb, xs, xt⟩, X, xn⟩ w' r r'
    have hT := fun a q a' q' w' (r : RowIn .u32 w' a lL q L) (r' : RowIn .u32 w' a' lL q' L) => same9b a lL q L a' lL q' L w' r r'
    have hCC := fun a q w' (r : RowIn .u8 w' a lX q X) => rchk10_any a lX q ⟨xl, ⟨xa, xb, xs, xt⟩, X, xn⟩ w' r HXR.out
    simp only [es] at hSM
    simp only [sameL_self] at hT
    unfold vR at hSM hCC
    simp only at hSM hCC
    clear Sy Xy rxy rmy hBy hFS hK r1y r2y rSy hS0 s0 s1 s2 s3 s4 s5 s6 es lB lG hC hG
    rcases HQ.out with ⟨rfl, hq1, ew⟩ | hE0
    · rw [hq1] at hCC
      clear hq1
      go_wp2_with (first | ((with_reducible refine (hSM _ _ _ _ _ Rx_5 Ry_5).mono ?_); rintro e w6 ⟨rfl, hb6⟩; have z6 := hb6.size; have hq6 : Below w5.heap.size w5 w6 := (Below.refl _ w5).trans (hb6.mono (by omega)); have hB6 := hB5.trans (hq6.mono hB5.size); have Xs_6 := Xs_5.below hq6 (by omega); have Xx_6 := Xx_5.below hq6 (by omega); have Xy_6 := Xy_5.below hq6 (by omega); have Rx_6 := Rx_5.same hq6; have Rm_6 := Rm_5.same hq6; have Ry_6 := Ry_5.same hq6; have Rk_6 := Rk_5.same hq6; have cs0_6 := Xs_6.c0; have cs1_6 := Xs_6.c1; have cs2_6 := Xs_6.c2; have cs3_6 := Xs_6.c3; have cs4_6 := Xs_6.c4; have cs5_6 := Xs_6.c5; have cs6_6 := Xs_6.c6; have ls_6 : w.heap.size < w6.heap.size := (by omega); have cx0_6 := Xx_6.c0; have cx1_6 := Xx_6.c1; have cx2_6 := Xx_6.c2; have cx3_6 := Xx_6.c3; have cx4_6 := Xx_6.c4; have cx5_6 := Xx_6.c5; have cx6_6 := Xx_6.c6; have lx_6 : G < w6.heap.size := (by omega); have cy0_6 := Xy_6.c0; have cy1_6 := Xy_6.c1; have cy2_6 := Xy_6.c2; have cy3_6 := Xy_6.c3; have cy4_6 := Xy_6.c4; have cy5_6 := Xy_6.c5; have cy6_6 := Xy_6.c6; have ly_6 : K1 < w6.heap.size := (by omega); clear cs0_5 cs1_5 cs2_5 cs3_5 cs4_5 cs5_5 cs6_5 ls_5 Xs_5 cx0_5 cx1_5 cx2_5 cx3_5 cx4_5 cx5_5 cx6_5 lx_5 Xx_5 cy0_5 cy1_5 cy2_5 cy3_5 cy4_5 cy5_5 cy6_5 ly_5 Xy_5) | ((with_reducible refine (hT _ _ _ _ _ Rm_6 Rk_6).mono ?_); rintro e w7 ⟨rfl, hb7⟩; have z7 := hb7.size; have hq7 : Below w6.heap.size w6 w7 := (Below.refl _ w6).trans (hb7.mono (by omega)); have hB7 := hB6.trans (hq7.mono hB6.size); have Xs_7 := Xs_6.below hq7 (by omega); have Xx_7 := Xx_6.below hq7 (by omega); have Xy_7 := Xy_6.below hq7 (by omega); have Rx_7 := Rx_6.same hq7; have Rm_7 := Rm_6.same hq7; have Ry_7 := Ry_6.same hq7; have Rk_7 := Rk_6.same hq7; have cs0_7 := Xs_7.c0; have cs1_7 := Xs_7.c1; have cs2_7 := Xs_7.c2; have cs3_7 := Xs_7.c3; have cs4_7 := Xs_7.c4; have cs5_7 := Xs_7.c5; have cs6_7 := Xs_7.c6; have ls_7 : w.heap.size < w7.heap.size := (by omega); have cx0_7 := Xx_7.c0; have cx1_7 := Xx_7.c1; have cx2_7 := Xx_7.c2; have cx3_7 := Xx_7.c3; have cx4_7 := Xx_7.c4; have cx5_7 := Xx_7.c5; have cx6_7 := Xx_7.c6; have lx_7 : G < w7.heap.size := (by omega); have cy0_7 := Xy_7.c0; have cy1_7 := Xy_7.c1; have cy2_7 := Xy_7.c2; have cy3_7 := Xy_7.c3; have cy4_7 := Xy_7.c4; have cy5_7 := Xy_7.c5; have cy6_7 := Xy_7.c6; have ly_7 : K1 < w7.heap.size := (by omega); clear cs0_6 cs1_6 cs2_6 cs3_6 cs4_6 cs5_6 cs6_6 ls_6 Xs_6 cx0_6 cx1_6 cx2_6 cx3_6 cx4_6 cx5_6 cx6_6 lx_6 Xx_6 cy0_6 cy1_6 cy2_6 cy3_6 cy4_6 cy5_6 cy6_6 ly_6 Xy_6) | ((with_reducible refine (hCC _ _ _ Rx_7).mono ?_); rintro e w8 ⟨rfl, hb8⟩; have z8 := hb8.size; have hq8 : Below w7.heap.size w7 w8 := (Below.refl _ w7).trans (hb8.mono (by omega)); have hB8 := hB7.trans (hq8.mono hB7.size); have Xs_8 := Xs_7.below hq8 (by omega); have Xx_8 := Xx_7.below hq8 (by omega); have Xy_8 := Xy_7.below hq8 (by omega); have Rx_8 := Rx_7.same hq8; have Rm_8 := Rm_7.same hq8; have Ry_8 := Ry_7.same hq8; have Rk_8 := Rk_7.same hq8; have cs0_8 := Xs_8.c0; have cs1_8 := Xs_8.c1; have cs2_8 := Xs_8.c2; have cs3_8 := Xs_8.c3; have cs4_8 := Xs_8.c4; have cs5_8 := Xs_8.c5; have cs6_8 := Xs_8.c6; have ls_8 : w.heap.size < w8.heap.size := (by omega); have cx0_8 := Xx_8.c0; have cx1_8 := Xx_8.c1; have cx2_8 := Xx_8.c2; have cx3_8 := Xx_8.c3; have cx4_8 := Xx_8.c4; have cx5_8 := Xx_8.c5; have cx6_8 := Xx_8.c6; have lx_8 : G < w8.heap.size := (by omega); have cy0_8 := Xy_8.c0; have cy1_8 := Xy_8.c1; have cy2_8 := Xy_8.c2; have cy3_8 := Xy_8.c3; have cy4_8 := Xy_8.c4; have cy5_8 := Xy_8.c5; have cy6_8 := Xy_8.c6; have ly_8 : K1 < w8.heap.size := (by omega); clear cs0_7 cs1_7 cs2_7 cs3_7 cs4_7 cs5_7 cs6_7 ls_7 Xs_7 cx0_7 cx1_7 cx2_7 cx3_7 cx4_7 cx5_7 cx6_7 lx_7 Xx_7 cy0_7 cy1_7 cy2_7 cy3_7 cy4_7 cy5_7 cy6_7 ly_7 Xy_7) | (go_at_call 14; (with_reducible refine (alive10_any _).mono ?_); rintro e wA ⟨rfl, hbA⟩))
      go_ret
      exact ⟨rfl, hB8.trans (hbA.mono hB8.size)⟩
    · have t5 : (E = 0) = False := eq_false hE0
      have t6 : (E != 0) = true := bne_iff_ne.2 hE0
      go_wp2_with (first | ((with_reducible refine (hSM _ _ _ _ _ Rx_5 Ry_5).mono ?_); rintro e w6 ⟨rfl, hb6⟩; have z6 := hb6.size; have hq6 : Below w5.heap.size w5 w6 := (Below.refl _ w5).trans (hb6.mono (by omega)); have hB6 := hB5.trans (hq6.mono hB5.size); have Xs_6 := Xs_5.below hq6 (by omega); have Xx_6 := Xx_5.below hq6 (by omega); have Xy_6 := Xy_5.below hq6 (by omega); have Rx_6 := Rx_5.same hq6; have Rm_6 := Rm_5.same hq6; have Ry_6 := Ry_5.same hq6; have Rk_6 := Rk_5.same hq6; have cs0_6 := Xs_6.c0; have cs1_6 := Xs_6.c1; have cs2_6 := Xs_6.c2; have cs3_6 := Xs_6.c3; have cs4_6 := Xs_6.c4; have cs5_6 := Xs_6.c5; have cs6_6 := Xs_6.c6; have ls_6 : w.heap.size < w6.heap.size := (by omega); have cx0_6 := Xx_6.c0; have cx1_6 := Xx_6.c1; have cx2_6 := Xx_6.c2; have cx3_6 := Xx_6.c3; have cx4_6 := Xx_6.c4; have cx5_6 := Xx_6.c5; have cx6_6 := Xx_6.c6; have lx_6 : G < w6.heap.size := (by omega); have cy0_6 := Xy_6.c0; have cy1_6 := Xy_6.c1; have cy2_6 := Xy_6.c2; have cy3_6 := Xy_6.c3; have cy4_6 := Xy_6.c4; have cy5_6 := Xy_6.c5; have cy6_6 := Xy_6.c6; have ly_6 : K1 < w6.heap.size := (by omega); clear cs0_5 cs1_5 cs2_5 cs3_5 cs4_5 cs5_5 cs6_5 ls_5 Xs_5 cx0_5 cx1_5 cx2_5 cx3_5 cx4_5 cx5_5 cx6_5 lx_5 Xx_5 cy0_5 cy1_5 cy2_5 cy3_5 cy4_5 cy5_5 cy6_5 ly_5 Xy_5) | ((with_reducible refine (hT _ _ _ _ _ Rm_6 Rk_6).mono ?_); rintro e w7 ⟨rfl, hb7⟩; have z7 := hb7.size; have hq7 : Below w6.heap.size w6 w7 := (Below.refl _ w6).trans (hb7.mono (by omega)); have hB7 := hB6.trans (hq7.mono hB6.size); have Xs_7 := Xs_6.below hq7 (by omega); have Xx_7 := Xx_6.below hq7 (by omega); have Xy_7 := Xy_6.below hq7 (by omega); have Rx_7 := Rx_6.same hq7; have Rm_7 := Rm_6.same hq7; have Ry_7 := Ry_6.same hq7; have Rk_7 := Rk_6.same hq7; have cs0_7 := Xs_7.c0; have cs1_7 := Xs_7.c1; have cs2_7 := Xs_7.c2; have cs3_7 := Xs_7.c3; have cs4_7 := Xs_7.c4; have cs5_7 := Xs_7.c5; have cs6_7 := Xs_7.c6; have ls_7 : w.heap.size < w7.heap.size := (by omega); have cx0_7 := Xx_7.c0; have cx1_7 := Xx_7.c1; have cx2_7 := Xx_7.c2; have cx3_7 := Xx_7.c3; have cx4_7 := Xx_7.c4; have cx5_7 := Xx_7.c5; have cx6_7 := Xx_7.c6; have lx_7 : G < w7.heap.size := (by omega); have cy0_7 := Xy_7.c0; have cy1_7 := Xy_7.c1; have cy2_7 := Xy_7.c2; have cy3_7 := Xy_7.c3; have cy4_7 := Xy_7.c4; have cy5_7 := Xy_7.c5; have cy6_7 := Xy_7.c6; have ly_7 : K1 < w7.heap.size := (by omega); clear cs0_6 cs1_6 cs2_6 cs3_6 cs4_6 cs5_6 cs6_6 ls_6 Xs_6 cx0_6 cx1_6 cx2_6 cx3_6 cx4_6 cx5_6 cx6_6 lx_6 Xx_6 cy0_6 cy1_6 cy2_6 cy3_6 cy4_6 cy5_6 cy6_6 ly_6 Xy_6) | (go_at_call 14; (with_reducible refine (alive10_any _).mono ?_); rintro e wA ⟨rfl, hbA⟩))
      go_ret
      exact ⟨rfl, hB7.trans (hbA.mono hB7.size)⟩
end Go.Proofs.Ytmnhepcnbdbhoaa.Wk

/- The law ResumeBytes. -/
import Derived.Test.YtmnhepcnbdbhoaaLaw10P
namespace Go.Proofs.Ytmnhepcnbdbhoaa.Wk
open Go.Proofs Go.RowKit Go.Proofs.Ytmnhepcnbdbhoaa.Kit Go.Proofs.Ytmnhepcnbdbhoaa.M01 Go.Proofs.Ytmnhepcnbdbhoaa.M02 Go.Proofs.Ytmnhepcnbdbhoaa.M05 Go.Proofs.Ytmnhepcnbdbhoaa.M06 Go.Proofs.Ytmnhepcnbdbhoaa.M07 Go.Proofs.Ytmnhepcnbdbhoaa.M08 Go.Proofs.Ytmnhepcnbdbhoaa.M10 Go.Proofs.Ytmnhepcnbdbhoaa.Bt Go.Proofs.Ytmnhepcnbdbhoaa.R02 Go.Proofs.Ytmnhepcnbdbhoaa.R10 Go.Proofs.Ytmnhepcnbdbhoaa.Rs
set_option linter.unusedVariables false
set_option linter.unusedSimpArgs false

theorem take_one {xs : List Int} {k : Nat} (h : k < xs.length) : (xs.drop k).take 1 = [xs.getD k 0] := by
  rw [List.getD_eq_getElem?_getD, List.getElem?_eq_getElem h, List.drop_eq_getElem_cons h]; rfl
theorem take_snoc10 {xs : List Int} {k : Nat} (h : k < xs.length) : xs.take (k + 1) = xs.take k ++ [xs.getD k 0] := by
  rw [List.take_add_one, List.getD_eq_getElem?_getD, List.getElem?_eq_getElem h]; simp

set_option maxRecDepth 100000 in
set_option maxHeartbeats 8000000 in
theorem resumeBytes_walk (n00 : Int) (n01 : Int) (n02 : Int) (n03 : Int) (n04 : Int) (a05 : Option Addr) (l05 c05 : Nat) (x05 : List Int) (n06 : Int) (a1 : Option Addr) (l1 c1 : Nat) (x1 : List Int) (w : World) (b00 : -9223372036854775808 ≤ n00 ∧ n00 ≤ 9223372036854775807) (b01 : -9223372036854775808 ≤ n01 ∧ n01 ≤ 9223372036854775807) (b02 : -9223372036854775808 ≤ n02 ∧ n02 ≤ 9223372036854775807) (b03 : 0 ≤ n03 ∧ n03 ≤ 18446744073709551615) (b04 : 0 ≤ n04 ∧ n04 ≤ 18446744073709551615) (r05 : RowIn .u8 w a05 l05 c05 x05) (b06 : -9223372036854775808 ≤ n06 ∧ n06 ≤ 9223372036854775807) (r1 : RowIn .u8 w a1 l1 c1 x1) :
    Calls Try.prog 6 #[.agg #[.int .i64 n00, .int .i64 n01, .int .i64 n02, .int .u64 n03, .int .u64 n04, .slice a05 l05 c05, .int .i64 n06], .slice a1 l1 c1] w fun e w' => e = .returned (.bool true) ∧ Below w.heap.size w w' := by
  have iS : isR ⟨n00, ⟨n01, n02, n03, n04⟩, x05, n06⟩ := ⟨b00, ⟨b01, b02, b03, b04⟩, byte_of r05.rd, b06⟩
  have h1 := r1.hl
  have hcc := r1.hc
  have hmm := r1.hm
  have hG := fun w' (r : RowIn .u8 w' a05 l05 c05 x05) => R02.great_any a05 l05 c05 x05 n06 w' r
  have hC := fun w' (r : RowIn .u8 w' a05 l05 c05 x05) => rchk10_any a05 l05 c05 ⟨n00, ⟨n01, n02, n03, n04⟩, x05, n06⟩ w' r iS
  unfold bv at hG
  unfold vR at hC
  simp only at hC
  cases hg : greatB l05
  case true =>
    simp only [hg] at hG
    clear hg hC
    go_enter Try.func6, Try.ntmps6
    go_wp2_with (first | ((with_reducible refine (hG _ (r05.same ((below1 w _)))).mono ?_); rintro e w1 ⟨rfl, hb1⟩; rw [size1] at hb1; have z1 := hb1.size; rw [size1] at z1; have hq1 : Below w.heap.size w w1 := (below1 w _).trans (hb1.mono (by omega)); have hB1 := hq1; have Xs_1 := (Box7.of (blk1 w _)).below hb1 (by omega); have cs0_1 := Xs_1.c0; have cs1_1 := Xs_1.c1; have cs2_1 := Xs_1.c2; have cs3_1 := Xs_1.c3; have cs4_1 := Xs_1.c4; have cs5_1 := Xs_1.c5; have cs6_1 := Xs_1.c6; have ls_1 : w.heap.size < w1.heap.size := (by omega)) | (go_at_call 14; (with_reducible refine (alive10_any _).mono ?_); rintro e wA ⟨rfl, hbA⟩))
    go_ret
    exact ⟨rfl, hB1.trans (hbA.mono hB1.size)⟩
  simp only [hg] at hG
  by_cases hok : okR ⟨n00, ⟨n01, n02, n03, n04⟩, x05, n06⟩ = true
  case neg =>
    rw [rcE, if_neg hok] at hC
    go_enter Try.func6, Try.ntmps6
    go_wp2_with (first | ((with_reducible refine (hG _ (r05.same ((below1 w _)))).mono ?_); rintro e w1 ⟨rfl, hb1⟩; rw [size1] at hb1; have z1 := hb1.size; rw [size1] at z1; have hq1 : Below w.heap.size w w1 := (below1 w _).trans (hb1.mono (by omega)); have hB1 := hq1; have Xs_1 := (Box7.of (blk1 w _)).below hb1 (by omega); have cs0_1 := Xs_1.c0; have cs1_1 := Xs_1.c1; have cs2_1 := Xs_1.c2; have cs3_1 := Xs_1.c3; have cs4_1 := Xs_1.c4; have cs5_1 := Xs_1.c5; have cs6_1 := Xs_1.c6; have ls_1 : w.heap.size < w1.heap.size := (by omega)) | ((with_reducible refine (hC _ (r05.same (hB1))).mono ?_); rintro e w2 ⟨rfl, hb2⟩; have z2 := hb2.size; have hq2 : Below w1.heap.size w1 w2 := (Below.refl _ w1).trans (hb2.mono (by omega)); have hB2 := hB1.trans (hq2.mono hB1.size); have Xs_2 := Xs_1.below hq2 (by omega); have cs0_2 := Xs_2.c0; have cs1_2 := Xs_2.c1; have cs2_2 := Xs_2.c2; have cs3_2 := Xs_2.c3; have cs4_2 := Xs_2.c4; have cs5_2 := Xs_2.c5; have cs6_2 := Xs_2.c6; have ls_2 : w.heap.size < w2.heap.size := (by omega); clear cs0_1 cs1_1 cs2_1 cs3_1 cs4_1 cs5_1 cs6_1 ls_1 Xs_1) | (go_at_call 14; (with_reducible refine (alive10_any _).mono ?_); rintro e wA ⟨rfl, hbA⟩))
    go_ret
    exact ⟨rfl, hB2.trans (hbA.mono hB2.size)⟩
  rw [rcE, if_pos hok] at hC
  by_cases t0 : 100 < (l1 : Int)
  · have f0 : (100 < (l1 : Int)) = True := eq_true t0
    go_enter Try.func6, Try.ntmps6
    go_wp2_with (first | ((with_reducible refine (hG _ (r05.same ((below1 w _)))).mono ?_); rintro e w1 ⟨rfl, hb1⟩; rw [size1] at hb1; have z1 := hb1.size; rw [size1] at z1; have hq1 : Below w.heap.size w w1 := (below1 w _).trans (hb1.mono (by omega)); have hB1 := hq1; have Xs_1 := (Box7.of (blk1 w _)).below hb1 (by omega); have cs0_1 := Xs_1.c0; have cs1_1 := Xs_1.c1; have cs2_1 := Xs_1.c2; have cs3_1 := Xs_1.c3; have cs4_1 := Xs_1.c4; have cs5_1 := Xs_1.c5; have cs6_1 := Xs_1.c6; have ls_1 : w.heap.size < w1.heap.size := (by omega)) | ((with_reducible refine (hC _ (r05.same (hB1))).mono ?_); rintro e w2 ⟨rfl, hb2⟩; have z2 := hb2.size; have hq2 : Below w1.heap.size w1 w2 := (Below.refl _ w1).trans (hb2.mono (by omega)); have hB2 := hB1.trans (hq2.mono hB1.size); have Xs_2 := Xs_1.below hq2 (by omega); have cs0_2 := Xs_2.c0; have cs1_2 := Xs_2.c1; have cs2_2 := Xs_2.c2; have cs3_2 := Xs_2.c3; have cs4_2 := Xs_2.c4; have cs5_2 := Xs_2.c5; have cs6_2 := Xs_2.c6; have ls_2 : w.heap.size < w2.heap.size := (by omega); clear cs0_1 cs1_1 cs2_1 cs3_1 cs4_1 cs5_1 cs6_1 ls_1 Xs_1) | (go_at_call 14; (with_reducible refine (alive10_any _).mono ?_); rintro e wA ⟨rfl, hbA⟩))
    go_ret
    exact ⟨rfl, hB2.trans (hbA.mono hB2.size)⟩
  have f0 : (100 < (l1 : Int)) = False := eq_false t0
  have hbb := byte_of r1.rd
  obtain ⟨i0, hii, hz0, hz1, hz2⟩ : ∃ i0 : TypeInfo, Try.prog.info? 25 = some i0 ∧ i0.zero = some (.slice none 0 0) ∧ i0.size = 1 ∧ i0.bytes = 24 := by
    have h := info10_s
    cases h2 : Try.prog.info? 25 with
    | none => rw [h2] at h; cases h
    | some i => rw [h2] at h; simp at h; exact ⟨i, rfl, h.1, h.2.1, h.2.2⟩
  have hF := fun w' (r : RowIn .u8 w' a05 l05 c05 x05) (r' : RowIn .u8 w' a1 l1 c1 x1) => feed_any a05 l05 c05 ⟨n00, ⟨n01, n02, n03, n04⟩, x05, n06⟩ a1 l1 c1 x1 w' r iS r'
  obtain ⟨E, hE⟩ : ∃ E, reE ⟨n00, ⟨n01, n02, n03, n04⟩, x05, n06⟩ x1 = E := ⟨_, rfl⟩
  obtain ⟨XR, hXR⟩ : ∃ E, reR ⟨n00, ⟨n01, n02, n03, n04⟩, x05, n06⟩ x1 = E := ⟨_, rfl⟩
  obtain ⟨L, hL⟩ : ∃ E, reV ⟨n00, ⟨n01, n02, n03, n04⟩, x05, n06⟩ x1 = E := ⟨_, rfl⟩
  have hFS := fun pa pl pc ps hfl w' r hp => feeds_eq a05 l05 c05 ⟨n00, ⟨n01, n02, n03, n04⟩, x05, n06⟩ pa pl pc ps x1 XR L E w' r iS hok hp hbb (by omega) hfl hXR hL hE
  rw [hE, hXR, hL] at hF
  have es : sameR XR XR = true := sameR_self _ (by simp [sameB])
  have hSM := fun a q a' q' w' (r : RowIn .u8 w' a XR.xs.length q XR.xs) (r' : RowIn .u8 w' a' XR.xs.length q' XR.xs) => rsame10_any a XR.xs.length q XR a' XR.xs.length q' XR w' r r'
  have hT := fun a q a' q' w' (r : RowIn .u32 w' a L.length q L) (r' : RowIn .u32 w' a' L.length q' L) => same9b a L.length q L a' L.length q' L w' r r'
  simp only [es] at hSM
  simp only [sameL_self] at hT
  obtain ⟨xl, ⟨xa, xb, xs, xt⟩, X, xn⟩ := XR
  unfold vR at hF hFS hSM
  simp only at hF hFS hSM
  obtain ⟨lX, hlX⟩ : ∃ l, X.length = l := ⟨_, rfl⟩
  obtain ⟨lL, hlL⟩ : ∃ l, L.length = l := ⟨_, rfl⟩
  simp only [hlX, hlL] at hF hFS hSM hT
  clear hlX hlL hbb iS es hE hXR hL hg hok
  go_enter Try.func6, Try.ntmps6
  go_wp2_with (first | ((with_reducible refine (hG _ (r05.same ((below1 w _)))).mono ?_); rintro e w1 ⟨rfl, hb1⟩; rw [size1] at hb1; have z1 := hb1.size; rw [size1] at z1; have hq1 : Below w.heap.size w w1 := (below1 w _).trans (hb1.mono (by omega)); have hB1 := hq1; have Xs_1 := (Box7.of (blk1 w _)).below hb1 (by omega); have cs0_1 := Xs_1.c0; have cs1_1 := Xs_1.c1; have cs2_1 := Xs_1.c2; have cs3_1 := Xs_1.c3; have cs4_1 := Xs_1.c4; have cs5_1 := Xs_1.c5; have cs6_1 := Xs_1.c6; have ls_1 : w.heap.size < w1.heap.size := (by omega)) | ((with_reducible refine (hC _ (r05.same (hB1))).mono ?_); rintro e w2 ⟨rfl, hb2⟩; have z2 := hb2.size; have hq2 : Below w1.heap.size w1 w2 := (Below.refl _ w1).trans (hb2.mono (by omega)); have hB2 := hB1.trans (hq2.mono hB1.size); have Xs_2 := Xs_1.below hq2 (by omega); have cs0_2 := Xs_2.c0; have cs1_2 := Xs_2.c1; have cs2_2 := Xs_2.c2; have cs3_2 := Xs_2.c3; have cs4_2 := Xs_2.c4; have cs5_2 := Xs_2.c5; have cs6_2 := Xs_2.c6; have ls_2 : w.heap.size < w2.heap.size := (by omega); clear cs0_1 cs1_1 cs2_1 cs3_1 cs4_1 cs5_1 cs6_1 ls_1 Xs_1))
  clear cs0_2 cs1_2 cs2_2 cs3_2 cs4_2 cs5_2 cs6_2 hG hC
  go_loopw [5, 6] (fun v t wr => ∃ k : Nat, k ≤ l1 ∧ t = .int .i64 k ∧ (∃ vs ps, OwnV wr w2.heap.size 25 v vs ∧ Slc w vs ps ∧ ps.flatten = x1.take k ∧ vs.length = 2 * k) ∧ Below w2.heap.size w2 wr) (fun _ t _ => l1 - (intOf t).toNat)
  case atStart => exact ⟨0, by omega, by go_num, ⟨[], [], OwnV.nil, Slc.nil, rfl, rfl⟩, Below.refl _ _⟩
  case round =>
    obtain ⟨k, hk, rfl, ⟨vs, ps, ho, hsl, hfl, hvl⟩, hb⟩ := hrel
    by_cases hlt : k < l1
    · obtain ⟨bb, off, rfl, -⟩ := r1.rd.cells (by intro h; rw [h] at h1; simp at h1; omega)
      have hrow : RowIn .u8 w (some ⟨bb, off + k, none⟩) 1 (c1 - k) [x1.getD k 0] := by
        have := Co.row_front (n := 1) (Co.row_back r1 (n := k) (by omega)) (by omega)
        rwa [take_one (by omega)] at this
      have htk := take_snoc10 (xs := x1) (k := k) (by omega)
      have HH := hid (And.intro hfl (And.intro htk hrow))
      clear hfl htk hrow hF hFS hSM hT
      have hvl2 : vs.length ≤ 200 := by omega
      have t9 : ¬ c1 ≤ k := by omega
      go_wp2_with ((at_builtin; refine appV rfl _ _ 51 rfl w2.heap.size 25 i0 (.slice none 0 0) 24 Try.underlying51 hii hz0 hz1 hz2 rfl _ vs ho [.slice (some ⟨bb, off + k, none⟩) 1 (c1 - k), .slice none 0 0] 2 rfl (by intro u hu; simp at hu; rcases hu with rfl | rfl <;> rfl) rfl rfl hb.size (by omega) (by omega) ?_; intro v' w5 hown hgr hb5))
      go_roundw
      case rel =>
        obtain ⟨hfl, htk, hrow⟩ := HH.out
        refine ⟨k + 1, by omega, by go_num, ⟨vs ++ [.slice (some ⟨bb, off + k, none⟩) 1 (c1 - k), .slice none 0 0], ps ++ [[x1.getD k 0]] ++ [[]], hown, ?_, ?_, by simp [hvl]; omega⟩, hb.trans hb5⟩
        · have := (hsl.snoc hrow).snoc RowIn.nil
          rwa [List.append_assoc] at this
        · rw [List.flatten_append, List.flatten_append, hfl, htk]; simp
      case measure => simp [intOf]; omega
    · obtain rfl : k = l1 := by omega
      obtain ⟨w5, e5⟩ : ∃ x, x = wr := ⟨_, rfl⟩
      subst e5
      have hB5 : Below w.heap.size w w5 := hB2.trans (hb.mono hB2.size)
      rw [List.take_of_length_le (by omega)] at hfl
      obtain ⟨pa, pc, rfl, hrow⟩ := ho.row
      have Rp_5 := Kit.RowsIn.mk hrow (hsl.same hB5)
      have Xs_5 := Xs_2.below hb ls_2
      have hFS := fun w' r hp => hFS pa vs.length pc ps hfl w' r hp
      have cs0_5 := Xs_5.c0
      have cs1_5 := Xs_5.c1
      have cs2_5 := Xs_5.c2
      have cs3_5 := Xs_5.c3
      have cs4_5 := Xs_5.c4
      have cs5_5 := Xs_5.c5
      have cs6_5 := Xs_5.c6
      have ls_5 : w.heap.size < w5.heap.size := by have := hb.size; omega
      have lq := hb.size
      clear Xs_2 hvl
      go_wp2_with (first | ((with_reducible refine (hF _ (r05.same (hB5)) (r1.same (hB5))).mono ?_); rintro e w6 ⟨a6, q6, p6, m6, rfl, h6, g6, hb6, -, -⟩; have Rx_6 := h6; have Rm_6 := g6; have z6 := hb6.size; have hq6 : Below w5.heap.size w5 w6 := (Below.refl _ w5).trans (hb6.mono (by omega)); have hB6 := hB5.trans (hq6.mono hB5.size); have Xs_6 := Xs_5.below hq6 (by omega); have Rp_6 := Rp_5.same hq6; have cs0_6 := Xs_6.c0; have cs1_6 := Xs_6.c1; have cs2_6 := Xs_6.c2; have cs3_6 := Xs_6.c3; have cs4_6 := Xs_6.c4; have cs5_6 := Xs_6.c5; have cs6_6 := Xs_6.c6; have ls_6 : w.heap.size < w6.heap.size := (by omega); clear cs0_5 cs1_5 cs2_5 cs3_5 cs4_5 cs5_5 cs6_5 ls_5 Xs_5) | ((with_reducible refine (hFS _ (r05.same (hB6.trans ((below1 w6 _).mono hB6.size))) (Rp_6.same (below1 w6 _))).mono ?_); rintro e w7 ⟨a7, q7, p7, m7, rfl, h7, g7, hb7, -, -⟩; rw [size1] at hb7; have Ry_7 := h7; have Rk_7 := g7; have z7 := hb7.size; rw [size1] at z7; have hq7 : Below w6.heap.size w6 w7 := (below1 w6 _).trans (hb7.mono (by omega)); have hB7 := hB6.trans (hq7.mono hB6.size); have Xs_7 := Xs_6.below hq7 (by omega); have Xx_7 := (Box7.of (blk1 w6 _)).below hb7 (by omega); have Rp_7 := Rp_6.same hq7; have Rx_7 := Rx_6.same hq7; have Rm_7 := Rm_6.same hq7; have cs0_7 := Xs_7.c0; have cs1_7 := Xs_7.c1; have cs2_7 := Xs_7.c2; have cs3_7 := Xs_7.c3; have cs4_7 := Xs_7.c4; have cs5_7 := Xs_7.c5; have cs6_7 := Xs_7.c6; have ls_7 : w.heap.size < w7.heap.size := (by omega); have cx0_7 := Xx_7.c0; have cx1_7 := Xx_7.c1; have cx2_7 := Xx_7.c2; have cx3_7 := Xx_7.c3; have cx4_7 := Xx_7.c4; have cx5_7 := Xx_7.c5; have cx6_7 := Xx_7.c6; have lx_7 : w6.heap.size < w7.heap.size := (by omega); clear cs0_6 cs1_6 cs2_6 cs3_6 cs4_6 cs5_6 cs6_6 ls_6 Xs_6) | ((with_reducible refine (hSM _ _ _ _ _ (Rx_7.same (below1 w7 _)) (Ry_7.same (below1 w7 _))).mono ?_); rintro e w8 ⟨rfl, hb8⟩; rw [size1] at hb8; have z8 := hb8.size; rw [size1] at z8; have hq8 : Below w7.heap.size w7 w8 := (below1 w7 _).trans (hb8.mono (by omega)); have hB8 := hB7.trans (hq8.mono hB7.size); have Xs_8 := Xs_7.below hq8 (by omega); have Xx_8 := Xx_7.below hq8 (by omega); have Xy_8 := (Box7.of (blk1 w7 _)).below hb8 (by omega); have Rp_8 := Rp_7.same hq8; have Rx_8 := Rx_7.same hq8; have Rm_8 := Rm_7.same hq8; have Ry_8 := Ry_7.same hq8; have Rk_8 := Rk_7.same hq8; have cs0_8 := Xs_8.c0; have cs1_8 := Xs_8.c1; have cs2_8 := Xs_8.c2; have cs3_8 := Xs_8.c3; have cs4_8 := Xs_8.c4; have cs5_8 := Xs_8.c5; have cs6_8 := Xs_8.c6; have ls_8 : w.heap.size < w8.heap.size := (by omega); have cx0_8 := Xx_8.c0; have cx1_8 := Xx_8.c1; have cx2_8 := Xx_8.c2; have cx3_8 := Xx_8.c3; have cx4_8 := Xx_8.c4; have cx5_8 := Xx_8.c5; have cx6_8 := Xx_8.c6; have lx_8 : w6.heap.size < w8.heap.size := (by omega); have cy0_8 := Xy_8.c0; have cy1_8 := Xy_8.c1; have cy2_8 := Xy_8.c2; have cy3_8 := Xy_8.c3; have cy4_8 := Xy_8.c4; have cy5_8 := Xy_8.c5; have cy6_8 := Xy_8.c6; have ly_8 : w7.heap.size < w8.heap.size := (by omega); clear cs0_7 cs1_7 cs2_7 cs3_7 cs4_7 cs5_7 cs6_7 ls_7 Xs_7 cx0_7 cx1_7 cx2_7 cx3_7 cx4_7 cx5_7 cx6_7 lx_7 Xx_7) | ((with_reducible refine (hT _ _ _ _ _ Rm_8 Rk_8).mono ?_); rintro e w9 ⟨rfl, hb9⟩; have z9 := hb9.size; have hq9 : Below w8.heap.size w8 w9 := (Below.refl _ w8).trans (hb9.mono (by omega)); have hB9 := hB8.trans (hq9.mono hB8.size); have Xs_9 := Xs_8.below hq9 (by omega); have Xx_9 := Xx_8.below hq9 (by omega); have Xy_9 := Xy_8.below hq9 (by omega); have Rp_9 := Rp_8.same hq9; have Rx_9 := Rx_8.same hq9; have Rm_9 := Rm_8.same hq9; have Ry_9 := Ry_8.same hq9; have Rk_9 := Rk_8.same hq9; have cs0_9 := Xs_9.c0; have cs1_9 := Xs_9.c1; have cs2_9 := Xs_9.c2; have cs3_9 := Xs_9.c3; have cs4_9 := Xs_9.c4; have cs5_9 := Xs_9.c5; have cs6_9 := Xs_9.c6; have ls_9 : w.heap.size < w9.heap.size := (by omega); have cx0_9 := Xx_9.c0; have cx1_9 := Xx_9.c1; have cx2_9 := Xx_9.c2; have cx3_9 := Xx_9.c3; have cx4_9 := Xx_9.c4; have cx5_9 := Xx_9.c5; have cx6_9 := Xx_9.c6; have lx_9 : w6.heap.size < w9.heap.size := (by omega); have cy0_9 := Xy_9.c0; have cy1_9 := Xy_9.c1; have cy2_9 := Xy_9.c2; have cy3_9 := Xy_9.c3; have cy4_9 := Xy_9.c4; have cy5_9 := Xy_9.c5; have cy6_9 := Xy_9.c6; have ly_9 : w7.heap.size < w9.heap.size := (by omega); clear cs0_8 cs1_8 cs2_8 cs3_8 cs4_8 cs5_8 cs6_8 ls_8 Xs_8 cx0_8 cx1_8 cx2_8 cx3_8 cx4_8 cx5_8 cx6_8 lx_8 Xx_8 cy0_8 cy1_8 cy2_8 cy3_8 cy4_8 cy5_8 cy6_8 ly_8 Xy_8) | (go_at_call 14; (with_reducible refine (alive10_any _).mono ?_); rintro e wA ⟨rfl, hbA⟩))
      go_ret
      exact ⟨rfl, hB9.trans (hbA.mono hB9.size)⟩
end Go.Proofs.Ytmnhepcnbdbhoaa.Wk

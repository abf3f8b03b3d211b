/- The law ResumeFeeds. -/
import Derived.Test.YtmnhepcnbdbhoaaLaw10
import Derived.Test.YtmnhepcnbdbhoaaRef10b
import Derived.Deep.RegionHeld3
namespace Go.Proofs.Ytmnhepcnbdbhoaa.Wk
open Go.Proofs Go.RowKit Go.Proofs.Ytmnhepcnbdbhoaa.Kit Go.Proofs.Ytmnhepcnbdbhoaa.M01 Go.Proofs.Ytmnhepcnbdbhoaa.M02 Go.Proofs.Ytmnhepcnbdbhoaa.M05 Go.Proofs.Ytmnhepcnbdbhoaa.M06 Go.Proofs.Ytmnhepcnbdbhoaa.M07 Go.Proofs.Ytmnhepcnbdbhoaa.M08 Go.Proofs.Ytmnhepcnbdbhoaa.M10 Go.Proofs.Ytmnhepcnbdbhoaa.Bt Go.Proofs.Ytmnhepcnbdbhoaa.R02 Go.Proofs.Ytmnhepcnbdbhoaa.R10 Go.Proofs.Ytmnhepcnbdbhoaa.Rs
set_option linter.unusedVariables false
attribute [local irreducible] wpStill
set_option linter.unusedSimpArgs false


theorem info10b_u8 : (Try.prog.info? 5).map (fun i => (i.zero, i.size, i.bytes)) = some (some (.int .u8 0), 1, 1) := by kernel_rfl

set_option maxRecDepth 100000 in
set_option maxHeartbeats 8000000 in
theorem resumeFeeds_walk (n00 : Int) (n01 : Int) (n02 : Int) (n03 : Int) (n04 : Int) (a05 : Option Addr) (l05 c05 : Nat) (x05 : List Int) (n06 : Int) (a1 : Option Addr) (l1 c1 : Nat) (x1 : List Int) (w : World) (b00 : -9223372036854775808 ≤ n00 ∧ n00 ≤ 9223372036854775807) (b01 : -9223372036854775808 ≤ n01 ∧ n01 ≤ 9223372036854775807) (b02 : -9223372036854775808 ≤ n02 ∧ n02 ≤ 9223372036854775807) (b03 : 0 ≤ n03 ∧ n03 ≤ 18446744073709551615) (b04 : 0 ≤ n04 ∧ n04 ≤ 18446744073709551615) (r05 : RowIn .u8 w a05 l05 c05 x05) (b06 : -9223372036854775808 ≤ n06 ∧ n06 ≤ 9223372036854775807) (r1 : RowIn .u8 w a1 l1 c1 x1) :
    Calls Try.prog 4 #[.agg #[.int .i64 n00, .int .i64 n01, .int .i64 n02, .int .u64 n03, .int .u64 n04, .slice a05 l05 c05, .int .i64 n06], .slice a1 l1 c1] w fun e w' => e = .returned (.bool true) ∧ Below w.heap.size w w' := by
  have iS : isR ⟨n00, ⟨n01, n02, n03, n04⟩, x05, n06⟩ := ⟨b00, ⟨b01, b02, b03, b04⟩, byte_of r05.rd, b06⟩
  have h1 := r1.hl
  have h5 := r05.hl
  have hcc := r1.hc
  have hmm := r1.hm
  have hG := fun w' (r : RowIn .u8 w' a05 l05 c05 x05) => R02.great_any a05 l05 c05 x05 n06 w' r
  have hG2 := fun w' (r : RowIn .u8 w' a1 l1 c1 x1) => rgreat10_any a1 l1 c1 x1 w' r
  unfold bv at hG
  cases hg : greatB l05
  case true =>
    simp only [hg] at hG
    clear hg
    go_enter Try.func4, Try.ntmps4
    go_wp2_with (first | ((with_reducible refine (hG _ (r05.same ((below1 w _)))).mono ?_); rintro e w1 ⟨rfl, hb1⟩; rw [size1] at hb1; have z1 := hb1.size; rw [size1] at z1; have hq1 : Below w.heap.size w w1 := (below1 w _).trans (hb1.mono (by omega)); have hB1 := hq1; have Xs_1 := (Box7.of (blk1 w _)).below hb1 (by omega); have cs0_1 := Xs_1.c0; have cs1_1 := Xs_1.c1; have cs2_1 := Xs_1.c2; have cs3_1 := Xs_1.c3; have cs4_1 := Xs_1.c4; have cs5_1 := Xs_1.c5; have cs6_1 := Xs_1.c6; have ls_1 : w.heap.size < w1.heap.size := (by omega)))
    go_ret
    exact ⟨rfl, hB1⟩
  have hl5 : l05 ≤ 100000 := by
    unfold greatB at hg
    have := of_decide_eq_false hg
    omega
  simp only [hg] at hG
  cases hg2 : greatR l1
  case true =>
    simp only [hg2] at hG2
    clear hg hg2
    go_enter Try.func4, Try.ntmps4
    go_wp2_with (first | ((with_reducible refine (hG _ (r05.same ((below1 w _)))).mono ?_); rintro e w1 ⟨rfl, hb1⟩; rw [size1] at hb1; have z1 := hb1.size; rw [size1] at z1; have hq1 : Below w.heap.size w w1 := (below1 w _).trans (hb1.mono (by omega)); have hB1 := hq1; have Xs_1 := (Box7.of (blk1 w _)).below hb1 (by omega); have cs0_1 := Xs_1.c0; have cs1_1 := Xs_1.c1; have cs2_1 := Xs_1.c2; have cs3_1 := Xs_1.c3; have cs4_1 := Xs_1.c4; have cs5_1 := Xs_1.c5; have cs6_1 := Xs_1.c6; have ls_1 : w.heap.size < w1.heap.size := (by omega)) | ((with_reducible refine (hG2 _ (r1.same hB1)).mono ?_); rintro e w2 ⟨rfl, rfl⟩))
    go_ret
    exact ⟨rfl, hB1⟩
  have hl1 : l1 ≤ 41100 := by
    unfold greatR at hg2
    have := of_decide_eq_false hg2
    omega
  simp only [hg2] at hG2
  clear hg hg2
  obtain ⟨i0, hii, hz0, hz1, hz2⟩ := info_parts info10b_u8
  go_enter Try.func4, Try.ntmps4
  go_wp2_with (first | ((with_reducible refine (hG _ (r05.same ((below1 w _)))).mono ?_); rintro e w1 ⟨rfl, hb1⟩; rw [size1] at hb1; have z1 := hb1.size; rw [size1] at z1; have hq1 : Below w.heap.size w w1 := (below1 w _).trans (hb1.mono (by omega)); have hB1 := hq1; have Xs_1 := (Box7.of (blk1 w _)).below hb1 (by omega); have cs0_1 := Xs_1.c0; have cs1_1 := Xs_1.c1; have cs2_1 := Xs_1.c2; have cs3_1 := Xs_1.c3; have cs4_1 := Xs_1.c4; have cs5_1 := Xs_1.c5; have cs6_1 := Xs_1.c6; have ls_1 : w.heap.size < w1.heap.size := (by omega)) | ((with_reducible refine (hG2 _ (r1.same hB1)).mono ?_); rintro e w2 ⟨rfl, rfl⟩))
  have r1y := r1.same hB1
  obtain ⟨s0, s1, s2, s3, s4, s5, s6, -, -, -, -, -, -, -⟩ := id Xs_1
  go_cut [5, 6] (fun s5 s6 wx => ∃ K1 a5 q5, s5 = .pointer (some ⟨K1, 0, none⟩) ∧ s6 = .slice a5 l1 q5 ∧ w1.heap.size ≤ K1 ∧ K1 < wx.heap.size ∧ Box7 wx K1 (.int .i64 n00) (.int .i64 n01) (.int .i64 n02) (.int .u64 n03) (.int .u64 n04) (.slice a05 l05 c05) (.int .i64 n06) ∧ RowIn .u8 wx a5 l1 q5 x1 ∧ (x1 ≠ [] → ∀ x, a5 = some x → x.block ≠ K1 ∧ w1.heap.size ≤ x.block) ∧ Below w1.heap.size w1 wx)
  case first =>
    have o1 : OwnI .u8 (w1.alloc (.cells #[] 5)).drew w1.heap.size 5 (.slice (some ⟨w1.heap.size, 0, none⟩) 0 0) [] := (OwnI.lit (k := .u8) w1 w1.heap.size 5 [] (Nat.le_refl _) (by simp)).below (Below.refl _ _).drew
    have o2 : OwnI .u8 ((w1.alloc (.cells #[] 5)).alloc (.cells #[.int .i64 0, .int .i64 0, .int .i64 0, .int .u64 0, .int .u64 0, .slice none 0 0, .int .i64 0] 29)).drew w1.heap.size 5 (.slice (some ⟨w1.heap.size, 0, none⟩) 0 0) [] := (OwnI.lit (k := .u8) w1 w1.heap.size 5 [] (Nat.le_refl _) (by simp)).below (below1 _ _).drew
    have o3 : OwnI .u8 ((w1.alloc (.cells #[.int .i64 0, .int .i64 0, .int .i64 0, .int .u64 0, .int .u64 0, .slice none 0 0, .int .i64 0] 29)).alloc (.cells #[] 5)).drew w1.heap.size 5 (.slice (some ⟨w1.heap.size + 1, 0, none⟩) 0 0) [] := by
      have t := OwnI.lit (k := .u8) (w1.alloc (.cells #[.int .i64 0, .int .i64 0, .int .i64 0, .int .u64 0, .int .u64 0, .slice none 0 0, .int .i64 0] 29)) w1.heap.size 5 [] (by rw [size1]; omega) (by simp)
      rw [size1] at t
      exact t.below (Below.refl _ _).drew
    have lB0 : w.heap.size < w1.heap.size := ls_1
    have lB1 : w.heap.size < w1.heap.size + 1 := by omega
    have lB2 : w.heap.size < w1.heap.size + 1 + 1 := by omega
    go_region_law (first | (refine appS rfl _ _ 25 (by rfl) w1.heap.size 5 i0 (.int .u8 0) 1 Try.underlying25 hii hz0 hz1 hz2 rfl .u8 _ _ o1 a1 l1 c1 x1 ((r1y.same (below1 w1 (.cells #[] 5)).drew).rd) h1 (by rfl) (by rfl) (by show w1.heap.size ≤ (w1.alloc (.cells #[] 5)).heap.size; rw [size1]; omega) (by simp; omega) (by simp; omega) ?_; intro v' wa hown hgr hba; rw [List.nil_append] at hown; obtain ⟨a5, q5, ev, r5⟩ := hown.row r1.rd.2.2; have hno := hown; have BW : Below w1.heap.size w1 wa := (below1 w1 (.cells #[] 5)).drew.trans hba; have zwa : w1.heap.size + 1 ≤ wa.heap.size := (by have t : (w1.alloc (.cells #[] 5)).heap.size ≤ wa.heap.size := hgr.size; rw [size1] at t; omega); subst ev; rw [h1] at r5; have NE : x1 ≠ [] → ∀ x, a5 = some x → x.block ≠ wa.heap.size ∧ w1.heap.size ≤ x.block := (fun h x hx => by have t1 := Co.row_lt r5 h x hx; have t2 := R10.ownGe hno x hx; omega); obtain ⟨e0, e1, e2, e3, e4, e5, e6, -, -, -, -, -, -, -⟩ := Xs_1.below BW lB0; have lBa : w.heap.size < wa.heap.size := (by omega); have lBb : w.heap.size < wa.heap.size + 1 := (by omega)) | (refine appS rfl _ _ 25 (by rfl) w1.heap.size 5 i0 (.int .u8 0) 1 Try.underlying25 hii hz0 hz1 hz2 rfl .u8 _ _ o2 a1 l1 c1 x1 ((r1y.same (below2 w1 (.cells #[] 5) (.cells #[.int .i64 0, .int .i64 0, .int .i64 0, .int .u64 0, .int .u64 0, .slice none 0 0, .int .i64 0] 29)).drew).rd) h1 (by rfl) (by rfl) (by show w1.heap.size ≤ ((w1.alloc (.cells #[] 5)).alloc (.cells #[.int .i64 0, .int .i64 0, .int .i64 0, .int .u64 0, .int .u64 0, .slice none 0 0, .int .i64 0] 29)).heap.size; rw [size2]; omega) (by simp; omega) (by simp; omega) ?_; intro v' wa hown hgr hba; rw [List.nil_append] at hown; obtain ⟨a5, q5, ev, r5⟩ := hown.row r1.rd.2.2; have hno := hown; have BW : Below w1.heap.size w1 wa := (below2 w1 (.cells #[] 5) (.cells #[.int .i64 0, .int .i64 0, .int .i64 0, .int .u64 0, .int .u64 0, .slice none 0 0, .int .i64 0] 29)).drew.trans hba; have zwa : w1.heap.size + 2 ≤ wa.heap.size := (by have t : ((w1.alloc (.cells #[] 5)).alloc (.cells #[.int .i64 0, .int .i64 0, .int .i64 0, .int .u64 0, .int .u64 0, .slice none 0 0, .int .i64 0] 29)).heap.size ≤ wa.heap.size := hgr.size; rw [size2] at t; omega); have HK : wa.heap[w1.heap.size + 1]? = some (.cells #[.int .i64 0, .int .i64 0, .int .i64 0, .int .u64 0, .int .u64 0, .slice none 0 0, .int .i64 0] 29) := blk_grown (w := ((w1.alloc (.cells #[] 5)).alloc (.cells #[.int .i64 0, .int .i64 0, .int .i64 0, .int .u64 0, .int .u64 0, .slice none 0 0, .int .i64 0] 29)).drew) (blk2 w1 (.cells #[] 5) (.cells #[.int .i64 0, .int .i64 0, .int .i64 0, .int .u64 0, .int .u64 0, .slice none 0 0, .int .i64 0] 29)) hgr (by intro q; simp [Value.ownBlock] at q); have NB := R10.own_ne_box hown HK (by decide); have HB0 := Box7.of HK; have HB := Blk7.of HB0; obtain ⟨k0, k1, k2, k3, k4, k5, k6, kf0, kf1, kf2, kf3, kf4, kf5, kf6⟩ := id HB0; have lK : w1.heap.size + 1 < wa.heap.size := (by omega); subst ev; rw [h1] at r5; have nK : x1 ≠ [] → ∀ x, a5 = some x → x.block ≠ w1.heap.size + 1 := (fun h x hx q => NB (by obtain ⟨g, cp, e⟩ := hno.form h; cases e; cases hx; rw [← q]; rfl)); have NE : x1 ≠ [] → ∀ x, a5 = some x → x.block ≠ w1.heap.size + 1 ∧ w1.heap.size ≤ x.block := (fun h x hx => ⟨nK h x hx, R10.ownGe hno x hx⟩); obtain ⟨e0, e1, e2, e3, e4, e5, e6, -, -, -, -, -, -, -⟩ := Xs_1.below BW lB0; have lBa : w.heap.size < wa.heap.size := (by omega); have lBb : w.heap.size < wa.heap.size + 1 := (by omega)) | (refine appS rfl _ _ 25 (by rfl) w1.heap.size 5 i0 (.int .u8 0) 1 Try.underlying25 hii hz0 hz1 hz2 rfl .u8 _ _ o3 a1 l1 c1 x1 ((r1y.same (below2 w1 (.cells #[.int .i64 0, .int .i64 0, .int .i64 0, .int .u64 0, .int .u64 0, .slice none 0 0, .int .i64 0] 29) (.cells #[] 5)).drew).rd) h1 (by rfl) (by rfl) (by show w1.heap.size ≤ ((w1.alloc (.cells #[.int .i64 0, .int .i64 0, .int .i64 0, .int .u64 0, .int .u64 0, .slice none 0 0, .int .i64 0] 29)).alloc (.cells #[] 5)).heap.size; rw [size2]; omega) (by simp; omega) (by simp; omega) ?_; intro v' wa hown hgr hba; rw [List.nil_append] at hown; obtain ⟨a5, q5, ev, r5⟩ := hown.row r1.rd.2.2; have hno := hown; have BW : Below w1.heap.size w1 wa := (below2 w1 (.cells #[.int .i64 0, .int .i64 0, .int .i64 0, .int .u64 0, .int .u64 0, .slice none 0 0, .int .i64 0] 29) (.cells #[] 5)).drew.trans hba; have zwa : w1.heap.size + 2 ≤ wa.heap.size := (by have t : ((w1.alloc (.cells #[.int .i64 0, .int .i64 0, .int .i64 0, .int .u64 0, .int .u64 0, .slice none 0 0, .int .i64 0] 29)).alloc (.cells #[] 5)).heap.size ≤ wa.heap.size := hgr.size; rw [size2] at t; omega); have HK : wa.heap[w1.heap.size]? = some (.cells #[.int .i64 0, .int .i64 0, .int .i64 0, .int .u64 0, .int .u64 0, .slice none 0 0, .int .i64 0] 29) := blk_grown (w := ((w1.alloc (.cells #[.int .i64 0, .int .i64 0, .int .i64 0, .int .u64 0, .int .u64 0, .slice none 0 0, .int .i64 0] 29)).alloc (.cells #[] 5)).drew) (blk2a w1 (.cells #[.int .i64 0, .int .i64 0, .int .i64 0, .int .u64 0, .int .u64 0, .slice none 0 0, .int .i64 0] 29) (.cells #[] 5)) hgr (by intro q; simp [Value.ownBlock] at q); have NB := R10.own_ne_box hown HK (by decide); have HB0 := Box7.of HK; have HB := Blk7.of HB0; obtain ⟨k0, k1, k2, k3, k4, k5, k6, kf0, kf1, kf2, kf3, kf4, kf5, kf6⟩ := id HB0; have lK : w1.heap.size < wa.heap.size := (by omega); subst ev; rw [h1] at r5; have nK : x1 ≠ [] → ∀ x, a5 = some x → x.block ≠ w1.heap.size := (fun h x hx q => NB (by obtain ⟨g, cp, e⟩ := hno.form h; cases e; cases hx; rw [← q]; rfl)); have NE : x1 ≠ [] → ∀ x, a5 = some x → x.block ≠ w1.heap.size ∧ w1.heap.size ≤ x.block := (fun h x hx => ⟨nK h x hx, R10.ownGe hno x hx⟩); obtain ⟨e0, e1, e2, e3, e4, e5, e6, -, -, -, -, -, -, -⟩ := Xs_1.below BW lB0; have lBa : w.heap.size < wa.heap.size := (by omega); have lBb : w.heap.size < wa.heap.size + 1 := (by omega)))
    all_goals (try go_wp2)
    all_goals go_meet
    all_goals refine ⟨_, a5, q5, rfl, rfl, ?_, ?_, ?_, ?_, NE, ?_⟩
    all_goals first
      | (with_reducible refine Nat.le_refl _)
      | ((try simp only [World.size_setCell, World.size_alloc]); omega)
      | ((repeat (first | with_reducible exact HB | (with_reducible refine box7P ?_) | (with_reducible refine box7N (by (try simp only [World.size_setCell, World.size_alloc]); done)) | (with_reducible refine box7N (by simp only [World.size_setCell, World.size_alloc])) | (with_reducible refine box7N rfl) | (with_reducible refine box7A ?_) | (with_reducible refine box7S ?_ (by omega)) | (with_reducible refine blk7A ?_) | (with_reducible refine blk7S ?_ (by omega)))); done)
      | ((repeat (first | with_reducible exact r5 | (with_reducible refine rowA ?_) | (with_reducible refine rowK ?_ nK))); done)
      | ((repeat (first | with_reducible exact BW | (with_reducible refine bS ?_ (by omega)) | (with_reducible refine bA ?_ (by (try simp only [World.size_setCell, World.size_alloc]); omega)))); done)
  case rest =>
    obtain ⟨K1, a5, q5, rfl, rfl, gK, lK, Xo, r5, NE, hbc⟩ := hcut
    obtain ⟨w5, e5⟩ : ∃ x, x = wc := ⟨_, rfl⟩
    subst e5
    have Xs := Xs_1.below hbc ls_1
    have hB5 := hB1.trans (hbc.mono hB1.size)
    have hT := fun w' (r : RowIn .u8 w' a05 l05 c05 x05) => twin_any a05 l05 c05 x05 n06 w' r hl5
    unfold bv at hT
    have l5 : w.heap.size < w5.heap.size := by have := ls_1; omega
    have nKB : K1 ≠ w.heap.size := by have := ls_1; omega
    have nBK := nKB.symm
    clear cs0_1 cs1_1 cs2_1 cs3_1 cs4_1 cs5_1 cs6_1 s0 s1 s2 s3 s4 s5 s6 hG hG2 hii hz0 hz1 hz2 r1y
    obtain ⟨s0, s1, s2, s3, s4, s5, s6, -, -, -, -, -, -, -⟩ := id Xs
    obtain ⟨o0, o1, o2, o3, o4, o5, o6, of0, of1, of2, of3, of4, of5, of6⟩ := id Xo
    go_wp2_with ((with_reducible refine (hT _ (r05.same hB5)).mono ?_); rintro e w6' ⟨v, rfl, ho6, hb6⟩; obtain ⟨a6, q6, rfl, r6⟩ := ho6.row r05.rd.2.2; have f6 := R10.ownGe ho6; have z6 := hb6.size; simp only [h5] at r6 ⊢; have So := Xo.below hb6 lK; clear o0 o1 o2 o3 o4 o5 o6 of0 of1 of2 of3 of4 of5 of6; obtain ⟨o0, o1, o2, o3, o4, o5, o6, of0, of1, of2, of3, of4, of5, of6⟩ := id So; have lK6 : K1 < w6'.heap.size := (by omega))
    have hB6' := hB5.trans (hb6.mono (by omega))
    have nK6 : ∀ x, a6 = some x → x.block ≠ K1 := fun x hx => by have := f6 x hx; omega
    have Xo_6 := (So.put5 (.slice a6 l05 q6)).put6 (.int .i64 n06)
    have Xs_6 := ((Xs.below hb6 l5).set (g' := K1) (i := 5) (x := .slice a6 l05 q6) nBK).set (g' := K1) (i := 6) (x := .int .i64 n06) nBK
    have Rt_6 := rowS (g := K1) (i := 6) (u := .int .i64 n06) (rowS (g := K1) (i := 5) (u := .slice a6 l05 q6) r6 nK6) nK6
    have Rp_6 := rowK (g := K1) (i := 6) (u := .int .i64 n06) (rowK (g := K1) (i := 5) (u := .slice a6 l05 q6) (r5.same hb6) (fun h x hx => (NE h x hx).1)) (fun h x hx => (NE h x hx).1)
    have hB6 := bS (g := K1) (i := 6) (v := .int .i64 n06) (bS (g := K1) (i := 5) (v := .slice a6 l05 q6) hB6' (by omega)) (show w.heap.size ≤ K1 by omega)
    have lo_6 : K1 < ((w6'.setCell ⟨K1, 5, none⟩ (.slice a6 l05 q6)).setCell ⟨K1, 6, none⟩ (.int .i64 n06)).heap.size := by simp only [World.size_setCell]; exact lK6
    have ls_6 : w.heap.size < ((w6'.setCell ⟨K1, 5, none⟩ (.slice a6 l05 q6)).setCell ⟨K1, 6, none⟩ (.int .i64 n06)).heap.size := by simp only [World.size_setCell]; omega
    clear o0 o1 o2 o3 o4 o5 o6 of0 of1 of2 of3 of4 of5 of6 So nK6 lK6
    generalize ((w6'.setCell ⟨K1, 5, none⟩ (.slice a6 l05 q6)).setCell ⟨K1, 6, none⟩ (.int .i64 n06)) = w6 at *
    clear hB6' hb6 z6 f6 r6 ho6 hB5 hbc Xs s0 s1 s2 s3 s4 s5 s6 r5 Xo l5 lK NE hT hB1 hb1 hq1 z1 Xs_1 ls_1
    have cs0_6 := Xs_6.c0
    have cs1_6 := Xs_6.c1
    have cs2_6 := Xs_6.c2
    have cs3_6 := Xs_6.c3
    have cs4_6 := Xs_6.c4
    have cs5_6 := Xs_6.c5
    have cs6_6 := Xs_6.c6
    have co0_6 := Xo_6.c0
    have co1_6 := Xo_6.c1
    have co2_6 := Xo_6.c2
    have co3_6 := Xo_6.c3
    have co4_6 := Xo_6.c4
    have co5_6 := Xo_6.c5
    have co6_6 := Xo_6.c6
    have hF := fun a q a' q' w' (r : RowIn .u8 w' a l05 q x05) (r' : RowIn .u8 w' a' l1 q' x1) => feed_any a l05 q ⟨n00, ⟨n01, n02, n03, n04⟩, x05, n06⟩ a' l1 q' x1 w' r iS r'
    have hRF := fun w' (r : RowIn .u8 w' a05 l05 c05 x05) (r' : RowIn .u8 w' a1 l1 c1 x1) => rfeed_any a05 l05 c05 ⟨n00, ⟨n01, n02, n03, n04⟩, x05, n06⟩ a1 l1 c1 x1 w' r iS r'
    have hCk := fun a q w' (r : RowIn .u8 w' a l05 q x05) => chk10_any a l05 q ⟨n00, ⟨n01, n02, n03, n04⟩, x05, n06⟩ w' r iS
    have hRC := fun w' (r : RowIn .u8 w' a05 l05 c05 x05) => rchk10_any a05 l05 c05 ⟨n00, ⟨n01, n02, n03, n04⟩, x05, n06⟩ w' r iS
    have hSO := fun a q w' (r : RowIn .u8 w' a l05 q x05) (r' : RowIn .u8 w' a05 l05 c05 x05) => rsame10_any a l05 q ⟨n00, ⟨n01, n02, n03, n04⟩, x05, n06⟩ a05 l05 c05 ⟨n00, ⟨n01, n02, n03, n04⟩, x05, n06⟩ w' r r'
    have es1 : sameR ⟨n00, ⟨n01, n02, n03, n04⟩, x05, n06⟩ ⟨n00, ⟨n01, n02, n03, n04⟩, x05, n06⟩ = true := sameR_self _ (by simp [sameB])
    simp only [es1] at hSO
    generalize rcE ⟨n00, ⟨n01, n02, n03, n04⟩, x05, n06⟩ = CE at hCk hRC
    generalize reR ⟨n00, ⟨n01, n02, n03, n04⟩, x05, n06⟩ x1 = XR at hF hRF
    generalize reV ⟨n00, ⟨n01, n02, n03, n04⟩, x05, n06⟩ x1 = L at hF hRF
    generalize reE ⟨n00, ⟨n01, n02, n03, n04⟩, x05, n06⟩ x1 = E at hF hRF
    have es2 : sameR XR XR = true := sameR_self _ (by simp [sameB])
    have hSM := fun a q a' q' w' (r : RowIn .u8 w' a XR.xs.length q XR.xs) (r' : RowIn .u8 w' a' XR.xs.length q' XR.xs) => rsame10_any a XR.xs.length q XR a' XR.xs.length q' XR w' r r'
    simp only [es2] at hSM
    have hT9 := fun a q a' q' w' (r : RowIn .u32 w' a L.length q L) (r' : RowIn .u32 w' a' L.length q' L) => same9b a L.length q L a' L.length q' L w' r r'
    simp only [sameL_self] at hT9
    obtain ⟨xl, ⟨xa, xb, xs, xt⟩, X, xn⟩ := XR
    unfold vR at hF hRF hCk hRC hSO hSM
    dsimp only at hF hRF hCk hRC hSO hSM
    obtain ⟨lX, hlX⟩ : ∃ l, X.length = l := ⟨_, rfl⟩
    obtain ⟨lL, hlL⟩ : ∃ l, L.length = l := ⟨_, rfl⟩
    simp only [hlX, hlL] at hF hRF hSM hT9
    clear es1 es2 hlX hlL iS hl5 hl1 h5
    go_wp2_with (first | ((with_reducible refine (hF _ _ _ _ _ Rt_6 Rp_6).mono ?_); rintro e w7 ⟨a7, q7, p7, m7, rfl, h7, g7, hb7, -, -⟩; have Rx_7 := h7; have Rm_7 := g7; have z7 := hb7.size; have hq7 : Below w6.heap.size w6 w7 := (Below.refl _ w6).trans (hb7.mono (by omega)); have hB7 := hB6.trans (hq7.mono hB6.size); have Xs_7 := Xs_6.below hq7 (by omega); have Xo_7 := Xo_6.below hq7 (by omega); have Rp_7 := Rp_6.same hq7; have Rt_7 := Rt_6.same hq7; have cs0_7 := Xs_7.c0; have cs1_7 := Xs_7.c1; have cs2_7 := Xs_7.c2; have cs3_7 := Xs_7.c3; have cs4_7 := Xs_7.c4; have cs5_7 := Xs_7.c5; have cs6_7 := Xs_7.c6; have ls_7 : w.heap.size < w7.heap.size := (by omega); have co0_7 := Xo_7.c0; have co1_7 := Xo_7.c1; have co2_7 := Xo_7.c2; have co3_7 := Xo_7.c3; have co4_7 := Xo_7.c4; have co5_7 := Xo_7.c5; have co6_7 := Xo_7.c6; have lo_7 : K1 < w7.heap.size := (by omega); clear cs0_6 cs1_6 cs2_6 cs3_6 cs4_6 cs5_6 cs6_6 ls_6 Xs_6 co0_6 co1_6 co2_6 co3_6 co4_6 co5_6 co6_6 lo_6 Xo_6) | ((with_reducible refine (hRF _ (r05.same (hB7.trans ((below1 w7 _).mono hB7.size))) (r1.same (hB7.trans ((below1 w7 _).mono hB7.size)))).mono ?_); rintro e w8 ⟨a8, q8, p8, m8, rfl, h8, g8, hb8⟩; rw [size1] at hb8; have Ry_8 := h8; have Rk_8 := g8; have z8 := hb8.size; rw [size1] at z8; have hq8 : Below w7.heap.size w7 w8 := (below1 w7 _).trans (hb8.mono (by omega)); have hB8 := hB7.trans (hq8.mono hB7.size); have Xs_8 := Xs_7.below hq8 (by omega); have Xo_8 := Xo_7.below hq8 (by omega); have Xx_8 := (Box7.of (blk1 w7 _)).below hb8 (by omega); have Rp_8 := Rp_7.same hq8; have Rt_8 := Rt_7.same hq8; have Rx_8 := Rx_7.same hq8; have Rm_8 := Rm_7.same hq8; have cs0_8 := Xs_8.c0; have cs1_8 := Xs_8.c1; have cs2_8 := Xs_8.c2; have cs3_8 := Xs_8.c3; have cs4_8 := Xs_8.c4; have cs5_8 := Xs_8.c5; have cs6_8 := Xs_8.c6; have ls_8 : w.heap.size < w8.heap.size := (by omega); have co0_8 := Xo_8.c0; have co1_8 := Xo_8.c1; have co2_8 := Xo_8.c2; have co3_8 := Xo_8.c3; have co4_8 := Xo_8.c4; have co5_8 := Xo_8.c5; have co6_8 := Xo_8.c6; have lo_8 : K1 < w8.heap.size := (by omega); have cx0_8 := Xx_8.c0; have cx1_8 := Xx_8.c1; have cx2_8 := Xx_8.c2; have cx3_8 := Xx_8.c3; have cx4_8 := Xx_8.c4; have cx5_8 := Xx_8.c5; have cx6_8 := Xx_8.c6; have lx_8 : w7.heap.size < w8.heap.size := (by omega); clear cs0_7 cs1_7 cs2_7 cs3_7 cs4_7 cs5_7 cs6_7 ls_7 Xs_7 co0_7 co1_7 co2_7 co3_7 co4_7 co5_7 co6_7 lo_7 Xo_7))
    have hbe := below1 w8 (.cells #[.int .i64 xl, .int .i64 xa, .int .i64 xb, .int .u64 xs, .int .u64 xt, .slice a8 lX q8, .int .i64 xn] 29)
    have hsz := size1 w8 (.cells #[.int .i64 xl, .int .i64 xa, .int .i64 xb, .int .u64 xs, .int .u64 xt, .slice a8 lX q8, .int .i64 xn] 29)
    have Zy0 := Box7.of (blk1 w8 (.cells #[.int .i64 xl, .int .i64 xa, .int .i64 xb, .int .u64 xs, .int .u64 xt, .slice a8 lX q8, .int .i64 xn] 29))
    have Zs0 := Xs_8.below hbe ls_8
    have Zo0 := Xo_8.below hbe lo_8
    have Zx0 := Xx_8.below hbe lx_8
    have gB0 := hB8.trans (hbe.mono hB8.size)
    have Rt := Rt_8.same hbe
    have Rp := Rp_8.same hbe
    have Rx := Rx_8.same hbe
    have Rm := Rm_8.same hbe
    have Ry := Ry_8.same hbe
    have Rk := Rk_8.same hbe
    have hls : w.heap.size < w8.heap.size + 1 := by omega
    have hlo : K1 < w8.heap.size + 1 := by omega
    have hlx : w7.heap.size < w8.heap.size + 1 := by omega
    have hly : w8.heap.size < w8.heap.size + 1 := by omega
    rw [← hsz] at hls hlo hlx hly
    generalize w8.alloc (.cells #[.int .i64 xl, .int .i64 xa, .int .i64 xb, .int .u64 xs, .int .u64 xt, .slice a8 lX q8, .int .i64 xn] 29) = W0 at *
    have gq0 : Below W0.heap.size W0 W0 := Below.refl _ _
    clear hbe hsz hF hRF hq7 hq8 hb7 hb8 z7 z8 h7 h8 g7 g8 hB7 hB8 hB6 Xs_8 ls_8 cs0_8 cs1_8 cs2_8 cs3_8 cs4_8 cs5_8 cs6_8 Xo_8 lo_8 co0_8 co1_8 co2_8 co3_8 co4_8 co5_8 co6_8 Xx_8 lx_8 cx0_8 cx1_8 cx2_8 cx3_8 cx4_8 cx5_8 cx6_8 Rt_8 Rp_8 Rx_8 Rm_8 Ry_8 Rk_8
    go_region_held3 (fun w' => w'.cell? ⟨w.heap.size, 0, none⟩ = some (.int .i64 n00) ∧ w'.cell? ⟨w.heap.size, 1, none⟩ = some (.int .i64 n01) ∧ w'.cell? ⟨w.heap.size, 2, none⟩ = some (.int .i64 n02) ∧ w'.cell? ⟨w.heap.size, 3, none⟩ = some (.int .u64 n03) ∧ w'.cell? ⟨w.heap.size, 4, none⟩ = some (.int .u64 n04) ∧ w'.cell? ⟨w.heap.size, 5, none⟩ = some (.slice a05 l05 c05) ∧ w'.cell? ⟨w.heap.size, 6, none⟩ = some (.int .i64 n06) ∧ w'.cell? ⟨K1, 0, none⟩ = some (.int .i64 n00) ∧ w'.cell? ⟨K1, 1, none⟩ = some (.int .i64 n01) ∧ w'.cell? ⟨K1, 2, none⟩ = some (.int .i64 n02) ∧ w'.cell? ⟨K1, 3, none⟩ = some (.int .u64 n03) ∧ w'.cell? ⟨K1, 4, none⟩ = some (.int .u64 n04) ∧ w'.cell? ⟨K1, 5, none⟩ = some (.slice a6 l05 q6) ∧ w'.cell? ⟨K1, 6, none⟩ = some (.int .i64 n06) ∧ w'.cell? ⟨w7.heap.size, 0, none⟩ = some (.int .i64 xl) ∧ w'.cell? ⟨w7.heap.size, 1, none⟩ = some (.int .i64 xa) ∧ w'.cell? ⟨w7.heap.size, 2, none⟩ = some (.int .i64 xb) ∧ w'.cell? ⟨w7.heap.size, 3, none⟩ = some (.int .u64 xs) ∧ w'.cell? ⟨w7.heap.size, 4, none⟩ = some (.int .u64 xt) ∧ w'.cell? ⟨w7.heap.size, 5, none⟩ = some (.slice a7 lX q7) ∧ w'.cell? ⟨w7.heap.size, 6, none⟩ = some (.int .i64 xn) ∧ w'.cell? ⟨w8.heap.size, 0, none⟩ = some (.int .i64 xl) ∧ w'.cell? ⟨w8.heap.size, 1, none⟩ = some (.int .i64 xa) ∧ w'.cell? ⟨w8.heap.size, 2, none⟩ = some (.int .i64 xb) ∧ w'.cell? ⟨w8.heap.size, 3, none⟩ = some (.int .u64 xs) ∧ w'.cell? ⟨w8.heap.size, 4, none⟩ = some (.int .u64 xt) ∧ w'.cell? ⟨w8.heap.size, 5, none⟩ = some (.slice a8 lX q8) ∧ w'.cell? ⟨w8.heap.size, 6, none⟩ = some (.int .i64 xn) ∧ (convert 25 9 (.slice a5 l1 q5)).run Try.prog w' = .ok (.string (bstr x1)) w' ∧ (convert 25 9 (.slice a1 l1 c1)).run Try.prog w' = .ok (.string (bstr x1)) w') (first  | with_reducible exact ⟨Zs0.drew.c0, Zs0.drew.c1, Zs0.drew.c2, Zs0.drew.c3, Zs0.drew.c4, Zs0.drew.c5, Zs0.drew.c6, Zo0.drew.c0, Zo0.drew.c1, Zo0.drew.c2, Zo0.drew.c3, Zo0.drew.c4, Zo0.drew.c5, Zo0.drew.c6, Zx0.drew.c0, Zx0.drew.c1, Zx0.drew.c2, Zx0.drew.c3, Zx0.drew.c4, Zx0.drew.c5, Zx0.drew.c6, Zy0.drew.c0, Zy0.drew.c1, Zy0.drew.c2, Zy0.drew.c3, Zy0.drew.c4, Zy0.drew.c5, Zy0.drew.c6, ((Rp.same gq0.drew).rd.strD (P := Try.prog) l1 q5 h1 (src := 25) (dst := 9) Try.underlying25 Try.underlying5 Try.underlying9).1, ((r1.same gB0.drew).rd.strD (P := Try.prog) l1 c1 h1 (src := 25) (dst := 9) Try.underlying25 Try.underlying5 Try.underlying9).1⟩ | with_reducible exact ⟨Zs1.c0, Zs1.c1, Zs1.c2, Zs1.c3, Zs1.c4, Zs1.c5, Zs1.c6, Zo1.c0, Zo1.c1, Zo1.c2, Zo1.c3, Zo1.c4, Zo1.c5, Zo1.c6, Zx1.c0, Zx1.c1, Zx1.c2, Zx1.c3, Zx1.c4, Zx1.c5, Zx1.c6, Zy1.c0, Zy1.c1, Zy1.c2, Zy1.c3, Zy1.c4, Zy1.c5, Zy1.c6, ((Rp.same gq1).rd.strD (P := Try.prog) l1 q5 h1 (src := 25) (dst := 9) Try.underlying25 Try.underlying5 Try.underlying9).1, ((r1.same gB1).rd.strD (P := Try.prog) l1 c1 h1 (src := 25) (dst := 9) Try.underlying25 Try.underlying5 Try.underlying9).1⟩ | with_reducible exact ⟨Zs2.c0, Zs2.c1, Zs2.c2, Zs2.c3, Zs2.c4, Zs2.c5, Zs2.c6, Zo2.c0, Zo2.c1, Zo2.c2, Zo2.c3, Zo2.c4, Zo2.c5, Zo2.c6, Zx2.c0, Zx2.c1, Zx2.c2, Zx2.c3, Zx2.c4, Zx2.c5, Zx2.c6, Zy2.c0, Zy2.c1, Zy2.c2, Zy2.c3, Zy2.c4, Zy2.c5, Zy2.c6, ((Rp.same gq2).rd.strD (P := Try.prog) l1 q5 h1 (src := 25) (dst := 9) Try.underlying25 Try.underlying5 Try.underlying9).1, ((r1.same gB2).rd.strD (P := Try.prog) l1 c1 h1 (src := 25) (dst := 9) Try.underlying25 Try.underlying5 Try.underlying9).1⟩ | with_reducible exact ⟨Zs3.c0, Zs3.c1, Zs3.c2, Zs3.c3, Zs3.c4, Zs3.c5, Zs3.c6, Zo3.c0, Zo3.c1, Zo3.c2, Zo3.c3, Zo3.c4, Zo3.c5, Zo3.c6, Zx3.c0, Zx3.c1, Zx3.c2, Zx3.c3, Zx3.c4, Zx3.c5, Zx3.c6, Zy3.c0, Zy3.c1, Zy3.c2, Zy3.c3, Zy3.c4, Zy3.c5, Zy3.c6, ((Rp.same gq3).rd.strD (P := Try.prog) l1 q5 h1 (src := 25) (dst := 9) Try.underlying25 Try.underlying5 Try.underlying9).1, ((r1.same gB3).rd.strD (P := Try.prog) l1 c1 h1 (src := 25) (dst := 9) Try.underlying25 Try.underlying5 Try.underlying9).1⟩ | with_reducible exact ⟨Zs4.c0, Zs4.c1, Zs4.c2, Zs4.c3, Zs4.c4, Zs4.c5, Zs4.c6, Zo4.c0, Zo4.c1, Zo4.c2, Zo4.c3, Zo4.c4, Zo4.c5, Zo4.c6, Zx4.c0, Zx4.c1, Zx4.c2, Zx4.c3, Zx4.c4, Zx4.c5, Zx4.c6, Zy4.c0, Zy4.c1, Zy4.c2, Zy4.c3, Zy4.c4, Zy4.c5, Zy4.c6, ((Rp.same gq4).rd.strD (P := Try.prog) l1 q5 h1 (src := 25) (dst := 9) Try.underlying25 Try.underlying5 Try.underlying9).1, ((r1.same gB4).rd.strD (P := Try.prog) l1 c1 h1 (src := 25) (dst := 9) Try.underlying25 Try.underlying5 Try.underlying9).1⟩ | with_reducible exact ⟨Zs5.c0, Zs5.c1, Zs5.c2, Zs5.c3, Zs5.c4, Zs5.c5, Zs5.c6, Zo5.c0, Zo5.c1, Zo5.c2, Zo5.c3, Zo5.c4, Zo5.c5, Zo5.c6, Zx5.c0, Zx5.c1, Zx5.c2, Zx5.c3, Zx5.c4, Zx5.c5, Zx5.c6, Zy5.c0, Zy5.c1, Zy5.c2, Zy5.c3, Zy5.c4, Zy5.c5, Zy5.c6, ((Rp.same gq5).rd.strD (P := Try.prog) l1 q5 h1 (src := 25) (dst := 9) Try.underlying25 Try.underlying5 Try.underlying9).1, ((r1.same gB5).rd.strD (P := Try.prog) l1 c1 h1 (src := 25) (dst := 9) Try.underlying25 Try.underlying5 Try.underlying9).1⟩ | go_keep) (first  | (go_at_call 11; (with_reducible refine (hCk _ _ _ (Rt.same gq0.drew)).mono ?_); rintro e W1 ⟨rfl, gb1⟩; have gB1 := gB0.drew.trans (gb1.mono (show w.heap.size ≤ W0.heap.size by omega)); have gz1 : W0.heap.size ≤ W1.heap.size := gb1.size; have gq1 := gq0.drew.trans (gb1.mono (show W0.heap.size ≤ W0.heap.size by omega)); have Zs1 := Zs0.drew.below gb1 (show w.heap.size < W0.heap.size by omega); have Zo1 := Zo0.drew.below gb1 (show K1 < W0.heap.size by omega); have Zx1 := Zx0.drew.below gb1 (show w7.heap.size < W0.heap.size by omega); have Zy1 := Zy0.drew.below gb1 (show w8.heap.size < W0.heap.size by omega)) | (go_at_call 19; (with_reducible refine (hRC _ (r05.same gB1)).mono ?_); rintro e W2 ⟨rfl, gb2⟩; have gB2 := gB1.trans (gb2.mono (show w.heap.size ≤ W1.heap.size by omega)); have gz2 : W1.heap.size ≤ W2.heap.size := gb2.size; have gq2 := gq1.trans (gb2.mono (show W0.heap.size ≤ W1.heap.size by omega)); have Zs2 := Zs1.below gb2 (show w.heap.size < W1.heap.size by omega); have Zo2 := Zo1.below gb2 (show K1 < W1.heap.size by omega); have Zx2 := Zx1.below gb2 (show w7.heap.size < W1.heap.size by omega); have Zy2 := Zy1.below gb2 (show w8.heap.size < W1.heap.size by omega)) | (go_at_call 12; (with_reducible refine (hSM _ _ _ _ _ (Rx.same gq2) (Ry.same gq2)).mono ?_); rintro e W3 ⟨rfl, gb3⟩; have gB3 := gB2.trans (gb3.mono (show w.heap.size ≤ W2.heap.size by omega)); have gz3 : W2.heap.size ≤ W3.heap.size := gb3.size; have gq3 := gq2.trans (gb3.mono (show W0.heap.size ≤ W2.heap.size by omega)); have Zs3 := Zs2.below gb3 (show w.heap.size < W2.heap.size by omega); have Zo3 := Zo2.below gb3 (show K1 < W2.heap.size by omega); have Zx3 := Zx2.below gb3 (show w7.heap.size < W2.heap.size by omega); have Zy3 := Zy2.below gb3 (show w8.heap.size < W2.heap.size by omega)) | (go_at_call 13; (with_reducible refine (hT9 _ _ _ _ _ (Rm.same gq3) (Rk.same gq3)).mono ?_); rintro e W4 ⟨rfl, gb4⟩; have gB4 := gB3.trans (gb4.mono (show w.heap.size ≤ W3.heap.size by omega)); have gz4 : W3.heap.size ≤ W4.heap.size := gb4.size; have gq4 := gq3.trans (gb4.mono (show W0.heap.size ≤ W3.heap.size by omega)); have Zs4 := Zs3.below gb4 (show w.heap.size < W3.heap.size by omega); have Zo4 := Zo3.below gb4 (show K1 < W3.heap.size by omega); have Zx4 := Zx3.below gb4 (show w7.heap.size < W3.heap.size by omega); have Zy4 := Zy3.below gb4 (show w8.heap.size < W3.heap.size by omega)) | (go_at_call 12; (with_reducible refine (hSO _ _ _ (Rt.same gq4) (r05.same gB4)).mono ?_); rintro e W5 ⟨rfl, gb5⟩; have gB5 := gB4.trans (gb5.mono (show w.heap.size ≤ W4.heap.size by omega)); have gz5 : W4.heap.size ≤ W5.heap.size := gb5.size; have gq5 := gq4.trans (gb5.mono (show W0.heap.size ≤ W4.heap.size by omega)); have Zs5 := Zs4.below gb5 (show w.heap.size < W4.heap.size by omega); have Zo5 := Zo4.below gb5 (show K1 < W4.heap.size by omega); have Zx5 := Zx4.below gb5 (show w7.heap.size < W4.heap.size by omega); have Zy5 := Zy4.below gb5 (show w8.heap.size < W4.heap.size by omega); have st1 := ((Rp.same gq5).rd.strD (P := Try.prog) l1 q5 h1 (src := 25) (dst := 9) Try.underlying25 Try.underlying5 Try.underlying9).1; have st2 := ((r1.same gB5).rd.strD (P := Try.prog) l1 c1 h1 (src := 25) (dst := 9) Try.underlying25 Try.underlying5 Try.underlying9).1) | fail)
    all_goals
      go_wp2
      go_ret
      exact ⟨rfl, gB5⟩
end Go.Proofs.Ytmnhepcnbdbhoaa.Wk

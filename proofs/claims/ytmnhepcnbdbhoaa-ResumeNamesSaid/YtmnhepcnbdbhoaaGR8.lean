/- What the reference of layer 8 returns: states. What the reference of layer 8 returns: learning, lengths. What the reference of layer 8 returns: reading. -/
import Derived.Test.YtmnhepcnbdbhoaaGR7
import Derived.Test.YtmnhepcnbdbhoaaGD
import Derived.Deep.RegionHeld3
namespace Go.Proofs.Ytmnhepcnbdbhoaa.R08
open Go.Proofs Go.RowKit Go.Proofs.Ytmnhepcnbdbhoaa.Kit Go.Proofs.Ytmnhepcnbdbhoaa.M01 Go.Proofs.Ytmnhepcnbdbhoaa.M02 Go.Proofs.Ytmnhepcnbdbhoaa.M06 Go.Proofs.Ytmnhepcnbdbhoaa.M07 Go.Proofs.Ytmnhepcnbdbhoaa.M08 Go.Proofs.Ytmnhepcnbdbhoaa.Bt Go.Proofs.Ytmnhepcnbdbhoaa.R02 Go.Proofs.Ytmnhepcnbdbhoaa.Un Go.Proofs.Ytmnhepcnbdbhoaa.R06 Go.Proofs.Ytmnhepcnbdbhoaa.Ri Go.Proofs.Ytmnhepcnbdbhoaa.R07 Go.Proofs.Ytmnhepcnbdbhoaa.Du
set_option linter.unusedVariables false
attribute [local irreducible] wpStill


set_option maxHeartbeats 4000000 in
theorem rcheckD_any (d : D4) (w : World) (hd : isD d) : Calls Try.prog 37 #[dv d] w fun e w' => e = .returned (.int .i64 (chD d)) ∧ Below w.heap.size w w' := by
  have hI0 := fun w' => rparam_any d.a w'
  have hI1 := fun w' => rparam_any d.b w'
  by_cases ha : d.a < 0 ∨ 24 < d.a
  · have h8 : chD d = 8 := by unfold chD; rw [if_neg (fun g => by have := okD_iff.1 g; omega)]
    rw [h8]
    rw [isK_no ha] at hI0
    obtain ⟨a, b, s, t⟩ := d
    unfold dv
    simp only at hI0 hI1 ⊢
    clear h8
    go_enter Try.func37, Try.ntmps37
    go_wp2_with (first | (go_at_call 54; (with_reducible refine (hI0 _).mono ?_); rintro e wz ⟨rfl, rfl⟩) | (go_at_call 54; (with_reducible refine (hI1 _).mono ?_); rintro e wz ⟨rfl, rfl⟩))
    go_ret
    exact ⟨rfl, below1 _ _⟩
  rw [isK_yes (by omega) (by omega)] at hI0
  by_cases hb : d.b < 0 ∨ 24 < d.b
  · have h8 : chD d = 8 := by unfold chD; rw [if_neg (fun g => by have := okD_iff.1 g; omega)]
    rw [h8]
    rw [isK_no hb] at hI1
    obtain ⟨a, b, s, t⟩ := d
    unfold dv
    simp only at hI0 hI1 ⊢
    clear h8
    go_enter Try.func37, Try.ntmps37
    go_wp2_with (first | (go_at_call 54; (with_reducible refine (hI0 _).mono ?_); rintro e wz ⟨rfl, rfl⟩) | (go_at_call 54; (with_reducible refine (hI1 _).mono ?_); rintro e wz ⟨rfl, rfl⟩))
    go_ret
    exact ⟨rfl, below1 _ _⟩
  rw [isK_yes (by omega) (by omega)] at hI1
  by_cases hs : 68719476735 < d.s
  · have h8 : chD d = 8 := by unfold chD; rw [if_neg (fun g => by have := okD_iff.1 g; omega)]
    rw [h8]
    obtain ⟨a, b, s, t⟩ := d
    unfold dv
    simp only at hI0 hI1 hs ⊢
    have f1 : (68719476735 < s) = True := eq_true hs
    clear h8
    go_enter Try.func37, Try.ntmps37
    go_wp2_with (first | (go_at_call 54; (with_reducible refine (hI0 _).mono ?_); rintro e wz ⟨rfl, rfl⟩) | (go_at_call 54; (with_reducible refine (hI1 _).mono ?_); rintro e wz ⟨rfl, rfl⟩))
    go_ret
    exact ⟨rfl, below1 _ _⟩
  by_cases ht : 68719476735 < d.t
  · have h8 : chD d = 8 := by unfold chD; rw [if_neg (fun g => by have := okD_iff.1 g; omega)]
    rw [h8]
    obtain ⟨a, b, s, t⟩ := d
    unfold dv
    simp only at hI0 hI1 hs ht ⊢
    have f1 : (68719476735 < s) = False := eq_false hs
    have f2 : (68719476735 < t) = True := eq_true ht
    clear h8
    go_enter Try.func37, Try.ntmps37
    go_wp2_with (first | (go_at_call 54; (with_reducible refine (hI0 _).mono ?_); rintro e wz ⟨rfl, rfl⟩) | (go_at_call 54; (with_reducible refine (hI1 _).mono ?_); rintro e wz ⟨rfl, rfl⟩))
    go_ret
    exact ⟨rfl, below1 _ _⟩
  · have h8 : chD d = 0 := by unfold chD; rw [if_pos (okD_iff.2 (by omega))]
    rw [h8]
    obtain ⟨a, b, s, t⟩ := d
    unfold dv
    simp only at hI0 hI1 hs ht ⊢
    have f1 : (68719476735 < s) = False := eq_false hs
    have f2 : (68719476735 < t) = False := eq_false ht
    clear h8
    go_enter Try.func37, Try.ntmps37
    go_wp2_with (first | (go_at_call 54; (with_reducible refine (hI0 _).mono ?_); rintro e wz ⟨rfl, rfl⟩) | (go_at_call 54; (with_reducible refine (hI1 _).mono ?_); rintro e wz ⟨rfl, rfl⟩))
    go_ret
    exact ⟨rfl, below1 _ _⟩

set_option maxHeartbeats 4000000 in
theorem rpair_any (k s v : Int) (w : World) (h0 : 0 ≤ k) (h1 : k ≤ 24) (s0 : 0 ≤ s) (s1 : s ≤ 68719476735) (hv : isU v) :
    Calls Try.prog 68 #[.int .i64 k, .int .u64 s, .int .u64 v] w fun e w' => e = .returned (.tuple #[.int .i64 (lK k (lS s v)), .int .u64 (lS s v)]) ∧ w = w' := by
  obtain ⟨v0, v1⟩ := hv
  have q4 := fun w' => rpower_any (k + 4) w' (by omega) (by omega)
  have q5 := fun w' => rpower_any (k + 5) w' (by omega) (by omega)
  obtain ⟨S, hS⟩ : ∃ S, s - s / 16 + v = S := ⟨_, rfl⟩
  have hS2 : s + v - s / 16 = S := by omega
  obtain ⟨K, hK⟩ : ∃ K, lK k (lS s v) = K := ⟨_, rfl⟩
  rw [hK]
  unfold lK lS at hK
  obtain ⟨P4, hP4⟩ : ∃ P, p2 (k + 4) = P := ⟨_, rfl⟩
  obtain ⟨P5, hP5⟩ : ∃ P, p2 (k + 5) = P := ⟨_, rfl⟩
  rw [hS, hP4, hP5] at hK
  simp only [hP4] at q4
  simp only [hP5] at q5
  unfold lS
  rw [hS]
  have HK := hid hK
  have HS := hid hS2
  clear hP4 hP5 hK hS hS2
  go_enter Try.func68, Try.ntmps68
  go_wp2_with (first | (go_at_call 58; (with_reducible refine (q4 _).mono ?_); rintro e wz ⟨rfl, rfl⟩) | (go_at_call 58; (with_reducible refine (q5 _).mono ?_); rintro e wz ⟨rfl, rfl⟩))
  all_goals
    go_ret2
    exact ⟨pr_eq (by have h := HK.out; have h2 := HS.out; split at h <;> omega) HS.out, rfl⟩

theorem small_u64' {v : Int} (h : isU v) : IntKind.u64.wrap v = v := by
  obtain ⟨h0, h1⟩ := h
  simp [IntKind.wrap, IntKind.bits, IntKind.signed]; omega

set_option maxHeartbeats 4000000 in
theorem low8_any (d : D4) (v : Int) (b : Bool) (w : World) (h0 : 0 ≤ d.a) (h1 : d.a ≤ 24) (hv : isU v) (hb : b = decide (v < p2 d.a)) : Calls Try.prog 67 #[dv d, .int .u32 v] w fun e w' => e = .returned (.bool b) ∧ Below w.heap.size w w' := by
  have hP := fun w' => rpower_any d.a w' h0 (by omega)
  have hu := small_u64' hv
  obtain ⟨a, b', s, t⟩ := d
  simp only at h0 h1 hb hP
  unfold dv
  simp only
  obtain ⟨P, hPP⟩ : ∃ P, p2 a = P := ⟨_, rfl⟩
  simp only [hPP] at hb hP
  clear hPP
  by_cases hl : v < P
  · rw [decide_eq_true hl] at hb
    subst hb
    have f1 : (v < P) = True := eq_true hl
    go_enter Try.func67, Try.ntmps67
    go_wp2_with (go_at_call 58; (with_reducible refine (hP _).mono ?_); rintro e wz ⟨rfl, rfl⟩)
    go_ret
    exact ⟨rfl, below1 _ _⟩
  · rw [decide_eq_false hl] at hb
    subst hb
    have f1 : (v < P) = False := eq_false hl
    go_enter Try.func67, Try.ntmps67
    go_wp2_with (go_at_call 58; (with_reducible refine (hP _).mono ?_); rintro e wz ⟨rfl, rfl⟩)
    go_ret
    exact ⟨rfl, below1 _ _⟩

set_option maxHeartbeats 4000000 in
theorem left8_any (d : D4) (v : Int) (w : World) (h0 : 0 ≤ d.a) (h1 : d.a ≤ 24) (hv : isU v) (hb : ¬ v < p2 d.a) : Calls Try.prog 69 #[dv d, .int .u32 v] w fun e w' => e = .returned (.int .u32 (v - p2 d.a)) ∧ Below w.heap.size w w' := by
  have hP := fun w' => rpower_any d.a w' h0 (by omega)
  have hu := small_u64' hv
  have hw1 := p2_pos d.a
  obtain ⟨a, b', s, t⟩ := d
  simp only at h0 h1 hb hP hw1
  unfold dv
  simp only
  obtain ⟨P, hPP⟩ : ∃ P, p2 a = P := ⟨_, rfl⟩
  simp only [hPP] at hb hP hw1 ⊢
  clear hPP
  obtain ⟨v0, v1⟩ := hv
  have hle : P ≤ v := by omega
  go_enter Try.func69, Try.ntmps69
  go_wp2_with (go_at_call 58; (with_reducible refine (hP _).mono ?_); rintro e wz ⟨rfl, rfl⟩)
  go_ret
  exact ⟨rfl, below1 _ _⟩


end Go.Proofs.Ytmnhepcnbdbhoaa.R08

namespace Go.Proofs.Ytmnhepcnbdbhoaa.R08
open Go.Proofs Go.RowKit Go.Proofs.Ytmnhepcnbdbhoaa.Kit Go.Proofs.Ytmnhepcnbdbhoaa.M01 Go.Proofs.Ytmnhepcnbdbhoaa.M02 Go.Proofs.Ytmnhepcnbdbhoaa.M06 Go.Proofs.Ytmnhepcnbdbhoaa.M07 Go.Proofs.Ytmnhepcnbdbhoaa.M08 Go.Proofs.Ytmnhepcnbdbhoaa.Bt Go.Proofs.Ytmnhepcnbdbhoaa.R02 Go.Proofs.Ytmnhepcnbdbhoaa.Un Go.Proofs.Ytmnhepcnbdbhoaa.R06 Go.Proofs.Ytmnhepcnbdbhoaa.Ri Go.Proofs.Ytmnhepcnbdbhoaa.R07 Go.Proofs.Ytmnhepcnbdbhoaa.Du
set_option linter.unusedVariables false
attribute [local irreducible] wpStill

set_option maxHeartbeats 8000000 in
theorem learnt_any (d : D4) (v : Int) (w : World) (hd : isD d) (h : okD d = true) (hv : isU v) :
    Calls Try.prog 52 #[dv d, .int .u32 v] w fun e w' => e = .returned (dv (learnD d v)) ∧ Below w.heap.size w w' := by
  obtain ⟨a0, a1, b0, b1, s1, t1⟩ := okD_iff.1 h
  have hP0 := fun w' => rpair_any d.a d.s v w' a0 a1 hd.2.2.1.1 s1 hv
  have hu := small_u64' hv
  have hw0 := p2_24le a1
  have hw1 := p2_pos d.a
  by_cases hl : v < p2 d.a
  · have hLo := fun w' => low8_any d v true w' a0 a1 hv (decide_eq_true hl).symm
    have e1 : learnD d v = ⟨lK d.a (lS d.s v), d.b, lS d.s v, d.t⟩ := by unfold learnD; rw [if_pos hl, if_pos hl]
    rw [e1]
    clear e1 h
    obtain ⟨a, b, s, t⟩ := d
    simp only at a0 a1 b0 b1 s1 t1 hP0 hLo hl hw0 hw1 ⊢
    unfold dv at hLo ⊢
    simp only at hLo ⊢
    obtain ⟨K0, hK0⟩ : ∃ P, lK a (lS s v) = P := ⟨_, rfl⟩
    obtain ⟨S0, hS0⟩ : ∃ P, lS s v = P := ⟨_, rfl⟩
    simp only [hK0] at hP0 ⊢
    simp only [hS0] at hP0 ⊢
    clear hK0 hS0 hl hd
    go_enter Try.func52, Try.ntmps52
    go_wp2_with (first | (go_at_call 67; (with_reducible refine (hLo _).mono ?_); rintro e w1 ⟨rfl, hb1⟩; have hB1 := (below3 w _ _ _).trans (hb1.mono (by rw [size3]; omega)); have z1 : w.heap.size + 3 ≤ w1.heap.size := (by have := hb1.size; rw [size3] at this; exact this); obtain ⟨dc0, dc1, dc2, dc3, df0, df1, df2, df3⟩ := (Box4.of (blk3a w _ _ _)).below hb1 (by rw [size3]; omega); obtain ⟨rc0, rc1, rc2, rc3, rf0, rf1, rf2, rf3⟩ := (Box4.of (blk3b w _ _ _)).below hb1 (by rw [size3]; omega); obtain ⟨xc0, xc1, xc2, xc3, xf0, xf1, xf2, xf3⟩ := (Box4.of (blk3 w _ _ _)).below hb1 (by rw [size3]; omega)) | (go_at_call 68; (with_reducible refine (hP0 _).mono ?_); rintro e wz ⟨rfl, rfl⟩))
    refine bodyPost_ret_by (v := .agg #[.int .i64 K0, .int .i64 b, .int .u64 S0, .int .u64 t]) (by rw [results_cell1 rfl]; go_simp) rfl ?_
    exact ⟨rfl, Below.set4 ((hB1.setCell (by dsimp only; omega) _).setCell (by dsimp only; omega) _) (by omega) _ _ _ _⟩
  · have hLo := fun w' => low8_any d v false w' a0 a1 hv (decide_eq_false hl).symm
    have hul := left_bd hv hl
    have hLf := fun w' => left8_any d v w' a0 a1 hv hl
    have hP1 := fun w' => rpair_any d.b d.t (v - p2 d.a) w' b0 b1 hd.2.2.2.1 t1 hul
    have e1 : learnD d v = ⟨lK d.a (lS d.s v), lK d.b (lS d.t (v - p2 d.a)), lS d.s v, lS d.t (v - p2 d.a)⟩ := by unfold learnD; rw [if_neg hl, if_neg hl]
    rw [e1]
    clear e1 h
    obtain ⟨a, b, s, t⟩ := d
    simp only at a0 a1 b0 b1 s1 t1 hP0 hP1 hLo hLf hl hw0 hw1 hul ⊢
    unfold dv at hLo hLf ⊢
    simp only at hLo hLf ⊢
    obtain ⟨U, hU⟩ : ∃ U, v - p2 a = U := ⟨_, rfl⟩
    simp only [hU] at hLf hP1 hul ⊢
    have hu2 := small_u64' hul
    obtain ⟨K0, hK0⟩ : ∃ P, lK a (lS s v) = P := ⟨_, rfl⟩
    obtain ⟨S0, hS0⟩ : ∃ P, lS s v = P := ⟨_, rfl⟩
    obtain ⟨K1, hK1⟩ : ∃ P, lK b (lS t U) = P := ⟨_, rfl⟩
    obtain ⟨S1, hS1⟩ : ∃ P, lS t U = P := ⟨_, rfl⟩
    simp only [hK0] at hP0 ⊢
    simp only [hS0] at hP0 ⊢
    simp only [hK1] at hP1 ⊢
    simp only [hS1] at hP1 ⊢
    clear hK0 hS0 hK1 hS1 hU hl hd
    go_enter Try.func52, Try.ntmps52
    go_wp2_with ((go_at_call 67; (with_reducible refine (hLo _).mono ?_); rintro e w1 ⟨rfl, hb1⟩; have hB1 := (below3 w _ _ _).trans (hb1.mono (by rw [size3]; omega)); have z1 : w.heap.size + 3 ≤ w1.heap.size := (by have := hb1.size; rw [size3] at this; exact this); obtain ⟨dc0, dc1, dc2, dc3, df0, df1, df2, df3⟩ := (Box4.of (blk3a w _ _ _)).below hb1 (by rw [size3]; omega); obtain ⟨rc0, rc1, rc2, rc3, rf0, rf1, rf2, rf3⟩ := (Box4.of (blk3b w _ _ _)).below hb1 (by rw [size3]; omega); obtain ⟨xc0, xc1, xc2, xc3, xf0, xf1, xf2, xf3⟩ := (Box4.of (blk3 w _ _ _)).below hb1 (by rw [size3]; omega)))
    have hn : w.heap.size ≠ w.heap.size + 2 := by omega
    go_region_held3 (fun w' => w'.cell? ⟨w.heap.size, 0, none⟩ = some (.int .i64 a) ∧ w'.cell? ⟨w.heap.size, 1, none⟩ = some (.int .i64 b) ∧ w'.cell? ⟨w.heap.size, 2, none⟩ = some (.int .u64 s) ∧ w'.cell? ⟨w.heap.size, 3, none⟩ = some (.int .u64 t)) (first | exact ⟨dc0, dc1, dc2, dc3⟩ | exact ⟨dc0', dc1', dc2', dc3'⟩ | exact ⟨cellS1 dc0' hn, cellS1 dc1' hn, cellS1 dc2' hn, cellS1 dc3' hn⟩ | exact ⟨cellS2 dc0' hn, cellS2 dc1' hn, cellS2 dc2' hn, cellS2 dc3' hn⟩ | go_keep) (first | (go_at_call 69; (with_reducible refine (hLf _).mono ?_); rintro e w2 ⟨rfl, hb2⟩; have hB2 := hB1.drew.trans (hb2.mono (show w.heap.size ≤ w1.heap.size by omega)); have z2 : w1.heap.size ≤ w2.heap.size := hb2.size; obtain ⟨dc0', dc1', dc2', dc3', df0', df1', df2', df3'⟩ := (Box4.mk dc0 dc1 dc2 dc3 df0 df1 df2 df3).drew.below hb2 (show w.heap.size < w1.heap.size by omega); obtain ⟨rc0', rc1', rc2', rc3', rf0', rf1', rf2', rf3'⟩ := (Box4.mk rc0 rc1 rc2 rc3 rf0 rf1 rf2 rf3).drew.below hb2 (show w.heap.size + 1 < w1.heap.size by omega); obtain ⟨xc0', xc1', xc2', xc3', xf0', xf1', xf2', xf3'⟩ := (Box4.mk xc0 xc1 xc2 xc3 xf0 xf1 xf2 xf3).drew.below hb2 (show w.heap.size + 2 < w1.heap.size by omega)) | (go_at_call 68; (with_reducible refine (hP1 _).mono ?_); rintro e wz ⟨rfl, rfl⟩))
    all_goals
      clear dc0 dc1 dc2 dc3 df0 df1 df2 df3 rc0 rc1 rc2 rc3 rf0 rf1 rf2 rf3 xc0 xc1 xc2 xc3 xf0 xf1 xf2 xf3
      go_wp2_with ((go_at_call 68; (with_reducible refine (hP0 _).mono ?_); rintro e wz ⟨rfl, rfl⟩))
      refine bodyPost_ret_by (v := .agg #[.int .i64 K0, .int .i64 K1, .int .u64 S0, .int .u64 S1]) (by rw [results_cell1 rfl]; go_simp) rfl ?_
      exact ⟨rfl, Below.set4 ((((hB2.setCell (by dsimp only; omega) _).setCell (by dsimp only; omega) _).setCell (by dsimp only; omega) _).setCell (by dsimp only; omega) _) (by omega) _ _ _ _⟩




end Go.Proofs.Ytmnhepcnbdbhoaa.R08

namespace Go.Proofs.Ytmnhepcnbdbhoaa.R08
open Go.Proofs Go.RowKit Go.Proofs.Ytmnhepcnbdbhoaa.Kit Go.Proofs.Ytmnhepcnbdbhoaa.M01 Go.Proofs.Ytmnhepcnbdbhoaa.M02 Go.Proofs.Ytmnhepcnbdbhoaa.M06 Go.Proofs.Ytmnhepcnbdbhoaa.M07 Go.Proofs.Ytmnhepcnbdbhoaa.M08 Go.Proofs.Ytmnhepcnbdbhoaa.Bt Go.Proofs.Ytmnhepcnbdbhoaa.R02 Go.Proofs.Ytmnhepcnbdbhoaa.Un Go.Proofs.Ytmnhepcnbdbhoaa.R06 Go.Proofs.Ytmnhepcnbdbhoaa.Ri Go.Proofs.Ytmnhepcnbdbhoaa.R07 Go.Proofs.Ytmnhepcnbdbhoaa.Du
set_option linter.unusedVariables false
attribute [local irreducible] wpStill

set_option maxHeartbeats 8000000 in
theorem got8_any (a : Option Addr) (len cap : Nat) (xs : List Int) (n p : Int) (d : D4) (w : World) (hr : RowIn .u8 w a len cap xs) (hok : okB xs n = true) (hp0 : 0 ≤ p) (hp1 : p ≤ 9223372036854775807) (h : okD d = true) :
    Calls Try.prog 39 #[bv a len cap n, .int .i64 p, dv d] w fun e w' => e = .returned (.tuple #[.int .u32 (drN xs n p d), .int .i64 (drX xs n p d), .int .i64 (drE xs n p d)]) ∧ Below w.heap.size w w' := by
  obtain ⟨a0, a1, b0, b1, s1, t1⟩ := okD_iff.1 h
  obtain ⟨hn0, hn1, hxl, hval⟩ := okB_iff.1 hok
  have hand : okB xs n = true ∧ okD d = true := ⟨hok, h⟩
  have hZ : drE xs n p d ≠ 0 → drN xs n p d = 0 ∧ drX xs n p d = 0 := fun g => ⟨by rw [drN, if_neg g], by rw [drX, if_neg g]⟩
  have hll := hr.hl
  have hw0 := p2_24le a1
  have hw1 := p2_pos d.a
  have hneg : ¬ p < 0 := by omega
  by_cases h1 : n ≤ p
  · have eE : drE xs n p d = 24 := by unfold drE; rw [if_pos hand, if_neg hneg, if_pos h1]
    obtain ⟨y1, y2⟩ := hZ (by rw [eE]; decide)
    rw [eE, y1, y2]
    have f1 : (n ≤ p) = True := eq_true h1
    clear eE y1 y2 hZ hand hok hxl hval h
    obtain ⟨da, db, ds, dt⟩ := d
    unfold bv dv
    simp only
    go_enter Try.func39, Try.ntmps39
    go_wp2
    go_ret3
    exact ⟨rfl, below2 _ _ _⟩
  have f1 : (n ≤ p) = False := eq_false h1
  have hAt := fun w' (r : RowIn .u8 w' a len cap xs) => at_any a len cap xs n p w' r hp0 (by omega) (by omega)
  by_cases hbit : val xs / p2 p % 2 = 0
  · simp only [hbit] at hAt
    by_cases h4 : n - p - 1 < d.a
    · have eE : drE xs n p d = 24 := by unfold drE; rw [if_pos hand, if_neg hneg, if_neg h1, if_pos hbit, if_pos h4]
      obtain ⟨y1, y2⟩ := hZ (by rw [eE]; decide)
      rw [eE, y1, y2]
      clear eE y1 y2 hZ hand hok hxl hval h hbit
      obtain ⟨da, db, ds, dt⟩ := d
      simp only at a0 a1 b0 b1 s1 t1 h4
      have f4 : (n - p - 1 < da) = True := eq_true h4
      unfold bv at hAt ⊢
      unfold dv
      simp only
      go_enter Try.func39, Try.ntmps39
      go_wp2_with (first | (go_at_call 55; (with_reducible refine (hAt _ (hr.same (below2 _ _ _))).mono ?_); rintro e w1 ⟨rfl, hb1⟩; have hB1 := (below2 w _ _).trans (hb1.mono (by rw [size2]; omega)); have z1 : w.heap.size + 2 ≤ w1.heap.size := (by have := hb1.size; rw [size2] at this; exact this); obtain ⟨bc0, bc1, bf0, bf1⟩ := (Box2.of (blk2a w _ _)).below hb1 (by rw [size2]; omega); obtain ⟨dc0, dc1, dc2, dc3, df0, df1, df2, df3⟩ := (Box4.of (blk2 w _ _)).below hb1 (by rw [size2]; omega)))
      go_ret3
      exact ⟨rfl, hB1⟩
    · have eE : drE xs n p d = 0 := by unfold drE; rw [if_pos hand, if_neg hneg, if_neg h1, if_pos hbit, if_neg h4]
      have eN : drN xs n p d = val xs / p2 (p + 1) % p2 d.a := by rw [drN, if_pos eE]; unfold dnN; rw [if_pos hbit, next_val hp0]
      have eX : drX xs n p d = p + 1 + d.a := by rw [drX, if_pos eE]; unfold dnS; rw [if_pos hbit]; omega
      have hm := emod_bd (val xs / p2 (p + 1)) d.a
      have hV := fun w' (r : RowIn .u8 w' a len cap xs) => value_any a len cap xs n (p + 1) d.a w' r (by omega) a0 (by omega) (by omega) (by omega)
      rw [eE, eN, eX]
      obtain ⟨N, hN⟩ : ∃ N, val xs / p2 (p + 1) % p2 d.a = N := ⟨_, rfl⟩
      simp only [hN] at hV hm ⊢
      have u1 : IntKind.u32.wrap N = N := by simp [IntKind.wrap, IntKind.bits, IntKind.signed]; omega
      have u2 : IntKind.i64.wrap (p + 1) = p + 1 := by simp [IntKind.wrap, IntKind.bits, IntKind.signed]; omega
      have u3 : IntKind.i64.wrap (p + 1 + d.a) = p + 1 + d.a := by simp [IntKind.wrap, IntKind.bits, IntKind.signed]; omega
      clear eE eN eX hZ hand hok hxl hval h hbit hN
      obtain ⟨da, db, ds, dt⟩ := d
      simp only at a0 a1 b0 b1 s1 t1 h4 hV u3 ⊢
      have f4 : (n - p - 1 < da) = False := eq_false h4
      unfold bv at hAt hV ⊢
      unfold dv
      simp only
      go_enter Try.func39, Try.ntmps39
      go_wp2_with (first | (go_at_call 55; (with_reducible refine (hAt _ (hr.same (below2 _ _ _))).mono ?_); rintro e w1 ⟨rfl, hb1⟩; have hB1 := (below2 w _ _).trans (hb1.mono (by rw [size2]; omega)); have z1 : w.heap.size + 2 ≤ w1.heap.size := (by have := hb1.size; rw [size2] at this; exact this); obtain ⟨bc0, bc1, bf0, bf1⟩ := (Box2.of (blk2a w _ _)).below hb1 (by rw [size2]; omega); obtain ⟨dc0, dc1, dc2, dc3, df0, df1, df2, df3⟩ := (Box4.of (blk2 w _ _)).below hb1 (by rw [size2]; omega)))
      go_region_held3 (fun w' => w'.cell? ⟨w.heap.size, 0, none⟩ = some (.slice a len cap) ∧ w'.cell? ⟨w.heap.size, 1, none⟩ = some (.int .i64 n) ∧ w'.cell? ⟨w.heap.size + 1, 0, none⟩ = some (.int .i64 da) ∧ w'.cell? ⟨w.heap.size + 1, 1, none⟩ = some (.int .i64 db) ∧ w'.cell? ⟨w.heap.size + 1, 2, none⟩ = some (.int .u64 ds) ∧ w'.cell? ⟨w.heap.size + 1, 3, none⟩ = some (.int .u64 dt)) (first | with_reducible exact ⟨bc0, bc1, dc0, dc1, dc2, dc3⟩ | with_reducible exact ⟨bc0', bc1', dc0', dc1', dc2', dc3'⟩ | go_keep) (first | (go_at_call 56; (with_reducible refine (hV _ (hr.same hB1.drew)).mono ?_); rintro e w2 ⟨rfl, hb2⟩; have hB2 := hB1.drew.trans (hb2.mono (show w.heap.size ≤ w1.heap.size by omega)); obtain ⟨bc0', bc1', bf0', bf1'⟩ := (Box2.mk bc0 bc1 bf0 bf1).drew.below hb2 (show w.heap.size < w1.heap.size by omega); obtain ⟨dc0', dc1', dc2', dc3', df0', df1', df2', df3'⟩ := (Box4.mk dc0 dc1 dc2 dc3 df0 df1 df2 df3).drew.below hb2 (show w.heap.size + 1 < w1.heap.size by omega)))
      all_goals
        go_wp2
        go_ret3
        exact ⟨rfl, hB2⟩
  · have hb1 : val xs / p2 p % 2 = 1 := by omega
    simp only [hb1] at hAt
    have hG := fun w' (r : RowIn .u8 w' a len cap xs) => rgot7_any a len cap xs n (p + 1) d.b w' r hok (by omega) (by omega) b0 b1
    have hP := fun w' => rpower_any d.a w' a0 (by omega)
    have e2 : drE xs n p d = if rrE xs n (p + 1) d.b ≠ 0 then rrE xs n (p + 1) d.b else if 4294967295 < rrN xs n (p + 1) d.b + p2 d.a then 12 else 0 := by unfold drE; rw [if_pos hand, if_neg hneg, if_neg h1, if_neg hbit]
    by_cases hr0 : rrE xs n (p + 1) d.b = 0
    · rw [if_neg (by rw [hr0]; simp)] at e2
      simp only [hr0] at hG
      have hrb : 0 ≤ rrN xs n (p + 1) d.b ∧ rrN xs n (p + 1) d.b ≤ 4294967295 := by
        rw [rrN, if_pos hr0]
        have := dcN_bd (X := val xs / p2 (p + 1)) b0 b1; omega
      have eD : dnN (val xs / p2 p) d = rrN xs n (p + 1) d.b + p2 d.a := by unfold dnN; rw [if_neg hbit, rrN, if_pos hr0, next_val hp0]
      have eS : p + dnS (val xs / p2 p) d = rrX xs n (p + 1) d.b := by unfold dnS; rw [if_neg hbit, rrX, if_pos hr0, next_val hp0]; omega
      by_cases hg : 4294967295 < rrN xs n (p + 1) d.b + p2 d.a
      · rw [if_pos hg] at e2
        obtain ⟨y1, y2⟩ := hZ (by rw [e2]; decide)
        rw [e2, y1, y2]
        clear e2 y1 y2 hZ hand hok hxl hval h hbit hr0 eD eS
        obtain ⟨P, hPP⟩ : ∃ P, p2 d.a = P := ⟨_, rfl⟩
        obtain ⟨N, hN⟩ : ∃ P, rrN xs n (p + 1) d.b = P := ⟨_, rfl⟩
        obtain ⟨X, hX⟩ : ∃ P, rrX xs n (p + 1) d.b = P := ⟨_, rfl⟩
        simp only [hPP] at hP hg hw0 hw1
        simp only [hN] at hG hg hrb
        simp only [hX] at hG
        clear hPP hN hX
        have u1 := small_u64' (v := N) hrb
        have u3 : IntKind.u64.wrap (N + P) = N + P := by simp [IntKind.wrap, IntKind.bits, IntKind.signed]; omega
        obtain ⟨da, db, ds, dt⟩ := d
        simp only at a0 a1 b0 b1 s1 t1 hG hP ⊢
        have f4 : (4294967295 < N + P) = True := eq_true hg
        unfold bv at hAt hG ⊢
        unfold dv
        simp only
        go_enter Try.func39, Try.ntmps39
        go_wp2_with (first | (go_at_call 55; (with_reducible refine (hAt _ (hr.same (below2 _ _ _))).mono ?_); rintro e w1 ⟨rfl, hb1⟩; have hB1 := (below2 w _ _).trans (hb1.mono (by rw [size2]; omega)); have z1 : w.heap.size + 2 ≤ w1.heap.size := (by have := hb1.size; rw [size2] at this; exact this); obtain ⟨bc0, bc1, bf0, bf1⟩ := (Box2.of (blk2a w _ _)).below hb1 (by rw [size2]; omega); obtain ⟨dc0, dc1, dc2, dc3, df0, df1, df2, df3⟩ := (Box4.of (blk2 w _ _)).below hb1 (by rw [size2]; omega)) | (go_at_call 57; (with_reducible refine (hG _ (hr.same hB1)).mono ?_); rintro e w2 ⟨rfl, hb2⟩; have hB2 := hB1.trans (hb2.mono (by omega)); have z2 := hb2.size; obtain ⟨bc0', bc1', bf0', bf1'⟩ := (Box2.mk bc0 bc1 bf0 bf1).below hb2 (show w.heap.size < w1.heap.size by omega); obtain ⟨dc0', dc1', dc2', dc3', df0', df1', df2', df3'⟩ := (Box4.mk dc0 dc1 dc2 dc3 df0 df1 df2 df3).below hb2 (show w.heap.size + 1 < w1.heap.size by omega); clear bc0 bf0 bc1 bf1 dc0 df0 dc1 df1 dc2 df2 dc3 df3) | (go_at_call 58; (with_reducible refine (hP _).mono ?_); rintro e wz ⟨rfl, rfl⟩))
        go_ret3
        exact ⟨rfl, hB2⟩
      · rw [if_neg hg] at e2
        rw [show drN xs n p d = rrN xs n (p + 1) d.b + p2 d.a by rw [drN, if_pos e2, eD], show drX xs n p d = rrX xs n (p + 1) d.b by rw [drX, if_pos e2, eS], e2]
        clear e2 hZ hand hok hxl hval h hbit hr0 eD eS
        obtain ⟨P, hPP⟩ : ∃ P, p2 d.a = P := ⟨_, rfl⟩
        obtain ⟨N, hN⟩ : ∃ P, rrN xs n (p + 1) d.b = P := ⟨_, rfl⟩
        obtain ⟨X, hX⟩ : ∃ P, rrX xs n (p + 1) d.b = P := ⟨_, rfl⟩
        simp only [hPP] at hP hg hw0 hw1 ⊢
        simp only [hN] at hG hg hrb ⊢
        simp only [hX] at hG ⊢
        clear hPP hN hX
        have u1 := small_u64' (v := N) hrb
        have u3 : IntKind.u64.wrap (N + P) = N + P := by simp [IntKind.wrap, IntKind.bits, IntKind.signed]; omega
        have u4 : IntKind.u32.wrap (N + P) = N + P := by simp [IntKind.wrap, IntKind.bits, IntKind.signed]; omega
        obtain ⟨da, db, ds, dt⟩ := d
        simp only at a0 a1 b0 b1 s1 t1 hG hP ⊢
        have f4 : (4294967295 < N + P) = False := eq_false hg
        unfold bv at hAt hG ⊢
        unfold dv
        simp only
        go_enter Try.func39, Try.ntmps39
        go_wp2_with (first | (go_at_call 55; (with_reducible refine (hAt _ (hr.same (below2 _ _ _))).mono ?_); rintro e w1 ⟨rfl, hb1⟩; have hB1 := (below2 w _ _).trans (hb1.mono (by rw [size2]; omega)); have z1 : w.heap.size + 2 ≤ w1.heap.size := (by have := hb1.size; rw [size2] at this; exact this); obtain ⟨bc0, bc1, bf0, bf1⟩ := (Box2.of (blk2a w _ _)).below hb1 (by rw [size2]; omega); obtain ⟨dc0, dc1, dc2, dc3, df0, df1, df2, df3⟩ := (Box4.of (blk2 w _ _)).below hb1 (by rw [size2]; omega)) | (go_at_call 57; (with_reducible refine (hG _ (hr.same hB1)).mono ?_); rintro e w2 ⟨rfl, hb2⟩; have hB2 := hB1.trans (hb2.mono (by omega)); have z2 := hb2.size; obtain ⟨bc0', bc1', bf0', bf1'⟩ := (Box2.mk bc0 bc1 bf0 bf1).below hb2 (show w.heap.size < w1.heap.size by omega); obtain ⟨dc0', dc1', dc2', dc3', df0', df1', df2', df3'⟩ := (Box4.mk dc0 dc1 dc2 dc3 df0 df1 df2 df3).below hb2 (show w.heap.size + 1 < w1.heap.size by omega); clear bc0 bf0 bc1 bf1 dc0 df0 dc1 df1 dc2 df2 dc3 df3) | (go_at_call 58; (with_reducible refine (hP _).mono ?_); rintro e wz ⟨rfl, rfl⟩))
        go_ret3
        exact ⟨rfl, hB2⟩
    · rw [if_pos hr0] at e2
      obtain ⟨y1, y2⟩ := hZ (by rw [e2]; exact hr0)
      rw [e2, y1, y2]
      clear e2 y1 y2 hZ hand hok hxl hval h hbit
      obtain ⟨E, hE⟩ : ∃ P, rrE xs n (p + 1) d.b = P := ⟨_, rfl⟩
      obtain ⟨N, hN⟩ : ∃ P, rrN xs n (p + 1) d.b = P := ⟨_, rfl⟩
      obtain ⟨X, hX⟩ : ∃ P, rrX xs n (p + 1) d.b = P := ⟨_, rfl⟩
      simp only [hE, hN, hX] at hG hr0 ⊢
      clear hE hN hX
      have f5 : (E = 0) = False := eq_false hr0
      have f6 : (E != 0) = true := bne_iff_ne.2 hr0
      obtain ⟨da, db, ds, dt⟩ := d
      simp only at a0 a1 b0 b1 s1 t1 hG
      unfold bv at hAt hG ⊢
      unfold dv
      simp only
      go_enter Try.func39, Try.ntmps39
      go_wp2_with (first | (go_at_call 55; (with_reducible refine (hAt _ (hr.same (below2 _ _ _))).mono ?_); rintro e w1 ⟨rfl, hb1⟩; have hB1 := (below2 w _ _).trans (hb1.mono (by rw [size2]; omega)); have z1 : w.heap.size + 2 ≤ w1.heap.size := (by have := hb1.size; rw [size2] at this; exact this); obtain ⟨bc0, bc1, bf0, bf1⟩ := (Box2.of (blk2a w _ _)).below hb1 (by rw [size2]; omega); obtain ⟨dc0, dc1, dc2, dc3, df0, df1, df2, df3⟩ := (Box4.of (blk2 w _ _)).below hb1 (by rw [size2]; omega)) | (go_at_call 57; (with_reducible refine (hG _ (hr.same hB1)).mono ?_); rintro e w2 ⟨rfl, hb2⟩; have hB2 := hB1.trans (hb2.mono (by omega)); have z2 := hb2.size; obtain ⟨bc0', bc1', bf0', bf1'⟩ := (Box2.mk bc0 bc1 bf0 bf1).below hb2 (show w.heap.size < w1.heap.size by omega); obtain ⟨dc0', dc1', dc2', dc3', df0', df1', df2', df3'⟩ := (Box4.mk dc0 dc1 dc2 dc3 df0 df1 df2 df3).below hb2 (show w.heap.size + 1 < w1.heap.size by omega); clear bc0 bf0 bc1 bf1 dc0 df0 dc1 df1 dc2 df2 dc3 df3))
      go_ret3
      exact ⟨rfl, hB2⟩

theorem results_ttct8 {fn : Func} {u p q z : Tmp} {t1 : TypeId} (h : fn.results = #[.tmp u, .tmp z, .cell p t1, .tmp q]) (tmps : Array Value) (P : Program) (w : World) :
    (results fn tmps).run P w = ((asAddr (tmps.getD p undef)).run P w).andThen fun a w₁ => ((loadVar t1 a).run P w₁).andThen fun v w₂ => .ok (.tuple #[tmps.getD u undef, tmps.getD z undef, v, tmps.getD q undef]) w₂ := by
  simp only [results, h]
  simp [Sem.run_bind, Result.andThen]

theorem drN_u32 {xs : List Int} {n p : Int} {d : D4} (hb : isByte xs) : isU (drN xs n p d) := by
  by_cases h : drE xs n p d = 0
  · exact (dr_once hb h).2.2.2.1
  · rw [drN, if_neg h]; unfold isU; omega


end Go.Proofs.Ytmnhepcnbdbhoaa.R08

/- What the reference of layer 8 returns: states. -/
import Derived.Test.YtbhoodhcipegbaaRef07b
import Derived.Test.YtbhoodhcipegbaaDual
namespace Go.Proofs.Ytbhoodhcipegbaa.R08
open Go.Proofs Go.RowKit Go.Proofs.Ytbhoodhcipegbaa.Kit Go.Proofs.Ytbhoodhcipegbaa.M01 Go.Proofs.Ytbhoodhcipegbaa.M02 Go.Proofs.Ytbhoodhcipegbaa.M06 Go.Proofs.Ytbhoodhcipegbaa.M07 Go.Proofs.Ytbhoodhcipegbaa.M08 Go.Proofs.Ytbhoodhcipegbaa.Bt Go.Proofs.Ytbhoodhcipegbaa.R02 Go.Proofs.Ytbhoodhcipegbaa.Un Go.Proofs.Ytbhoodhcipegbaa.R06 Go.Proofs.Ytbhoodhcipegbaa.Ri Go.Proofs.Ytbhoodhcipegbaa.R07 Go.Proofs.Ytbhoodhcipegbaa.Du
set_option linter.unusedVariables false
attribute [local irreducible] wpStill

theorem rstart_any (w : World) : Calls Try.prog 24 #[] w fun e w' => e = .returned (dv stD) ∧ Below w.heap.size w w' := by
  unfold dv
  go_enter Try.func24, Try.ntmps24
  go_wp2
  refine bodyPost_ret_by (v := .agg #[.int .i64 10, .int .i64 10, .int .u64 16384, .int .u64 16384]) (by rw [results_cell1 rfl]; go_simp) rfl ?_
  exact ⟨rfl, below1 _ _⟩

set_option maxHeartbeats 4000000 in
theorem rcheckD_any (d : D4) (w : World) (hd : isD d) : Calls Try.prog 25 #[dv d] w fun e w' => e = .returned (.int .i64 (chD d)) ∧ Below w.heap.size w w' := by
  have hI0 := fun w' => rparam_any d.a w'
  have hI1 := fun w' => rparam_any d.b w'
  by_cases ha : d.a < 0 ∨ 24 < d.a
  · have h8 : chD d = 8 := by unfold chD; rw [if_neg (fun g => by have := okD_iff.1 g; omega)]
    rw [h8]
    rw [isK_no ha] at hI0
    obtain ⟨a, b, s, t⟩ := d
    unfold dv
    simp only at hI0 hI1 ⊢
    clear h8
    go_enter Try.func25, Try.ntmps25
    go_wp2_with (first | (go_at_call 45; (with_reducible refine (hI0 _).mono ?_); rintro e wz ⟨rfl, rfl⟩) | (go_at_call 45; (with_reducible refine (hI1 _).mono ?_); rintro e wz ⟨rfl, rfl⟩))
    go_ret
    exact ⟨rfl, below1 _ _⟩
  rw [isK_yes (by omega) (by omega)] at hI0
  by_cases hb : d.b < 0 ∨ 24 < d.b
  · have h8 : chD d = 8 := by unfold chD; rw [if_neg (fun g => by have := okD_iff.1 g; omega)]
    rw [h8]
    rw [isK_no hb] at hI1
    obtain ⟨a, b, s, t⟩ := d
    unfold dv
    simp only at hI0 hI1 ⊢
    clear h8
    go_enter Try.func25, Try.ntmps25
    go_wp2_with (first | (go_at_call 45; (with_reducible refine (hI0 _).mono ?_); rintro e wz ⟨rfl, rfl⟩) | (go_at_call 45; (with_reducible refine (hI1 _).mono ?_); rintro e wz ⟨rfl, rfl⟩))
    go_ret
    exact ⟨rfl, below1 _ _⟩
  rw [isK_yes (by omega) (by omega)] at hI1
  by_cases hs : 68719476735 < d.s
  · have h8 : chD d = 8 := by unfold chD; rw [if_neg (fun g => by have := okD_iff.1 g; omega)]
    rw [h8]
    obtain ⟨a, b, s, t⟩ := d
    unfold dv
    simp only at hI0 hI1 hs ⊢
    have f1 : (68719476735 < s) = True := eq_true hs
    clear h8
    go_enter Try.func25, Try.ntmps25
    go_wp2_with (first | (go_at_call 45; (with_reducible refine (hI0 _).mono ?_); rintro e wz ⟨rfl, rfl⟩) | (go_at_call 45; (with_reducible refine (hI1 _).mono ?_); rintro e wz ⟨rfl, rfl⟩))
    go_ret
    exact ⟨rfl, below1 _ _⟩
  by_cases ht : 68719476735 < d.t
  · have h8 : chD d = 8 := by unfold chD; rw [if_neg (fun g => by have := okD_iff.1 g; omega)]
    rw [h8]
    obtain ⟨a, b, s, t⟩ := d
    unfold dv
    simp only at hI0 hI1 hs ht ⊢
    have f1 : (68719476735 < s) = False := eq_false hs
    have f2 : (68719476735 < t) = True := eq_true ht
    clear h8
    go_enter Try.func25, Try.ntmps25
    go_wp2_with (first | (go_at_call 45; (with_reducible refine (hI0 _).mono ?_); rintro e wz ⟨rfl, rfl⟩) | (go_at_call 45; (with_reducible refine (hI1 _).mono ?_); rintro e wz ⟨rfl, rfl⟩))
    go_ret
    exact ⟨rfl, below1 _ _⟩
  · have h8 : chD d = 0 := by unfold chD; rw [if_pos (okD_iff.2 (by omega))]
    rw [h8]
    obtain ⟨a, b, s, t⟩ := d
    unfold dv
    simp only at hI0 hI1 hs ht ⊢
    have f1 : (68719476735 < s) = False := eq_false hs
    have f2 : (68719476735 < t) = False := eq_false ht
    clear h8
    go_enter Try.func25, Try.ntmps25
    go_wp2_with (first | (go_at_call 45; (with_reducible refine (hI0 _).mono ?_); rintro e wz ⟨rfl, rfl⟩) | (go_at_call 45; (with_reducible refine (hI1 _).mono ?_); rintro e wz ⟨rfl, rfl⟩))
    go_ret
    exact ⟨rfl, below1 _ _⟩

set_option maxHeartbeats 4000000 in
theorem rpair_any (k s v : Int) (w : World) (h0 : 0 ≤ k) (h1 : k ≤ 24) (s0 : 0 ≤ s) (s1 : s ≤ 68719476735) (hv : isU v) :
    Calls Try.prog 61 #[.int .i64 k, .int .u64 s, .int .u64 v] w fun e w' => e = .returned (.tuple #[.int .i64 (lK k (lS s v)), .int .u64 (lS s v)]) ∧ w = w' := by
  obtain ⟨v0, v1⟩ := hv
  have q4 := fun w' => rpower_any (k + 4) w' (by omega) (by omega)
  have q5 := fun w' => rpower_any (k + 5) w' (by omega) (by omega)
  obtain ⟨S, hS⟩ : ∃ S, s - s / 16 + v = S := ⟨_, rfl⟩
  have hS2 : s + v - s / 16 = S := by omega
  obtain ⟨K, hK⟩ : ∃ K, lK k (lS s v) = K := ⟨_, rfl⟩
  rw [hK]
  unfold lK lS at hK
  obtain ⟨P4, hP4⟩ : ∃ P, p2 (k + 4) = P := ⟨_, rfl⟩
  obtain ⟨P5, hP5⟩ : ∃ P, p2 (k + 5) = P := ⟨_, rfl⟩
  rw [hS, hP4, hP5] at hK
  simp only [hP4] at q4
  simp only [hP5] at q5
  unfold lS
  rw [hS]
  have HK := hid hK
  have HS := hid hS2
  clear hP4 hP5 hK hS hS2
  go_enter Try.func61, Try.ntmps61
  go_wp2_with (first | (go_at_call 69; (with_reducible refine (q4 _).mono ?_); rintro e wz ⟨rfl, rfl⟩) | (go_at_call 69; (with_reducible refine (q5 _).mono ?_); rintro e wz ⟨rfl, rfl⟩))
  all_goals
    go_ret2
    exact ⟨pr_eq (by have h := HK.out; have h2 := HS.out; split at h <;> omega) HS.out, rfl⟩

theorem small_u64' {v : Int} (h : isU v) : IntKind.u64.wrap v = v := by
  obtain ⟨h0, h1⟩ := h
  simp [IntKind.wrap, IntKind.bits, IntKind.signed]; omega

set_option maxHeartbeats 4000000 in
theorem low8_any (d : D4) (v : Int) (b : Bool) (w : World) (h0 : 0 ≤ d.a) (h1 : d.a ≤ 24) (hv : isU v) (hb : b = decide (v < p2 d.a)) : Calls Try.prog 60 #[dv d, .int .u32 v] w fun e w' => e = .returned (.bool b) ∧ Below w.heap.size w w' := by
  have hP := fun w' => rpower_any d.a w' h0 (by omega)
  have hu := small_u64' hv
  obtain ⟨a, b', s, t⟩ := d
  simp only at h0 h1 hb hP
  unfold dv
  simp only
  obtain ⟨P, hPP⟩ : ∃ P, p2 a = P := ⟨_, rfl⟩
  simp only [hPP] at hb hP
  clear hPP
  by_cases hl : v < P
  · rw [decide_eq_true hl] at hb
    subst hb
    have f1 : (v < P) = True := eq_true hl
    go_enter Try.func60, Try.ntmps60
    go_wp2_with (go_at_call 69; (with_reducible refine (hP _).mono ?_); rintro e wz ⟨rfl, rfl⟩)
    go_ret
    exact ⟨rfl, below1 _ _⟩
  · rw [decide_eq_false hl] at hb
    subst hb
    have f1 : (v < P) = False := eq_false hl
    go_enter Try.func60, Try.ntmps60
    go_wp2_with (go_at_call 69; (with_reducible refine (hP _).mono ?_); rintro e wz ⟨rfl, rfl⟩)
    go_ret
    exact ⟨rfl, below1 _ _⟩

set_option maxHeartbeats 4000000 in
theorem left8_any (d : D4) (v : Int) (w : World) (h0 : 0 ≤ d.a) (h1 : d.a ≤ 24) (hv : isU v) (hb : ¬ v < p2 d.a) : Calls Try.prog 62 #[dv d, .int .u32 v] w fun e w' => e = .returned (.int .u32 (v - p2 d.a)) ∧ Below w.heap.size w w' := by
  have hP := fun w' => rpower_any d.a w' h0 (by omega)
  have hu := small_u64' hv
  have hw1 := p2_pos d.a
  obtain ⟨a, b', s, t⟩ := d
  simp only at h0 h1 hb hP hw1
  unfold dv
  simp only
  obtain ⟨P, hPP⟩ : ∃ P, p2 a = P := ⟨_, rfl⟩
  simp only [hPP] at hb hP hw1 ⊢
  clear hPP
  obtain ⟨v0, v1⟩ := hv
  have hle : P ≤ v := by omega
  go_enter Try.func62, Try.ntmps62
  go_wp2_with (go_at_call 69; (with_reducible refine (hP _).mono ?_); rintro e wz ⟨rfl, rfl⟩)
  go_ret
  exact ⟨rfl, below1 _ _⟩


end Go.Proofs.Ytbhoodhcipegbaa.R08

/- What package dual returns: walks of its Go text. States. -/
import Derived.Test.YtbhoodhcipegbaaKit5
import Derived.Test.YtbhoodhcipegbaaMath08
import Derived.Test.YtbhoodhcipegbaaRice
import Derived.Deep.RegionHeld3
namespace Go.Proofs.Ytbhoodhcipegbaa.Du
open Go.Proofs Go.RowKit Go.Proofs.Ytbhoodhcipegbaa.Kit Go.Proofs.Ytbhoodhcipegbaa.M01 Go.Proofs.Ytbhoodhcipegbaa.M02 Go.Proofs.Ytbhoodhcipegbaa.M06 Go.Proofs.Ytbhoodhcipegbaa.M07 Go.Proofs.Ytbhoodhcipegbaa.M08 Go.Proofs.Ytbhoodhcipegbaa.Bt Go.Proofs.Ytbhoodhcipegbaa.Un Go.Proofs.Ytbhoodhcipegbaa.Ri
set_option linter.unusedVariables false
attribute [local irreducible] wpStill

/-- A state as a Go value. -/
def dv (d : D4) : Value := .agg #[.int .i64 d.a, .int .i64 d.b, .int .u64 d.s, .int .u64 d.t]
/-- A block with a state in it. -/
def BoxD (w : World) (g : Nat) (d : D4) : Prop := Box4 w g (.int .i64 d.a) (.int .i64 d.b) (.int .u64 d.s) (.int .u64 d.t)

theorem start_any (w : World) : Calls Try.prog 23 #[] w fun e w' => e = .returned (dv stD) ∧ Below w.heap.size w w' := by
  unfold dv
  go_enter Try.func23, Try.ntmps23
  go_wp2
  refine bodyPost_ret_by (v := .agg #[.int .i64 10, .int .i64 10, .int .u64 16384, .int .u64 16384]) (by rw [results_cell1 rfl]; go_simp) rfl ?_
  exact ⟨rfl, below1 _ _⟩

theorem dv_eq {a b s t a' b' s' t' : Int} (h1 : a = a') (h2 : b = b') (h3 : s = s') (h4 : t = t') : Ending.returned (.agg #[.int .i64 a, .int .i64 b, .int .u64 s, .int .u64 t]) = .returned (.agg #[.int .i64 a', .int .i64 b', .int .u64 s', .int .u64 t']) := by subst h1 h2 h3 h4; rfl

set_option maxHeartbeats 4000000 in
theorem nearest_any (d : D4) (w : World) (hd : isD d) : Calls Try.prog 40 #[dv d] w fun e w' => e = .returned (dv (nrD d)) ∧ Below w.heap.size w w' := by
  obtain ⟨⟨a0, a1⟩, ⟨b0, b1⟩, ⟨s0, s1⟩, ⟨t0, t1⟩⟩ := hd
  obtain ⟨a, b, s, t⟩ := d
  simp only at a0 a1 b0 b1 s0 s1 t0 t1
  unfold dv nrD
  simp only
  go_enter Try.func40, Try.ntmps40
  go_wp2
  all_goals
    refine bodyPost_ret_by (by rw [results_cell1 rfl]; go_simp; rfl) rfl ?_
    exact ⟨dv_eq (by omega) (by omega) (by omega) (by omega), below2 _ _ _⟩

theorem small_u64 {v : Int} (h : isU v) : IntKind.u64.wrap v = v := by
  obtain ⟨h0, h1⟩ := h
  simp [IntKind.wrap, IntKind.bits, IntKind.signed]; omega

theorem pr_eq {a b a' b' : Int} (h1 : a = a') (h2 : b = b') : Ending.returned (.tuple #[.int .i64 a, .int .u64 b]) = .returned (.tuple #[.int .i64 a', .int .u64 b']) := by subst h1 h2; rfl
theorem wrap_p2 {k : Int} (h0 : 0 ≤ k) (h1 : k ≤ 29) : IntKind.u64.wrap (2 ^ k.toNat) = p2 k := by
  have h2 := p2_pos k
  have h3 := p2_le h1
  rw [show p2 29 = 536870912 by decide +kernel] at h3
  show IntKind.u64.wrap (p2 k) = p2 k
  simp [IntKind.wrap, IntKind.bits, IntKind.signed]; omega

set_option maxHeartbeats 4000000 in
theorem learnPair_any (k s v : Int) (w : World) (h0 : 0 ≤ k) (h1 : k ≤ 24) (s0 : 0 ≤ s) (s1 : s ≤ 68719476735) (hv : isU v) :
    Calls Try.prog 36 #[.int .i64 k, .int .u64 s, .int .u32 v] w fun e w' => e = .returned (.tuple #[.int .i64 (lK k (lS s v)), .int .u64 (lS s v)]) ∧ w = w' := by
  obtain ⟨v0, v1⟩ := hv
  have q4 := wrap_p2 (k := k + 4) (by omega) (by omega)
  have q5 := wrap_p2 (k := k + 5) (by omega) (by omega)
  obtain ⟨S, hS⟩ : ∃ S, s - s / 16 + v = S := ⟨_, rfl⟩
  obtain ⟨K, hK⟩ : ∃ K, lK k (lS s v) = K := ⟨_, rfl⟩
  rw [hK]
  unfold lK lS at hK
  obtain ⟨P4, hP4⟩ : ∃ P, p2 (k + 4) = P := ⟨_, rfl⟩
  obtain ⟨P5, hP5⟩ : ∃ P, p2 (k + 5) = P := ⟨_, rfl⟩
  rw [hS, hP4, hP5] at hK
  rw [hP4] at q4
  rw [hP5] at q5
  unfold lS
  rw [hS]
  have HK := hid hK
  have HS := hid hS
  clear hP4 hP5 hK hS
  go_enter Try.func36, Try.ntmps36
  go_wp2
  all_goals
    go_ret2
    exact ⟨pr_eq (by have h := HK.out; have h2 := HS.out; split at h <;> omega) HS.out, rfl⟩

set_option maxHeartbeats 4000000 in
theorem least_any (d : D4) (w : World) (h0 : 0 ≤ d.a) (h1 : d.a ≤ 24) : Calls Try.prog 35 #[dv d] w fun e w' => e = .returned (.int .u32 (p2 d.a)) ∧ Below w.heap.size w w' := by
  have h2 := p2_24le h1
  have h3 := p2_pos d.a
  obtain ⟨a, b, s, t⟩ := d
  simp only at h0 h1 h2 h3
  unfold dv
  simp only
  have hq : IntKind.u32.wrap (2 ^ a.toNat) = p2 a := by
    show IntKind.u32.wrap (p2 a) = p2 a
    simp [IntKind.wrap, IntKind.bits, IntKind.signed]; omega
  obtain ⟨P, hP⟩ : ∃ P, p2 a = P := ⟨_, rfl⟩
  rw [hP] at hq
  rw [hP]
  clear hP
  go_enter Try.func35, Try.ntmps35
  go_wp2
  go_ret
  exact ⟨rfl, below1 _ _⟩

set_option maxHeartbeats 4000000 in
theorem checkD_any (d : D4) (w : World) (hd : isD d) : Calls Try.prog 15 #[dv d] w fun e w' => e = .returned (.int .i64 (chD d)) ∧ Below w.heap.size w w' := by
  have hN := fun w' => nearest_any d w' hd
  by_cases h : okD d = true
  · rw [nrD_ok h] at hN
    rw [show chD d = 0 by unfold chD; rw [if_pos h]]
    clear h hd
    obtain ⟨a, b, s, t⟩ := d
    unfold dv at hN ⊢
    simp only at hN ⊢
    have hbe := below1 w (.cells #[.int .i64 a, .int .i64 b, .int .u64 s, .int .u64 t] 30)
    have hsz := size1 w (.cells #[.int .i64 a, .int .i64 b, .int .u64 s, .int .u64 t] 30)
    go_enter Try.func15, Try.ntmps15
    go_wp2
    go_region_held3 (fun w' => w'.cell? ⟨w.heap.size, 0, none⟩ = some (.int .i64 a) ∧ w'.cell? ⟨w.heap.size, 1, none⟩ = some (.int .i64 b) ∧ w'.cell? ⟨w.heap.size, 2, none⟩ = some (.int .u64 s) ∧ w'.cell? ⟨w.heap.size, 3, none⟩ = some (.int .u64 t)) (first | go_keep | exact ⟨c0, c1, c2, c3⟩) (first | (go_at_call 40; (with_reducible refine (hN _).mono ?_); rintro e w1 ⟨rfl, hb1⟩; have hB1 := hbe.drew.trans (hb1.mono (show w.heap.size ≤ (w.alloc (.cells #[.int .i64 a, .int .i64 b, .int .u64 s, .int .u64 t] 30)).heap.size by omega)); obtain ⟨c0, c1, c2, c3, f0, f1, f2, f3⟩ := (Box4.of (w := (w.alloc (.cells #[.int .i64 a, .int .i64 b, .int .u64 s, .int .u64 t] 30)).drew) (blk1 w (.cells #[.int .i64 a, .int .i64 b, .int .u64 s, .int .u64 t] 30))).below hb1 (show w.heap.size < (w.alloc (.cells #[.int .i64 a, .int .i64 b, .int .u64 s, .int .u64 t] 30)).heap.size by omega)))
    all_goals
      go_wp2
      go_ret
      exact ⟨rfl, hB1⟩
  · rw [show chD d = 8 by unfold chD; rw [if_neg h]]
    have h2 : nrD d ≠ d := by
      intro e
      apply h
      have e1 : (nrD d).a = d.a := by rw [e]
      have e2 : (nrD d).b = d.b := by rw [e]
      have e3 : (nrD d).s = d.s := by rw [e]
      have e4 : (nrD d).t = d.t := by rw [e]
      unfold nrD at e1 e2 e3 e4
      exact okD_iff.2 (by simp only at e1 e2 e3 e4; omega)
    obtain ⟨D, hD⟩ : ∃ D, nrD d = D := ⟨_, rfl⟩
    rw [hD] at hN h2
    clear h hD hd
    obtain ⟨a, b, s, t⟩ := d
    obtain ⟨a', b', s', t'⟩ := D
    have h3 : ¬ (a = a' ∧ b = b' ∧ s = s' ∧ t = t') := fun ⟨g1, g2, g3, g4⟩ => h2 (by subst g1 g2 g3 g4; rfl)
    clear h2
    unfold dv at hN ⊢
    simp only at hN ⊢
    have hbe := below1 w (.cells #[.int .i64 a, .int .i64 b, .int .u64 s, .int .u64 t] 30)
    have hsz := size1 w (.cells #[.int .i64 a, .int .i64 b, .int .u64 s, .int .u64 t] 30)
    by_cases g0 : a = a'
    case neg =>
      have k0 : (a = a') = False := eq_false g0
      go_enter Try.func15, Try.ntmps15
      go_wp2
      go_region_held3 (fun w' => w'.cell? ⟨w.heap.size, 0, none⟩ = some (.int .i64 a) ∧ w'.cell? ⟨w.heap.size, 1, none⟩ = some (.int .i64 b) ∧ w'.cell? ⟨w.heap.size, 2, none⟩ = some (.int .u64 s) ∧ w'.cell? ⟨w.heap.size, 3, none⟩ = some (.int .u64 t)) (first | go_keep | exact ⟨c0, c1, c2, c3⟩) (first | (go_at_call 40; (with_reducible refine (hN _).mono ?_); rintro e w1 ⟨rfl, hb1⟩; have hB1 := hbe.drew.trans (hb1.mono (show w.heap.size ≤ (w.alloc (.cells #[.int .i64 a, .int .i64 b, .int .u64 s, .int .u64 t] 30)).heap.size by omega)); obtain ⟨c0, c1, c2, c3, f0, f1, f2, f3⟩ := (Box4.of (w := (w.alloc (.cells #[.int .i64 a, .int .i64 b, .int .u64 s, .int .u64 t] 30)).drew) (blk1 w (.cells #[.int .i64 a, .int .i64 b, .int .u64 s, .int .u64 t] 30))).below hb1 (show w.heap.size < (w.alloc (.cells #[.int .i64 a, .int .i64 b, .int .u64 s, .int .u64 t] 30)).heap.size by omega)))
      all_goals
        go_wp2
        go_ret
        exact ⟨rfl, hB1⟩
    subst g0
    by_cases g1 : b = b'
    case neg =>
      have k1 : (b = b') = False := eq_false g1
      go_enter Try.func15, Try.ntmps15
      go_wp2
      go_region_held3 (fun w' => w'.cell? ⟨w.heap.size, 0, none⟩ = some (.int .i64 a) ∧ w'.cell? ⟨w.heap.size, 1, none⟩ = some (.int .i64 b) ∧ w'.cell? ⟨w.heap.size, 2, none⟩ = some (.int .u64 s) ∧ w'.cell? ⟨w.heap.size, 3, none⟩ = some (.int .u64 t)) (first | go_keep | exact ⟨c0, c1, c2, c3⟩) (first | (go_at_call 40; (with_reducible refine (hN _).mono ?_); rintro e w1 ⟨rfl, hb1⟩; have hB1 := hbe.drew.trans (hb1.mono (show w.heap.size ≤ (w.alloc (.cells #[.int .i64 a, .int .i64 b, .int .u64 s, .int .u64 t] 30)).heap.size by omega)); obtain ⟨c0, c1, c2, c3, f0, f1, f2, f3⟩ := (Box4.of (w := (w.alloc (.cells #[.int .i64 a, .int .i64 b, .int .u64 s, .int .u64 t] 30)).drew) (blk1 w (.cells #[.int .i64 a, .int .i64 b, .int .u64 s, .int .u64 t] 30))).below hb1 (show w.heap.size < (w.alloc (.cells #[.int .i64 a, .int .i64 b, .int .u64 s, .int .u64 t] 30)).heap.size by omega)))
      all_goals
        go_wp2
        go_ret
        exact ⟨rfl, hB1⟩
    subst g1
    by_cases g2 : s = s'
    case neg =>
      have k2 : (s = s') = False := eq_false g2
      go_enter Try.func15, Try.ntmps15
      go_wp2
      go_region_held3 (fun w' => w'.cell? ⟨w.heap.size, 0, none⟩ = some (.int .i64 a) ∧ w'.cell? ⟨w.heap.size, 1, none⟩ = some (.int .i64 b) ∧ w'.cell? ⟨w.heap.size, 2, none⟩ = some (.int .u64 s) ∧ w'.cell? ⟨w.heap.size, 3, none⟩ = some (.int .u64 t)) (first | go_keep | exact ⟨c0, c1, c2, c3⟩) (first | (go_at_call 40; (with_reducible refine (hN _).mono ?_); rintro e w1 ⟨rfl, hb1⟩; have hB1 := hbe.drew.trans (hb1.mono (show w.heap.size ≤ (w.alloc (.cells #[.int .i64 a, .int .i64 b, .int .u64 s, .int .u64 t] 30)).heap.size by omega)); obtain ⟨c0, c1, c2, c3, f0, f1, f2, f3⟩ := (Box4.of (w := (w.alloc (.cells #[.int .i64 a, .int .i64 b, .int .u64 s, .int .u64 t] 30)).drew) (blk1 w (.cells #[.int .i64 a, .int .i64 b, .int .u64 s, .int .u64 t] 30))).below hb1 (show w.heap.size < (w.alloc (.cells #[.int .i64 a, .int .i64 b, .int .u64 s, .int .u64 t] 30)).heap.size by omega)))
      all_goals
        go_wp2
        go_ret
        exact ⟨rfl, hB1⟩
    subst g2
    by_cases g3 : t = t'
    case neg =>
      have k3 : (t = t') = False := eq_false g3
      go_enter Try.func15, Try.ntmps15
      go_wp2
      go_region_held3 (fun w' => w'.cell? ⟨w.heap.size, 0, none⟩ = some (.int .i64 a) ∧ w'.cell? ⟨w.heap.size, 1, none⟩ = some (.int .i64 b) ∧ w'.cell? ⟨w.heap.size, 2, none⟩ = some (.int .u64 s) ∧ w'.cell? ⟨w.heap.size, 3, none⟩ = some (.int .u64 t)) (first | go_keep | exact ⟨c0, c1, c2, c3⟩) (first | (go_at_call 40; (with_reducible refine (hN _).mono ?_); rintro e w1 ⟨rfl, hb1⟩; have hB1 := hbe.drew.trans (hb1.mono (show w.heap.size ≤ (w.alloc (.cells #[.int .i64 a, .int .i64 b, .int .u64 s, .int .u64 t] 30)).heap.size by omega)); obtain ⟨c0, c1, c2, c3, f0, f1, f2, f3⟩ := (Box4.of (w := (w.alloc (.cells #[.int .i64 a, .int .i64 b, .int .u64 s, .int .u64 t] 30)).drew) (blk1 w (.cells #[.int .i64 a, .int .i64 b, .int .u64 s, .int .u64 t] 30))).below hb1 (show w.heap.size < (w.alloc (.cells #[.int .i64 a, .int .i64 b, .int .u64 s, .int .u64 t] 30)).heap.size by omega)))
      all_goals
        go_wp2
        go_ret
        exact ⟨rfl, hB1⟩
    subst g3
    exact absurd ⟨rfl, rfl, rfl, rfl⟩ h3

end Go.Proofs.Ytbhoodhcipegbaa.Du

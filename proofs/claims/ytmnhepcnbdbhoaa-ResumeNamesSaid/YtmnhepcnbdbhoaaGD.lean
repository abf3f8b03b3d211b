/- What package dual returns: walks of its Go text. States. What package dual returns: learning, lengths. -/
import Derived.Test.YtmnhepcnbdbhoaaGK
import Derived.Test.YtmnhepcnbdbhoaaGM
import Derived.Test.YtmnhepcnbdbhoaaRice
import Derived.Deep.RegionHeld3
namespace Go.Proofs.Ytmnhepcnbdbhoaa.Du
open Go.Proofs Go.RowKit Go.Proofs.Ytmnhepcnbdbhoaa.Kit Go.Proofs.Ytmnhepcnbdbhoaa.M01 Go.Proofs.Ytmnhepcnbdbhoaa.M02 Go.Proofs.Ytmnhepcnbdbhoaa.M06 Go.Proofs.Ytmnhepcnbdbhoaa.M07 Go.Proofs.Ytmnhepcnbdbhoaa.M08 Go.Proofs.Ytmnhepcnbdbhoaa.Bt Go.Proofs.Ytmnhepcnbdbhoaa.Un Go.Proofs.Ytmnhepcnbdbhoaa.Ri
set_option linter.unusedVariables false
attribute [local irreducible] wpStill

/-- A state as a Go value. -/
def dv (d : D4) : Value := .agg #[.int .i64 d.a, .int .i64 d.b, .int .u64 d.s, .int .u64 d.t]
/-- A block with a state in it. -/
def BoxD (w : World) (g : Nat) (d : D4) : Prop := Box4 w g (.int .i64 d.a) (.int .i64 d.b) (.int .u64 d.s) (.int .u64 d.t)

theorem start_any (w : World) : Calls Try.prog 27 #[] w fun e w' => e = .returned (dv stD) ∧ Below w.heap.size w w' := by
  unfold dv
  go_enter Try.func27, Try.ntmps27
  go_wp2
  refine bodyPost_ret_by (v := .agg #[.int .i64 10, .int .i64 10, .int .u64 16384, .int .u64 16384]) (by rw [results_cell1 rfl]; go_simp) rfl ?_
  exact ⟨rfl, below1 _ _⟩

theorem dv_eq {a b s t a' b' s' t' : Int} (h1 : a = a') (h2 : b = b') (h3 : s = s') (h4 : t = t') : Ending.returned (.agg #[.int .i64 a, .int .i64 b, .int .u64 s, .int .u64 t]) = .returned (.agg #[.int .i64 a', .int .i64 b', .int .u64 s', .int .u64 t']) := by subst h1 h2 h3 h4; rfl

set_option maxHeartbeats 4000000 in
theorem nearest_any (d : D4) (w : World) (hd : isD d) : Calls Try.prog 49 #[dv d] w fun e w' => e = .returned (dv (nrD d)) ∧ Below w.heap.size w w' := by
  obtain ⟨⟨a0, a1⟩, ⟨b0, b1⟩, ⟨s0, s1⟩, ⟨t0, t1⟩⟩ := hd
  obtain ⟨a, b, s, t⟩ := d
  simp only at a0 a1 b0 b1 s0 s1 t0 t1
  unfold dv nrD
  simp only
  go_enter Try.func49, Try.ntmps49
  go_wp2
  all_goals
    refine bodyPost_ret_by (by rw [results_cell1 rfl]; go_simp; rfl) rfl ?_
    exact ⟨dv_eq (by omega) (by omega) (by omega) (by omega), below2 _ _ _⟩

theorem small_u64 {v : Int} (h : isU v) : IntKind.u64.wrap v = v := by
  obtain ⟨h0, h1⟩ := h
  simp [IntKind.wrap, IntKind.bits, IntKind.signed]; omega

theorem pr_eq {a b a' b' : Int} (h1 : a = a') (h2 : b = b') : Ending.returned (.tuple #[.int .i64 a, .int .u64 b]) = .returned (.tuple #[.int .i64 a', .int .u64 b']) := by subst h1 h2; rfl
theorem wrap_p2 {k : Int} (h0 : 0 ≤ k) (h1 : k ≤ 29) : IntKind.u64.wrap (2 ^ k.toNat) = p2 k := by
  have h2 := p2_pos k
  have h3 := p2_le h1
  rw [show p2 29 = 536870912 by decide +kernel] at h3
  show IntKind.u64.wrap (p2 k) = p2 k
  simp [IntKind.wrap, IntKind.bits, IntKind.signed]; omega

set_option maxHeartbeats 4000000 in
theorem learnPair_any (k s v : Int) (w : World) (h0 : 0 ≤ k) (h1 : k ≤ 24) (s0 : 0 ≤ s) (s1 : s ≤ 68719476735) (hv : isU v) :
    Calls Try.prog 61 #[.int .i64 k, .int .u64 s, .int .u32 v] w fun e w' => e = .returned (.tuple #[.int .i64 (lK k (lS s v)), .int .u64 (lS s v)]) ∧ w = w' := by
  obtain ⟨v0, v1⟩ := hv
  have q4 := wrap_p2 (k := k + 4) (by omega) (by omega)
  have q5 := wrap_p2 (k := k + 5) (by omega) (by omega)
  obtain ⟨S, hS⟩ : ∃ S, s - s / 16 + v = S := ⟨_, rfl⟩
  obtain ⟨K, hK⟩ : ∃ K, lK k (lS s v) = K := ⟨_, rfl⟩
  rw [hK]
  unfold lK lS at hK
  obtain ⟨P4, hP4⟩ : ∃ P, p2 (k + 4) = P := ⟨_, rfl⟩
  obtain ⟨P5, hP5⟩ : ∃ P, p2 (k + 5) = P := ⟨_, rfl⟩
  rw [hS, hP4, hP5] at hK
  rw [hP4] at q4
  rw [hP5] at q5
  unfold lS
  rw [hS]
  have HK := hid hK
  have HS := hid hS
  clear hP4 hP5 hK hS
  go_enter Try.func61, Try.ntmps61
  go_wp2
  all_goals
    go_ret2
    exact ⟨pr_eq (by have h := HK.out; have h2 := HS.out; split at h <;> omega) HS.out, rfl⟩

set_option maxHeartbeats 4000000 in
theorem least_any (d : D4) (w : World) (h0 : 0 ≤ d.a) (h1 : d.a ≤ 24) : Calls Try.prog 60 #[dv d] w fun e w' => e = .returned (.int .u32 (p2 d.a)) ∧ Below w.heap.size w w' := by
  have h2 := p2_24le h1
  have h3 := p2_pos d.a
  obtain ⟨a, b, s, t⟩ := d
  simp only at h0 h1 h2 h3
  unfold dv
  simp only
  have hq : IntKind.u32.wrap (2 ^ a.toNat) = p2 a := by
    show IntKind.u32.wrap (p2 a) = p2 a
    simp [IntKind.wrap, IntKind.bits, IntKind.signed]; omega
  obtain ⟨P, hP⟩ : ∃ P, p2 a = P := ⟨_, rfl⟩
  rw [hP] at hq
  rw [hP]
  clear hP
  go_enter Try.func60, Try.ntmps60
  go_wp2
  go_ret
  exact ⟨rfl, below1 _ _⟩

set_option maxHeartbeats 4000000 in
theorem checkD_any (d : D4) (w : World) (hd : isD d) : Calls Try.prog 33 #[dv d] w fun e w' => e = .returned (.int .i64 (chD d)) ∧ Below w.heap.size w w' := by
  have hN := fun w' => nearest_any d w' hd
  by_cases h : okD d = true
  · rw [nrD_ok h] at hN
    rw [show chD d = 0 by unfold chD; rw [if_pos h]]
    clear h hd
    obtain ⟨a, b, s, t⟩ := d
    unfold dv at hN ⊢
    simp only at hN ⊢
    have hbe := below1 w (.cells #[.int .i64 a, .int .i64 b, .int .u64 s, .int .u64 t] 24)
    have hsz := size1 w (.cells #[.int .i64 a, .int .i64 b, .int .u64 s, .int .u64 t] 24)
    go_enter Try.func33, Try.ntmps33
    go_wp2
    go_region_held3 (fun w' => w'.cell? ⟨w.heap.size, 0, none⟩ = some (.int .i64 a) ∧ w'.cell? ⟨w.heap.size, 1, none⟩ = some (.int .i64 b) ∧ w'.cell? ⟨w.heap.size, 2, none⟩ = some (.int .u64 s) ∧ w'.cell? ⟨w.heap.size, 3, none⟩ = some (.int .u64 t)) (first | go_keep | exact ⟨c0, c1, c2, c3⟩) (first | (go_at_call 49; (with_reducible refine (hN _).mono ?_); rintro e w1 ⟨rfl, hb1⟩; have hB1 := hbe.drew.trans (hb1.mono (show w.heap.size ≤ (w.alloc (.cells #[.int .i64 a, .int .i64 b, .int .u64 s, .int .u64 t] 24)).heap.size by omega)); obtain ⟨c0, c1, c2, c3, f0, f1, f2, f3⟩ := (Box4.of (w := (w.alloc (.cells #[.int .i64 a, .int .i64 b, .int .u64 s, .int .u64 t] 24)).drew) (blk1 w (.cells #[.int .i64 a, .int .i64 b, .int .u64 s, .int .u64 t] 24))).below hb1 (show w.heap.size < (w.alloc (.cells #[.int .i64 a, .int .i64 b, .int .u64 s, .int .u64 t] 24)).heap.size by omega)))
    all_goals
      go_wp2
      go_ret
      exact ⟨rfl, hB1⟩
  · rw [show chD d = 8 by unfold chD; rw [if_neg h]]
    have h2 : nrD d ≠ d := by
      intro e
      apply h
      have e1 : (nrD d).a = d.a := by rw [e]
      have e2 : (nrD d).b = d.b := by rw [e]
      have e3 : (nrD d).s = d.s := by rw [e]
      have e4 : (nrD d).t = d.t := by rw [e]
      unfold nrD at e1 e2 e3 e4
      exact okD_iff.2 (by simp only at e1 e2 e3 e4; omega)
    obtain ⟨D, hD⟩ : ∃ D, nrD d = D := ⟨_, rfl⟩
    rw [hD] at hN h2
    clear h hD hd
    obtain ⟨a, b, s, t⟩ := d
    obtain ⟨a', b', s', t'⟩ := D
    have h3 : ¬ (a = a' ∧ b = b' ∧ s = s' ∧ t = t') := fun ⟨g1, g2, g3, g4⟩ => h2 (by subst g1 g2 g3 g4; rfl)
    clear h2
    unfold dv at hN ⊢
    simp only at hN ⊢
    have hbe := below1 w (.cells #[.int .i64 a, .int .i64 b, .int .u64 s, .int .u64 t] 24)
    have hsz := size1 w (.cells #[.int .i64 a, .int .i64 b, .int .u64 s, .int .u64 t] 24)
    by_cases g0 : a = a'
    case neg =>
      have k0 : (a = a') = False := eq_false g0
      go_enter Try.func33, Try.ntmps33
      go_wp2
      go_region_held3 (fun w' => w'.cell? ⟨w.heap.size, 0, none⟩ = some (.int .i64 a) ∧ w'.cell? ⟨w.heap.size, 1, none⟩ = some (.int .i64 b) ∧ w'.cell? ⟨w.heap.size, 2, none⟩ = some (.int .u64 s) ∧ w'.cell? ⟨w.heap.size, 3, none⟩ = some (.int .u64 t)) (first | go_keep | exact ⟨c0, c1, c2, c3⟩) (first | (go_at_call 49; (with_reducible refine (hN _).mono ?_); rintro e w1 ⟨rfl, hb1⟩; have hB1 := hbe.drew.trans (hb1.mono (show w.heap.size ≤ (w.alloc (.cells #[.int .i64 a, .int .i64 b, .int .u64 s, .int .u64 t] 24)).heap.size by omega)); obtain ⟨c0, c1, c2, c3, f0, f1, f2, f3⟩ := (Box4.of (w := (w.alloc (.cells #[.int .i64 a, .int .i64 b, .int .u64 s, .int .u64 t] 24)).drew) (blk1 w (.cells #[.int .i64 a, .int .i64 b, .int .u64 s, .int .u64 t] 24))).below hb1 (show w.heap.size < (w.alloc (.cells #[.int .i64 a, .int .i64 b, .int .u64 s, .int .u64 t] 24)).heap.size by omega)))
      all_goals
        go_wp2
        go_ret
        exact ⟨rfl, hB1⟩
    subst g0
    by_cases g1 : b = b'
    case neg =>
      have k1 : (b = b') = False := eq_false g1
      go_enter Try.func33, Try.ntmps33
      go_wp2
      go_region_held3 (fun w' => w'.cell? ⟨w.heap.size, 0, none⟩ = some (.int .i64 a) ∧ w'.cell? ⟨w.heap.size, 1, none⟩ = some (.int .i64 b) ∧ w'.cell? ⟨w.heap.size, 2, none⟩ = some (.int .u64 s) ∧ w'.cell? ⟨w.heap.size, 3, none⟩ = some (.int .u64 t)) (first | go_keep | exact ⟨c0, c1, c2, c3⟩) (first | (go_at_call 49; (with_reducible refine (hN _).mono ?_); rintro e w1 ⟨rfl, hb1⟩; have hB1 := hbe.drew.trans (hb1.mono (show w.heap.size ≤ (w.alloc (.cells #[.int .i64 a, .int .i64 b, .int .u64 s, .int .u64 t] 24)).heap.size by omega)); obtain ⟨c0, c1, c2, c3, f0, f1, f2, f3⟩ := (Box4.of (w := (w.alloc (.cells #[.int .i64 a, .int .i64 b, .int .u64 s, .int .u64 t] 24)).drew) (blk1 w (.cells #[.int .i64 a, .int .i64 b, .int .u64 s, .int .u64 t] 24))).below hb1 (show w.heap.size < (w.alloc (.cells #[.int .i64 a, .int .i64 b, .int .u64 s, .int .u64 t] 24)).heap.size by omega)))
      all_goals
        go_wp2
        go_ret
        exact ⟨rfl, hB1⟩
    subst g1
    by_cases g2 : s = s'
    case neg =>
      have k2 : (s = s') = False := eq_false g2
      go_enter Try.func33, Try.ntmps33
      go_wp2
      go_region_held3 (fun w' => w'.cell? ⟨w.heap.size, 0, none⟩ = some (.int .i64 a) ∧ w'.cell? ⟨w.heap.size, 1, none⟩ = some (.int .i64 b) ∧ w'.cell? ⟨w.heap.size, 2, none⟩ = some (.int .u64 s) ∧ w'.cell? ⟨w.heap.size, 3, none⟩ = some (.int .u64 t)) (first | go_keep | exact ⟨c0, c1, c2, c3⟩) (first | (go_at_call 49; (with_reducible refine (hN _).mono ?_); rintro e w1 ⟨rfl, hb1⟩; have hB1 := hbe.drew.trans (hb1.mono (show w.heap.size ≤ (w.alloc (.cells #[.int .i64 a, .int .i64 b, .int .u64 s, .int .u64 t] 24)).heap.size by omega)); obtain ⟨c0, c1, c2, c3, f0, f1, f2, f3⟩ := (Box4.of (w := (w.alloc (.cells #[.int .i64 a, .int .i64 b, .int .u64 s, .int .u64 t] 24)).drew) (blk1 w (.cells #[.int .i64 a, .int .i64 b, .int .u64 s, .int .u64 t] 24))).below hb1 (show w.heap.size < (w.alloc (.cells #[.int .i64 a, .int .i64 b, .int .u64 s, .int .u64 t] 24)).heap.size by omega)))
      all_goals
        go_wp2
        go_ret
        exact ⟨rfl, hB1⟩
    subst g2
    by_cases g3 : t = t'
    case neg =>
      have k3 : (t = t') = False := eq_false g3
      go_enter Try.func33, Try.ntmps33
      go_wp2
      go_region_held3 (fun w' => w'.cell? ⟨w.heap.size, 0, none⟩ = some (.int .i64 a) ∧ w'.cell? ⟨w.heap.size, 1, none⟩ = some (.int .i64 b) ∧ w'.cell? ⟨w.heap.size, 2, none⟩ = some (.int .u64 s) ∧ w'.cell? ⟨w.heap.size, 3, none⟩ = some (.int .u64 t)) (first | go_keep | exact ⟨c0, c1, c2, c3⟩) (first | (go_at_call 49; (with_reducible refine (hN _).mono ?_); rintro e w1 ⟨rfl, hb1⟩; have hB1 := hbe.drew.trans (hb1.mono (show w.heap.size ≤ (w.alloc (.cells #[.int .i64 a, .int .i64 b, .int .u64 s, .int .u64 t] 24)).heap.size by omega)); obtain ⟨c0, c1, c2, c3, f0, f1, f2, f3⟩ := (Box4.of (w := (w.alloc (.cells #[.int .i64 a, .int .i64 b, .int .u64 s, .int .u64 t] 24)).drew) (blk1 w (.cells #[.int .i64 a, .int .i64 b, .int .u64 s, .int .u64 t] 24))).below hb1 (show w.heap.size < (w.alloc (.cells #[.int .i64 a, .int .i64 b, .int .u64 s, .int .u64 t] 24)).heap.size by omega)))
      all_goals
        go_wp2
        go_ret
        exact ⟨rfl, hB1⟩
    subst g3
    exact absurd ⟨rfl, rfl, rfl, rfl⟩ h3

end Go.Proofs.Ytmnhepcnbdbhoaa.Du

namespace Go.Proofs.Ytmnhepcnbdbhoaa.Du
open Go.Proofs Go.RowKit Go.Proofs.Ytmnhepcnbdbhoaa.Kit Go.Proofs.Ytmnhepcnbdbhoaa.M01 Go.Proofs.Ytmnhepcnbdbhoaa.M02 Go.Proofs.Ytmnhepcnbdbhoaa.M06 Go.Proofs.Ytmnhepcnbdbhoaa.M07 Go.Proofs.Ytmnhepcnbdbhoaa.M08 Go.Proofs.Ytmnhepcnbdbhoaa.Bt Go.Proofs.Ytmnhepcnbdbhoaa.Un Go.Proofs.Ytmnhepcnbdbhoaa.Ri
set_option linter.unusedVariables false
attribute [local irreducible] wpStill

theorem results_ct {fn : Func} {p u : Tmp} {t1 : TypeId} (h : fn.results = #[.cell p t1, .tmp u]) (tmps : Array Value) (P : Program) (w : World) :
    (results fn tmps).run P w = ((asAddr (tmps.getD p undef)).run P w).andThen fun a w₁ => ((loadVar t1 a).run P w₁).andThen fun v w₂ => .ok (.tuple #[v, tmps.getD u undef]) w₂ := by
  simp only [results, h]
  simp [Sem.run_bind, Result.andThen]

set_option maxHeartbeats 4000000 in
theorem learn_any (d : D4) (v : Int) (w : World) (hd : isD d) (hv : isU v) :
    Calls Try.prog 41 #[dv d, .int .u32 v] w fun e w' => e = .returned (.tuple #[dv (lnD d v), .int .i64 (chD d)]) ∧ Below w.heap.size w w' := by
  have hC := fun w' => checkD_any d w' hd
  by_cases h : okD d = true
  · obtain ⟨a0, a1, b0, b1, s1, t1⟩ := okD_iff.1 h
    have hL := fun w' => least_any d w' a0 a1
    have hP0 := fun w' => learnPair_any d.a d.s v w' a0 a1 hd.2.2.1.1 s1 hv
    rw [show chD d = 0 by unfold chD; rw [if_pos h]] at hC ⊢
    rw [show lnD d v = learnD d v by unfold lnD; rw [if_pos h]]
    have hw0 := p2_24le a1
    have hw1 := p2_pos d.a
    by_cases hl : v < p2 d.a
    · have e1 : learnD d v = ⟨lK d.a (lS d.s v), d.b, lS d.s v, d.t⟩ := by unfold learnD; rw [if_pos hl, if_pos hl]
      rw [e1]
      clear e1 h
      obtain ⟨a, b, s, t⟩ := d
      simp only at a0 a1 b0 b1 s1 t1 hL hP0 hC hl hw0 hw1 ⊢
      unfold dv at hC hL ⊢
      simp only at hC hL ⊢
      obtain ⟨P, hP⟩ : ∃ P, p2 a = P := ⟨_, rfl⟩
      obtain ⟨K0, hK0⟩ : ∃ P, lK a (lS s v) = P := ⟨_, rfl⟩
      obtain ⟨S0, hS0⟩ : ∃ P, lS s v = P := ⟨_, rfl⟩
      simp only [hP] at hL hl hw0 hw1
      simp only [hK0] at hP0 ⊢
      simp only [hS0] at hP0 ⊢
      have f1 : (v < P) = True := eq_true hl
      have f2 : (P ≤ v) = False := eq_false (by omega)
      clear hP hK0 hS0 hl hd
      go_enter Try.func41, Try.ntmps41
      go_wp2_with (first | (go_at_call 33; (with_reducible refine (hC _).mono ?_); rintro e w1 ⟨rfl, hb1⟩; have hB1 := (below2 w _ _).trans (hb1.mono (by rw [size2]; omega)); have z1 : w.heap.size + 2 ≤ w1.heap.size := (by have := hb1.size; rw [size2] at this; exact this); obtain ⟨xc0, xc1, xc2, xc3, xf0, xf1, xf2, xf3⟩ := (Box4.of (blk2a w _ _)).below hb1 (by rw [size2]; omega); obtain ⟨yc0, yc1, yc2, yc3, yf0, yf1, yf2, yf3⟩ := (Box4.of (blk2 w _ _)).below hb1 (by rw [size2]; omega)) | (go_at_call 60; (with_reducible refine (hL _).mono ?_); rintro e w2 ⟨rfl, hb2⟩; have hB2 := hB1.trans (hb2.mono (by omega)); have z2 := hb2.size; have X2 := (Box4.mk xc0 xc1 xc2 xc3 xf0 xf1 xf2 xf3).below hb2 (by omega); have Y2 := (Box4.mk yc0 yc1 yc2 yc3 yf0 yf1 yf2 yf3).below hb2 (by omega); clear xc0 xc1 xc2 xc3 xf0 xf1 xf2 xf3 yc0 yc1 yc2 yc3 yf0 yf1 yf2 yf3; obtain ⟨xc0, xc1, xc2, xc3, xf0, xf1, xf2, xf3⟩ := X2; obtain ⟨yc0, yc1, yc2, yc3, yf0, yf1, yf2, yf3⟩ := Y2) | (go_at_call 61; (with_reducible refine (hP0 _).mono ?_); rintro e w4 ⟨rfl, rfl⟩))
      refine bodyPost_ret_by (v := .tuple #[.agg #[.int .i64 K0, .int .i64 b, .int .u64 S0, .int .u64 t], .int .i64 0]) (by rw [results_cell_tmp rfl]; go_simp) rfl ?_
      exact ⟨rfl, Below.set4 ((hB2.setCell (by dsimp only; omega) _).setCell (by dsimp only; omega) _) (by omega) _ _ _ _⟩
    · have hu := left_bd hv hl
      have hP1 := fun w' => learnPair_any d.b d.t (v - p2 d.a) w' b0 b1 hd.2.2.2.1 t1 hu
      have e1 : learnD d v = ⟨lK d.a (lS d.s v), lK d.b (lS d.t (v - p2 d.a)), lS d.s v, lS d.t (v - p2 d.a)⟩ := by unfold learnD; rw [if_neg hl, if_neg hl]
      rw [e1]
      clear e1 h
      obtain ⟨a, b, s, t⟩ := d
      simp only at a0 a1 b0 b1 s1 t1 hL hP0 hP1 hC hl hw0 hw1 hu ⊢
      unfold dv at hC hL ⊢
      simp only at hC hL ⊢
      obtain ⟨P, hP⟩ : ∃ P, p2 a = P := ⟨_, rfl⟩
      obtain ⟨K0, hK0⟩ : ∃ P, lK a (lS s v) = P := ⟨_, rfl⟩
      obtain ⟨S0, hS0⟩ : ∃ P, lS s v = P := ⟨_, rfl⟩
      simp only [hP] at hL hl hw0 hw1 hP1 hu ⊢
      obtain ⟨K1, hK1⟩ : ∃ Q, lK b (lS t (v - P)) = Q := ⟨_, rfl⟩
      obtain ⟨S1, hS1⟩ : ∃ Q, lS t (v - P) = Q := ⟨_, rfl⟩
      simp only [hK0] at hP0 ⊢
      simp only [hS0] at hP0 ⊢
      simp only [hK1] at hP1 ⊢
      simp only [hS1] at hP1 ⊢
      have f1 : (v < P) = False := eq_false hl
      have f2 : (P ≤ v) = True := eq_true (by omega)
      obtain ⟨v0, v1⟩ := hv
      have hle : P ≤ v := by omega
      clear hP hK0 hS0 hK1 hS1 hl hd hu
      go_enter Try.func41, Try.ntmps41
      go_wp2_with (first | (go_at_call 33; (with_reducible refine (hC _).mono ?_); rintro e w1 ⟨rfl, hb1⟩; have hB1 := (below2 w _ _).trans (hb1.mono (by rw [size2]; omega)); have z1 : w.heap.size + 2 ≤ w1.heap.size := (by have := hb1.size; rw [size2] at this; exact this); obtain ⟨xc0, xc1, xc2, xc3, xf0, xf1, xf2, xf3⟩ := (Box4.of (blk2a w _ _)).below hb1 (by rw [size2]; omega); obtain ⟨yc0, yc1, yc2, yc3, yf0, yf1, yf2, yf3⟩ := (Box4.of (blk2 w _ _)).below hb1 (by rw [size2]; omega)) | (go_at_call 60; (with_reducible refine (hL _).mono ?_); rintro e w2 ⟨rfl, hb2⟩; have hB2 := hB1.trans (hb2.mono (by omega)); have z2 := hb2.size; have X2 := (Box4.mk xc0 xc1 xc2 xc3 xf0 xf1 xf2 xf3).below hb2 (by omega); have Y2 := (Box4.mk yc0 yc1 yc2 yc3 yf0 yf1 yf2 yf3).below hb2 (by omega); clear xc0 xc1 xc2 xc3 xf0 xf1 xf2 xf3 yc0 yc1 yc2 yc3 yf0 yf1 yf2 yf3; obtain ⟨xc0, xc1, xc2, xc3, xf0, xf1, xf2, xf3⟩ := X2; obtain ⟨yc0, yc1, yc2, yc3, yf0, yf1, yf2, yf3⟩ := Y2) | (go_at_call 61; (with_reducible refine (hP1 _).mono ?_); rintro e w3 ⟨rfl, rfl⟩) | (go_at_call 61; (with_reducible refine (hP0 _).mono ?_); rintro e w4 ⟨rfl, rfl⟩))
      refine bodyPost_ret_by (v := .tuple #[.agg #[.int .i64 K0, .int .i64 K1, .int .u64 S0, .int .u64 S1], .int .i64 0]) (by rw [results_cell_tmp rfl]; go_simp) rfl ?_
      exact ⟨rfl, Below.set4 ((((hB2.setCell (by dsimp only; omega) _).setCell (by dsimp only; omega) _).setCell (by dsimp only; omega) _).setCell (by dsimp only; omega) _) (by omega) _ _ _ _⟩
  · rw [show chD d = 8 by unfold chD; rw [if_neg h]] at hC ⊢
    rw [show lnD d v = zD by unfold lnD; rw [if_neg h]]
    clear h hd
    obtain ⟨a, b, s, t⟩ := d
    unfold dv at hC ⊢
    unfold zD
    simp only at hC ⊢
    go_enter Try.func41, Try.ntmps41
    go_wp2_with ((go_at_call 33; (with_reducible refine (hC _).mono ?_); rintro e w1 ⟨rfl, hb1⟩; have hB1 := (below2 w _ _).trans (hb1.mono (by rw [size2]; omega)); have z1 : w.heap.size + 2 ≤ w1.heap.size := (by have := hb1.size; rw [size2] at this; exact this); obtain ⟨xc0, xc1, xc2, xc3, xf0, xf1, xf2, xf3⟩ := (Box4.of (blk2a w _ _)).below hb1 (by rw [size2]; omega); obtain ⟨yc0, yc1, yc2, yc3, yf0, yf1, yf2, yf3⟩ := (Box4.of (blk2 w _ _)).below hb1 (by rw [size2]; omega)))
    refine bodyPost_ret_by (v := .tuple #[.agg #[.int .i64 0, .int .i64 0, .int .u64 0, .int .u64 0], .int .i64 8]) (by rw [results_cell_tmp rfl]; go_simp) rfl ?_
    exact ⟨rfl, Below.set4 hB1 (by omega) _ _ _ _⟩


end Go.Proofs.Ytmnhepcnbdbhoaa.Du

/- What package resume returns: walks of its Go text. Start, Check. -/
import Derived.Test.YtmnhepcnbdbhoaaDual5
import Derived.Test.YtmnhepcnbdbhoaaGK
import Derived.Test.YtmnhepcnbdbhoaaMath10e
namespace Go.Proofs.Ytmnhepcnbdbhoaa.Rs
open Go.Proofs Go.RowKit Go.Proofs.Ytmnhepcnbdbhoaa.Kit Go.Proofs.Ytmnhepcnbdbhoaa.M01 Go.Proofs.Ytmnhepcnbdbhoaa.M02 Go.Proofs.Ytmnhepcnbdbhoaa.M06 Go.Proofs.Ytmnhepcnbdbhoaa.M07 Go.Proofs.Ytmnhepcnbdbhoaa.M08 Go.Proofs.Ytmnhepcnbdbhoaa.M10 Go.Proofs.Ytmnhepcnbdbhoaa.Bt Go.Proofs.Ytmnhepcnbdbhoaa.Un Go.Proofs.Ytmnhepcnbdbhoaa.Ri Go.Proofs.Ytmnhepcnbdbhoaa.Du
set_option linter.unusedVariables false
attribute [local irreducible] wpStill

/-- A state as a Go value. -/
def vR (a : Option Addr) (len cap : Nat) (s : R4) : Value := .agg #[.int .i64 s.l, .int .i64 s.d.a, .int .i64 s.d.b, .int .u64 s.d.s, .int .u64 s.d.t, .slice a len cap, .int .i64 s.n]
/-- A block with a state in it. -/
def BoxR (w : World) (g : Nat) (a : Option Addr) (len cap : Nat) (s : R4) : Prop := Box7 w g (.int .i64 s.l) (.int .i64 s.d.a) (.int .i64 s.d.b) (.int .u64 s.d.s) (.int .u64 s.d.t) (.slice a len cap) (.int .i64 s.n)

set_option maxHeartbeats 4000000 in
theorem start10_any (m : Int) (w : World) (hm : isInt m) :
    Calls Try.prog 9 #[.int .i64 m] w fun e w' => e = .returned (.tuple #[vR none 0 0 (rsR m), .int .i64 (rsE m)]) ∧ Below w.heap.size w w' := by
  have hS := fun w' => Du.start_any w'
  unfold dv stD at hS
  simp only at hS
  unfold vR
  obtain ⟨hm1, hm2⟩ := hm
  by_cases h0 : m < 0
  · have e1 : rsE m = 2 := by rw [rsE, if_pos h0]
    have e2 : rsR m = zR := by rw [rsR, e1]; rfl
    have f1 : (m < 0) = True := eq_true h0
    rw [e1, e2]
    clear e1 e2
    go_enter Try.func9, Try.ntmps9
    go_wp2
    refine bodyPost_ret_by (v := .tuple #[.agg #[.int .i64 0, .int .i64 0, .int .i64 0, .int .u64 0, .int .u64 0, .slice none 0 0, .int .i64 0], .int .i64 2]) (by rw [results_ct rfl]; go_simp) rfl ?_
    exact ⟨rfl, below1 _ _⟩
  have f1 : (m < 0) = False := eq_false h0
  by_cases h4 : 4000 < m
  · have e1 : rsE m = 4 := by rw [rsE, if_neg h0, if_pos h4]
    have e2 : rsR m = zR := by rw [rsR, e1]; rfl
    have f2 : (4000 < m) = True := eq_true h4
    rw [e1, e2]
    clear e1 e2
    go_enter Try.func9, Try.ntmps9
    go_wp2
    refine bodyPost_ret_by (v := .tuple #[.agg #[.int .i64 0, .int .i64 0, .int .i64 0, .int .u64 0, .int .u64 0, .slice none 0 0, .int .i64 0], .int .i64 4]) (by rw [results_ct rfl]; go_simp) rfl ?_
    exact ⟨rfl, below1 _ _⟩
  have f2 : (4000 < m) = False := eq_false h4
  have e1 : rsE m = 0 := by rw [rsE, if_neg h0, if_neg h4]
  have e2 : rsR m = ⟨m, stD, [], 0⟩ := by rw [rsR, e1]; rfl
  rw [e1, e2]
  clear e1 e2
  go_enter Try.func9, Try.ntmps9
  go_wp2_with (go_at_call 27; (with_reducible refine (hS _).mono ?_); rintro e w1 ⟨rfl, hb1⟩; have hB1 := (below1 w _).trans (hb1.mono (by rw [size1]; omega)); obtain ⟨c0, c1, c2, c3, c4, c5, c6, f0, f1, f2, f3, f4, f5, f6⟩ := (Box7.of (blk1 w _)).below hb1 (by rw [size1]; omega); have l1 : w.heap.size < w1.heap.size := (by have := hb1.size; rw [size1] at this; omega))
  refine bodyPost_ret_by (v := .tuple #[.agg #[.int .i64 m, .int .i64 10, .int .i64 10, .int .u64 16384, .int .u64 16384, .slice none 0 0, .int .i64 0], .int .i64 0]) (by rw [results_ct rfl]; go_simp) rfl ?_
  exact ⟨rfl, Below.set7 hB1 (by omega) _ _ _ _ _ _ _⟩

/-- A state that waits for nothing has a byte or more. -/
def moreB (s : R4) : Bool := decide (s.l = 0 ∧ 8 ≤ s.n)
/-- A state that waits for numbers could read on. -/
def readB (s : R4) : Bool := decide (0 < s.l ∧ drE s.xs s.n 0 s.d ≠ 24)

set_option maxHeartbeats 4000000 in
theorem more_any (a : Option Addr) (len cap : Nat) (s : R4) (w : World) (hl : isInt s.l) (hn : isInt s.n) :
    Calls Try.prog 32 #[vR a len cap s] w fun e w' => e = .returned (.bool (moreB s)) ∧ Below w.heap.size w w' := by
  obtain ⟨l, ⟨da, db, ds, dt⟩, xs, n⟩ := s
  unfold vR
  simp only at hl hn ⊢
  by_cases h0 : l = 0
  · subst h0
    by_cases h1 : 8 ≤ n
    · have e1 : moreB ⟨0, ⟨da, db, ds, dt⟩, xs, n⟩ = true := decide_eq_true ⟨rfl, h1⟩
      have f1 : (8 ≤ n) = True := eq_true h1
      have f2 : (n < 8) = False := eq_false (by omega)
      rw [e1]
      go_enter Try.func32, Try.ntmps32
      go_wp2
      go_ret
      exact ⟨rfl, below1 _ _⟩
    · have e1 : moreB ⟨0, ⟨da, db, ds, dt⟩, xs, n⟩ = false := decide_eq_false (fun g => h1 g.2)
      have f1 : (8 ≤ n) = False := eq_false h1
      have f2 : (n < 8) = True := eq_true (by omega)
      rw [e1]
      go_enter Try.func32, Try.ntmps32
      go_wp2
      go_ret
      exact ⟨rfl, below1 _ _⟩
  · have e1 : moreB ⟨l, ⟨da, db, ds, dt⟩, xs, n⟩ = false := decide_eq_false (fun g => h0 g.1)
    have f1 : (l = 0) = False := eq_false h0
    have f2 : (l == 0) = false := beq_eq_false_iff_ne.2 h0
    rw [e1]
    go_enter Try.func32, Try.ntmps32
    go_wp2
    go_ret
    exact ⟨rfl, below1 _ _⟩

set_option maxHeartbeats 4000000 in
theorem canRead_any (a : Option Addr) (len cap : Nat) (s : R4) (w : World) (hr : RowIn .u8 w a len cap s.xs) (hi : isR s) :
    Calls Try.prog 35 #[vR a len cap s] w fun e w' => e = .returned (.bool (readB s)) ∧ Below w.heap.size w w' := by
  obtain ⟨l, d, xs, n⟩ := s
  obtain ⟨hl, hd, hb, hn⟩ := hi
  simp only at hr hl hd hb hn
  have hR := fun w' hb => drd_any a len cap xs n 0 d w' (hr.same (w' := w') hb) hn (by unfold isInt; omega) hd
  unfold bv dv at hR
  have eB : readB ⟨l, d, xs, n⟩ = decide (0 < l ∧ drE xs n 0 d ≠ 24) := rfl
  rw [eB]
  clear eB
  generalize drE xs n 0 d = E at hR ⊢
  generalize drN xs n 0 d = N at hR ⊢
  generalize drX xs n 0 d = X at hR ⊢
  generalize drD xs n 0 d = Y at hR ⊢
  clear hr hb
  obtain ⟨da, db, ds, dt⟩ := d
  obtain ⟨ya, yb, ys, yt⟩ := Y
  unfold vR
  simp only at hR ⊢
  have eBB : (decide (0 < l ∧ E ≠ 24) = true ∧ (0 < l) = True ∧ (E = 24) = False ∧ (E != 24) = true) ∨ (decide (0 < l ∧ E ≠ 24) = false ∧ (0 < l) = True ∧ E = 24) ∨ (decide (0 < l ∧ E ≠ 24) = false ∧ (0 < l) = False) := by
    by_cases h0 : 0 < l
    · by_cases h1 : E = 24
      · exact .inr (.inl ⟨decide_eq_false (fun g => g.2 h1), eq_true h0, h1⟩)
      · exact .inl ⟨decide_eq_true ⟨h0, h1⟩, eq_true h0, eq_false h1, bne_iff_ne.2 h1⟩
    · exact .inr (.inr ⟨decide_eq_false (fun g => h0 g.1), eq_false h0⟩)
  rcases eBB with ⟨e1, f1, f2, f3⟩ | ⟨e1, f1, rfl⟩ | ⟨e1, f1⟩
  all_goals
    rw [e1]
    clear e1
    go_enter Try.func35, Try.ntmps35
    go_wp2_with (go_at_call 29; (with_reducible refine (hR _ (below1 _ _)).mono ?_); rintro e w1 ⟨rfl, hb1⟩; have hB1 := (below1 w _).trans (hb1.mono (by rw [size1]; omega)); obtain ⟨c0, c1, c2, c3, c4, c5, c6, q0, q1, q2, q3, q4, q5, q6⟩ := (Box7.of (blk1 w _)).below hb1 (by rw [size1]; omega); have l1 : w.heap.size < w1.heap.size := (by have := hb1.size; rw [size1] at this; omega))
    go_ret
    exact ⟨rfl, hB1.alloc (by omega) _⟩

set_option maxHeartbeats 4000000 in
theorem chk10_any (a : Option Addr) (len cap : Nat) (s : R4) (w : World) (hr : RowIn .u8 w a len cap s.xs) (hi : isR s) :
    Calls Try.prog 11 #[vR a len cap s] w fun e w' => e = .returned (.int .i64 (rcE s)) ∧ Below w.heap.size w w' := by
  obtain ⟨hl, hd, hb, hn⟩ := id hi
  have hD := fun w' => checkD_any s.d w' hd
  have hC := fun w' hb => check_any a len cap s.xs s.n w' (hr.same (w' := w') hb) hn.1 hn.2
  have hM := fun w' => more_any a len cap s w' hl hn
  have hR := fun w' hb => canRead_any a len cap s w' (hr.same (w' := w') hb) hi
  have key : (s.l < 0 ∧ rcE s = 8) ∨ (¬ s.l < 0 ∧ 4000 < s.l ∧ rcE s = 8) ∨ (¬ s.l < 0 ∧ ¬ 4000 < s.l ∧ chD s.d = 8 ∧ rcE s = 8) ∨ (¬ s.l < 0 ∧ ¬ 4000 < s.l ∧ chD s.d = 0 ∧ chkE s.xs s.n = 8 ∧ rcE s = 8) ∨
      (¬ s.l < 0 ∧ ¬ 4000 < s.l ∧ chD s.d = 0 ∧ chkE s.xs s.n = 0 ∧ moreB s = true ∧ rcE s = 8) ∨ (¬ s.l < 0 ∧ ¬ 4000 < s.l ∧ chD s.d = 0 ∧ chkE s.xs s.n = 0 ∧ moreB s = false ∧ readB s = true ∧ rcE s = 8) ∨ (¬ s.l < 0 ∧ ¬ 4000 < s.l ∧ chD s.d = 0 ∧ chkE s.xs s.n = 0 ∧ moreB s = false ∧ readB s = false ∧ rcE s = 0) := by
    have bad : okR s ≠ true → rcE s = 8 := fun g => by rw [rcE, if_neg g]
    by_cases h0 : s.l < 0
    · exact .inl ⟨h0, bad (fun g => by have := (okR_iff.1 g).1; omega)⟩
    by_cases h1 : 4000 < s.l
    · exact .inr (.inl ⟨h0, h1, bad (fun g => by have := (okR_iff.1 g).1; omega)⟩)
    by_cases h2 : okD s.d = true
    case neg => exact .inr (.inr (.inl ⟨h0, h1, by rw [chD, if_neg h2], bad (fun g => h2 (okR_iff.1 g).2.1)⟩))
    have e2 : chD s.d = 0 := by rw [chD, if_pos h2]
    by_cases h3 : okB s.xs s.n = true
    case neg => exact .inr (.inr (.inr (.inl ⟨h0, h1, e2, by simp [chkE, h3], bad (fun g => h3 (okR_iff.1 g).2.2.1)⟩)))
    have e3 : chkE s.xs s.n = 0 := by simp [chkE, h3]
    by_cases h4 : s.l = 0 ∧ 8 ≤ s.n
    · exact .inr (.inr (.inr (.inr (.inl ⟨h0, h1, e2, e3, decide_eq_true h4, bad (fun g => by have := (okR_iff.1 g).2.2.2.1 h4.1; omega)⟩))))
    have e4 : moreB s = false := decide_eq_false h4
    by_cases h5 : 0 < s.l ∧ drE s.xs s.n 0 s.d ≠ 24
    · exact .inr (.inr (.inr (.inr (.inr (.inl ⟨h0, h1, e2, e3, e4, decide_eq_true h5, bad (fun g => h5.2 ((okR_iff.1 g).2.2.2.2 (by omega)))⟩)))))
    refine .inr (.inr (.inr (.inr (.inr (.inr ⟨h0, h1, e2, e3, e4, decide_eq_false h5, ?_⟩)))))
    rw [rcE, if_pos]
    refine okR_iff.2 ⟨by omega, h2, h3, fun g => by omega, fun g => ?_⟩
    by_cases q : drE s.xs s.n 0 s.d = 24
    · exact q
    · exact absurd ⟨by omega, q⟩ h5
  generalize rcE s = E at key ⊢
  generalize chD s.d = E1 at key hD
  generalize chkE s.xs s.n = E2 at key hC
  generalize moreB s = M at key hM
  generalize readB s = R at key hR
  obtain ⟨l, ⟨da, db, ds, dt⟩, xs, n⟩ := s
  unfold vR at hM hR ⊢
  unfold dv at hD
  unfold bv at hC
  simp only at key hD hC hM hR hl hd hn ⊢
  clear hi hr hb hd
  rcases key with ⟨h0, rfl⟩ | ⟨h0, h1, rfl⟩ | ⟨h0, h1, rfl, rfl⟩ | ⟨h0, h1, rfl, rfl, rfl⟩ | ⟨h0, h1, rfl, rfl, rfl, rfl⟩ | ⟨h0, h1, rfl, rfl, rfl, rfl, rfl⟩ | ⟨h0, h1, rfl, rfl, rfl, rfl, rfl⟩
  · have t0 : (l < 0) = True := eq_true h0
    go_enter Try.func11, Try.ntmps11
    go_wp2
    go_ret
    exact ⟨rfl, below1 _ _⟩
  · have t0 : (l < 0) = False := eq_false h0
    have t1 : (4000 < l) = True := eq_true h1
    go_enter Try.func11, Try.ntmps11
    go_wp2
    go_ret
    exact ⟨rfl, below1 _ _⟩
  all_goals
    have t0 : (l < 0) = False := eq_false h0
    have t1 : (4000 < l) = False := eq_false h1
    go_enter Try.func11, Try.ntmps11
    go_wp2_with (first  | (go_at_call 33; (with_reducible refine (hD _).mono ?_); rintro e w1 ⟨rfl, hb1⟩; have hB1 := (below1 w _).trans (hb1.mono (by rw [size1]; omega)); have K1 := (Box7.of (blk1 w _)).below hb1 (by rw [size1]; omega); have l1 : w.heap.size < w1.heap.size := (by have := hb1.size; rw [size1] at this; omega); obtain ⟨c0, c1, c2, c3, c4, c5, c6, q0, q1, q2, q3, q4, q5, q6⟩ := id K1)  | (go_at_call 34; (with_reducible refine (hC _ hB1).mono ?_); rintro e w2 ⟨rfl, hb2⟩; have hB2 := hB1.trans (hb2.mono (by omega)); have K2 := K1.below hb2 l1; have l2 : w.heap.size < w2.heap.size := (by have := hb2.size; omega); clear c0 c1 c2 c3 c4 c5 c6 q0 q1 q2 q3 q4 q5 q6; obtain ⟨c0, c1, c2, c3, c4, c5, c6, q0, q1, q2, q3, q4, q5, q6⟩ := id K2)  | (go_at_call 32; (with_reducible refine (hM _).mono ?_); rintro e w3 ⟨rfl, hb3⟩; have hB3 := hB2.trans (hb3.mono (by omega)); have K3 := K2.below hb3 l2; have l3 : w.heap.size < w3.heap.size := (by have := hb3.size; omega); clear c0 c1 c2 c3 c4 c5 c6 q0 q1 q2 q3 q4 q5 q6; obtain ⟨c0, c1, c2, c3, c4, c5, c6, q0, q1, q2, q3, q4, q5, q6⟩ := id K3)  | (go_at_call 35; (with_reducible refine (hR _ hB3).mono ?_); rintro e w4 ⟨rfl, hb4⟩; have hB4 := hB3.trans (hb4.mono (by omega)); have K4 := K3.below hb4 l3))
    go_ret
    first
      | exact ⟨rfl, hB4⟩
      | exact ⟨rfl, hB3⟩
      | exact ⟨rfl, hB2⟩
      | exact ⟨rfl, hB1⟩
end Go.Proofs.Ytmnhepcnbdbhoaa.Rs

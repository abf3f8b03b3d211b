/- What the reference of layer 10 returns: Check, Same, Great. -/
import Derived.Test.YtmnhepcnbdbhoaaGR8
import Derived.Test.YtmnhepcnbdbhoaaGR2
import Derived.Test.YtmnhepcnbdbhoaaResume
namespace Go.Proofs.Ytmnhepcnbdbhoaa.R10
open Go.Proofs Go.RowKit Go.Proofs.Ytmnhepcnbdbhoaa.Kit Go.Proofs.Ytmnhepcnbdbhoaa.M01 Go.Proofs.Ytmnhepcnbdbhoaa.M02 Go.Proofs.Ytmnhepcnbdbhoaa.M06 Go.Proofs.Ytmnhepcnbdbhoaa.M07 Go.Proofs.Ytmnhepcnbdbhoaa.M08 Go.Proofs.Ytmnhepcnbdbhoaa.M10 Go.Proofs.Ytmnhepcnbdbhoaa.Bt Go.Proofs.Ytmnhepcnbdbhoaa.R02 Go.Proofs.Ytmnhepcnbdbhoaa.R08 Go.Proofs.Ytmnhepcnbdbhoaa.Rs
set_option linter.unusedVariables false
attribute [local irreducible] wpStill

/-- States are the same. -/
def sameR (s t : R4) : Bool := decide (s.l = t.l ∧ s.d.a = t.d.a ∧ s.d.b = t.d.b ∧ s.d.s = t.d.s ∧ s.d.t = t.d.t) && sameB s.xs s.n t.xs t.n
theorem sameR_self (s : R4) (h : sameB s.xs s.n s.xs s.n = true) : sameR s s = true := by
  unfold sameR
  rw [Bool.and_eq_true]
  exact ⟨decide_eq_true ⟨rfl, rfl, rfl, rfl, rfl⟩, h⟩

set_option maxHeartbeats 4000000 in
theorem rsame10_any (a : Option Addr) (len cap : Nat) (s : R4) (b : Option Addr) (blen bcap : Nat) (t : R4) (w : World) (hr : RowIn .u8 w a len cap s.xs) (hrb : RowIn .u8 w b blen bcap t.xs) :
    Calls Try.prog 12 #[vR a len cap s, vR b blen bcap t] w fun e w' => e = .returned (.bool (sameR s t)) ∧ Below w.heap.size w w' := by
  have hS := fun w' hb => R02.same_any a len cap s.xs s.n b blen bcap t.xs t.n w' (hr.same (w' := w') hb) (hrb.same (w' := w') hb)
  have eF : ¬ (s.l = t.l ∧ s.d.a = t.d.a ∧ s.d.b = t.d.b ∧ s.d.s = t.d.s ∧ s.d.t = t.d.t) → sameR s t = false := fun g => by unfold sameR; rw [decide_eq_false g]; rfl
  have eT : s.l = t.l ∧ s.d.a = t.d.a ∧ s.d.b = t.d.b ∧ s.d.s = t.d.s ∧ s.d.t = t.d.t → sameR s t = sameB s.xs s.n t.xs t.n := fun g => by unfold sameR; rw [decide_eq_true g]; rfl
  generalize sameR s t = R at eF eT ⊢
  generalize sameB s.xs s.n t.xs t.n = V at eT hS
  obtain ⟨l, ⟨da, db, ds, dt⟩, xs, n⟩ := s
  obtain ⟨l', ⟨da', db', ds', dt'⟩, ys, m⟩ := t
  unfold bv at hS
  unfold vR
  simp only at hS eF eT ⊢
  clear hr hrb
  by_cases h1 : l = l'
  case neg =>
    obtain rfl := eF (fun g => h1 g.1)
    have f1 : (l = l') = False := eq_false h1
    have f2 : (l == l') = false := beq_eq_false_iff_ne.2 h1
    go_enter Try.func12, Try.ntmps12
    go_wp2
    go_ret
    exact ⟨rfl, below2 _ _ _⟩
  subst h1
  by_cases h2 : da = da'
  case neg =>
    obtain rfl := eF (fun g => h2 g.2.1)
    have f1 : (da = da') = False := eq_false h2
    have f2 : (da == da') = false := beq_eq_false_iff_ne.2 h2
    go_enter Try.func12, Try.ntmps12
    go_wp2
    go_ret
    exact ⟨rfl, below2 _ _ _⟩
  subst h2
  by_cases h3 : db = db'
  case neg =>
    obtain rfl := eF (fun g => h3 g.2.2.1)
    have f1 : (db = db') = False := eq_false h3
    have f2 : (db == db') = false := beq_eq_false_iff_ne.2 h3
    go_enter Try.func12, Try.ntmps12
    go_wp2
    go_ret
    exact ⟨rfl, below2 _ _ _⟩
  subst h3
  by_cases h4 : ds = ds'
  case neg =>
    obtain rfl := eF (fun g => h4 g.2.2.2.1)
    have f1 : (ds = ds') = False := eq_false h4
    have f2 : (ds == ds') = false := beq_eq_false_iff_ne.2 h4
    go_enter Try.func12, Try.ntmps12
    go_wp2
    go_ret
    exact ⟨rfl, below2 _ _ _⟩
  subst h4
  by_cases h5 : dt = dt'
  case neg =>
    obtain rfl := eF (fun g => h5 g.2.2.2.2)
    have f1 : (dt = dt') = False := eq_false h5
    have f2 : (dt == dt') = false := beq_eq_false_iff_ne.2 h5
    go_enter Try.func12, Try.ntmps12
    go_wp2
    go_ret
    exact ⟨rfl, below2 _ _ _⟩
  subst h5
  obtain rfl := eT ⟨rfl, rfl, rfl, rfl, rfl⟩
  go_enter Try.func12, Try.ntmps12
  go_wp2_with (go_at_call 26; (with_reducible refine (hS _ (below2 _ _ _)).mono ?_); rintro e w1 ⟨rfl, hb1⟩; have hB1 := (below2 w _ _).trans (hb1.mono (by rw [size2]; omega)))
  go_ret
  exact ⟨rfl, hB1⟩

set_option maxHeartbeats 4000000 in
theorem rchk10_any (a : Option Addr) (len cap : Nat) (s : R4) (w : World) (hr : RowIn .u8 w a len cap s.xs) (hi : isR s) :
    Calls Try.prog 19 #[vR a len cap s] w fun e w' => e = .returned (.int .i64 (rcE s)) ∧ Below w.heap.size w w' := by
  obtain ⟨hl, hd, hb, hn⟩ := id hi
  have hD := fun w' => rcheckD_any s.d w' hd
  have hC := fun w' hb => rcheck_any a len cap s.xs s.n w' (hr.same (w' := w') hb) hn
  have hG := fun w' hb h1 h2 => got8_any a len cap s.xs s.n 0 s.d w' (hr.same (w' := w') hb) h1 (by omega) (by omega) h2
  have key : (s.l < 0 ∧ rcE s = 8) ∨ (¬ s.l < 0 ∧ 4000 < s.l ∧ rcE s = 8) ∨ (¬ s.l < 0 ∧ ¬ 4000 < s.l ∧ chD s.d = 8 ∧ rcE s = 8) ∨ (¬ s.l < 0 ∧ ¬ 4000 < s.l ∧ chD s.d = 0 ∧ chkE s.xs s.n = 8 ∧ rcE s = 8) ∨
      (s.l = 0 ∧ chD s.d = 0 ∧ chkE s.xs s.n = 0 ∧ 8 ≤ s.n ∧ rcE s = 8) ∨ (s.l = 0 ∧ chD s.d = 0 ∧ chkE s.xs s.n = 0 ∧ ¬ 8 ≤ s.n ∧ rcE s = 0) ∨
      (¬ s.l < 0 ∧ ¬ 4000 < s.l ∧ s.l ≠ 0 ∧ chD s.d = 0 ∧ chkE s.xs s.n = 0 ∧ okB s.xs s.n = true ∧ okD s.d = true ∧ drE s.xs s.n 0 s.d ≠ 24 ∧ rcE s = 8) ∨ (¬ s.l < 0 ∧ ¬ 4000 < s.l ∧ s.l ≠ 0 ∧ chD s.d = 0 ∧ chkE s.xs s.n = 0 ∧ okB s.xs s.n = true ∧ okD s.d = true ∧ drE s.xs s.n 0 s.d = 24 ∧ rcE s = 0) := by
    have bad : okR s ≠ true → rcE s = 8 := fun g => by rw [rcE, if_neg g]
    by_cases h0 : s.l < 0
    · exact .inl ⟨h0, bad (fun g => by have := (okR_iff.1 g).1; omega)⟩
    by_cases h1 : 4000 < s.l
    · exact .inr (.inl ⟨h0, h1, bad (fun g => by have := (okR_iff.1 g).1; omega)⟩)
    by_cases h2 : okD s.d = true
    case neg => exact .inr (.inr (.inl ⟨h0, h1, by rw [chD, if_neg h2], bad (fun g => h2 (okR_iff.1 g).2.1)⟩))
    have e2 : chD s.d = 0 := by rw [chD, if_pos h2]
    by_cases h3 : okB s.xs s.n = true
    case neg => exact .inr (.inr (.inr (.inl ⟨h0, h1, e2, by simp [chkE, h3], bad (fun g => h3 (okR_iff.1 g).2.2.1)⟩)))
    have e3 : chkE s.xs s.n = 0 := by simp [chkE, h3]
    by_cases h4 : s.l = 0
    · by_cases h5 : 8 ≤ s.n
      · exact .inr (.inr (.inr (.inr (.inl ⟨h4, e2, e3, h5, bad (fun g => by have := (okR_iff.1 g).2.2.2.1 h4; omega)⟩))))
      · exact .inr (.inr (.inr (.inr (.inr (.inl ⟨h4, e2, e3, h5, by rw [rcE, if_pos]; exact okR_iff.2 ⟨by omega, h2, h3, fun _ => by omega, fun g => absurd h4 g⟩⟩)))))
    · by_cases h5 : drE s.xs s.n 0 s.d = 24
      · exact .inr (.inr (.inr (.inr (.inr (.inr (.inr ⟨h0, h1, h4, e2, e3, h3, h2, h5, by rw [rcE, if_pos]; exact okR_iff.2 ⟨by omega, h2, h3, fun g => absurd g h4, fun _ => h5⟩⟩))))))
      · exact .inr (.inr (.inr (.inr (.inr (.inr (.inl ⟨h0, h1, h4, e2, e3, h3, h2, h5, bad (fun g => h5 ((okR_iff.1 g).2.2.2.2 h4))⟩))))))
  generalize rcE s = E at key ⊢
  generalize chD s.d = E1 at key hD
  generalize chkE s.xs s.n = E2 at key hC
  generalize drE s.xs s.n 0 s.d = E3 at key hG
  generalize drN s.xs s.n 0 s.d = N3 at hG
  generalize drX s.xs s.n 0 s.d = X3 at hG
  obtain ⟨l, d, xs, n⟩ := s
  simp only at key hD hC hG
  have hG : okB xs n = true → okD d = true → ∀ w', Below w.heap.size w w' → _ := fun h1 h2 w' hb => hG w' hb h1 h2
  generalize okB xs n = Y1 at key hG
  generalize okD d = Y2 at key hG
  obtain ⟨da, db, ds, dt⟩ := d
  unfold vR
  unfold bv at hC hG
  unfold Du.dv at hD hG
  simp only at key hD hC hG hl hn ⊢
  clear hi hr hb hd
  rcases key with ⟨h0, rfl⟩ | ⟨h0, h1, rfl⟩ | ⟨h0, h1, rfl, rfl⟩ | ⟨h0, h1, rfl, rfl, rfl⟩ | ⟨rfl, rfl, rfl, h1, rfl⟩ | ⟨rfl, rfl, rfl, h1, rfl⟩ | ⟨h0, h1, h2, rfl, rfl, rfl, rfl, h3, rfl⟩ | ⟨h0, h1, h2, rfl, rfl, rfl, rfl, rfl, rfl⟩
  · have t0 : (l < 0) = True := eq_true h0
    go_enter Try.func19, Try.ntmps19
    go_wp2
    go_ret
    exact ⟨rfl, below1 _ _⟩
  · have t0 : (l < 0) = False := eq_false h0
    have t1 : (4000 < l) = True := eq_true h1
    go_enter Try.func19, Try.ntmps19
    go_wp2
    go_ret
    exact ⟨rfl, below1 _ _⟩
  all_goals
    try have t0 : (l < 0) = False := eq_false (by assumption)
    try have t1 : (4000 < l) = False := eq_false (by assumption)
    try have t2 : (l = 0) = False := eq_false (by assumption)
    try have t3 : (8 ≤ n) = True := eq_true (by assumption)
    try have t3 : (8 ≤ n) = False := eq_false (by assumption)
    try have t5 : (E3 = 24) = False := eq_false (by assumption)
    try have t6 : (E3 != 24) = true := bne_iff_ne.2 (by assumption)
    go_enter Try.func19, Try.ntmps19
    go_wp2_with (first  | (go_at_call 37; (with_reducible refine (hD _).mono ?_); rintro e w1 ⟨rfl, hb1⟩; have hB1 := (below1 w _).trans (hb1.mono (by rw [size1]; omega)); have K1 := (Box7.of (blk1 w _)).below hb1 (by rw [size1]; omega); have l1 : w.heap.size < w1.heap.size := (by have := hb1.size; rw [size1] at this; omega); obtain ⟨c0, c1, c2, c3, c4, c5, c6, q0, q1, q2, q3, q4, q5, q6⟩ := id K1)  | (go_at_call 38; (with_reducible refine (hC _ hB1).mono ?_); rintro e w2 ⟨rfl, hb2⟩; have hB2 := hB1.trans (hb2.mono (by omega)); have K2 := K1.below hb2 l1; have l2 : w.heap.size < w2.heap.size := (by have := hb2.size; omega); clear c0 c1 c2 c3 c4 c5 c6 q0 q1 q2 q3 q4 q5 q6; obtain ⟨c0, c1, c2, c3, c4, c5, c6, q0, q1, q2, q3, q4, q5, q6⟩ := id K2)  | (go_at_call 39; (with_reducible refine (hG (by trivial) (by trivial) _ hB2).mono ?_); rintro e w3 ⟨rfl, hb3⟩; have hB3 := hB2.trans (hb3.mono (by omega))))
    go_ret
    first
      | exact ⟨rfl, hB3⟩
      | exact ⟨rfl, hB2⟩
      | exact ⟨rfl, hB1⟩

def greatR (n : Nat) : Bool := decide ((190 < n ∧ n ≤ 41000) ∨ 41100 < n)
set_option maxHeartbeats 4000000 in
theorem rgreat10_any (b : Option Addr) (len cap : Nat) (xs : List Int) (w : World) (r : RowIn .u8 w b len cap xs) :
    Calls Try.prog 16 #[.slice b len cap] w fun e w' => e = .returned (.bool (greatR len)) ∧ w = w' := by
  have hc := r.hc
  have hm := r.hm
  have eT : ((190 < len ∧ len ≤ 41000) ∨ 41100 < len) → greatR len = true := fun g => decide_eq_true g
  have eF : ¬ ((190 < len ∧ len ≤ 41000) ∨ 41100 < len) → greatR len = false := fun g => decide_eq_false g
  generalize greatR len = R at eT eF ⊢
  by_cases h1 : (190 : Int) < len
  · have t1 : ((190 : Int) < len) = True := eq_true h1
    by_cases h2 : (len : Int) ≤ 41000
    · have t2 : ((len : Int) ≤ 41000) = True := eq_true h2
      have t3 : ((41000 : Int) < len) = False := eq_false (by omega)
      obtain rfl := eT (by omega)
      go_enter Try.func16, Try.ntmps16
      go_wp2
      go_ret
      exact ⟨rfl, rfl⟩
    · have t2 : ((len : Int) ≤ 41000) = False := eq_false h2
      have t4 : ((41000 : Int) < len) = True := eq_true (by omega)
      by_cases h3 : (41100 : Int) < len
      · have t3 : ((41100 : Int) < len) = True := eq_true h3
        obtain rfl := eT (by omega)
        go_enter Try.func16, Try.ntmps16
        go_wp2
        go_ret
        exact ⟨rfl, rfl⟩
      · have t3 : ((41100 : Int) < len) = False := eq_false h3
        obtain rfl := eF (by omega)
        go_enter Try.func16, Try.ntmps16
        go_wp2
        go_ret
        exact ⟨rfl, rfl⟩
  · have t1 : ((190 : Int) < len) = False := eq_false h1
    have t3 : ((41100 : Int) < len) = False := eq_false (by omega)
    obtain rfl := eF (by omega)
    go_enter Try.func16, Try.ntmps16
    go_wp2
    go_ret
    exact ⟨rfl, rfl⟩
end Go.Proofs.Ytmnhepcnbdbhoaa.R10

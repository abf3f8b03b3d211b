/- What package dual returns: reading. -/
import Derived.Test.YtmnhepcnbdbhoaaGD
namespace Go.Proofs.Ytmnhepcnbdbhoaa.Du
open Go.Proofs Go.RowKit Go.Proofs.Ytmnhepcnbdbhoaa.Kit Go.Proofs.Ytmnhepcnbdbhoaa.M01 Go.Proofs.Ytmnhepcnbdbhoaa.M02 Go.Proofs.Ytmnhepcnbdbhoaa.M06 Go.Proofs.Ytmnhepcnbdbhoaa.M07 Go.Proofs.Ytmnhepcnbdbhoaa.M08 Go.Proofs.Ytmnhepcnbdbhoaa.Bt Go.Proofs.Ytmnhepcnbdbhoaa.Un Go.Proofs.Ytmnhepcnbdbhoaa.Ri
set_option linter.unusedVariables false
attribute [local irreducible] wpStill

/-- What is read of a valid state: the error, and, without one, the number and the index. -/
def deE (xs : List Int) (n p : Int) (d : D4) : Int :=
  if okB xs n = true then (if p < 0 then 2 else if n ≤ p then 24 else if val xs / p2 p % 2 = 0 then (if n - p - 1 < d.a then 24 else 0) else rrE xs n (p + 1) d.b) else 8

theorem deE_dr {xs : List Int} {n p : Int} {d : D4} (h : okD d = true) :
    (deE xs n p d ≠ 0 → drE xs n p d = deE xs n p d) ∧
    (deE xs n p d = 0 → 0 ≤ dnN (val xs / p2 p) d ∧ dnN (val xs / p2 p) d ≤ 4311744511 ∧ (4294967295 < dnN (val xs / p2 p) d → drE xs n p d = 12) ∧ (¬ 4294967295 < dnN (val xs / p2 p) d → drE xs n p d = 0 ∧ drX xs n p d = p + dnS (val xs / p2 p) d)) := by
  obtain ⟨a0, a1, b0, b1, s1, t1⟩ := okD_iff.1 h
  have hp := p2_24le a1
  have hp1 := p2_pos d.a
  by_cases hok : okB xs n = true
  case neg =>
    have e1 : deE xs n p d = 8 := by unfold deE; rw [if_neg hok]
    have e2 : drE xs n p d = 8 := by unfold drE; rw [if_neg (fun q => hok q.1)]
    rw [e1, e2]; exact ⟨fun _ => rfl, fun g => absurd g (by decide)⟩
  have hand : okB xs n = true ∧ okD d = true := ⟨hok, h⟩
  by_cases h1 : p < 0
  · have e1 : deE xs n p d = 2 := by unfold deE; rw [if_pos hok, if_pos h1]
    have e2 : drE xs n p d = 2 := by unfold drE; rw [if_pos hand, if_pos h1]
    rw [e1, e2]; exact ⟨fun _ => rfl, fun g => absurd g (by decide)⟩
  by_cases h2 : n ≤ p
  · have e1 : deE xs n p d = 24 := by unfold deE; rw [if_pos hok, if_neg h1, if_pos h2]
    have e2 : drE xs n p d = 24 := by unfold drE; rw [if_pos hand, if_neg h1, if_pos h2]
    rw [e1, e2]; exact ⟨fun _ => rfl, fun g => absurd g (by decide)⟩
  by_cases h3 : val xs / p2 p % 2 = 0
  · by_cases h4 : n - p - 1 < d.a
    · have e1 : deE xs n p d = 24 := by unfold deE; rw [if_pos hok, if_neg h1, if_neg h2, if_pos h3, if_pos h4]
      have e2 : drE xs n p d = 24 := by unfold drE; rw [if_pos hand, if_neg h1, if_neg h2, if_pos h3, if_pos h4]
      rw [e1, e2]; exact ⟨fun _ => rfl, fun g => absurd g (by decide)⟩
    · have e1 : deE xs n p d = 0 := by unfold deE; rw [if_pos hok, if_neg h1, if_neg h2, if_pos h3, if_neg h4]
      have e2 : drE xs n p d = 0 := by unfold drE; rw [if_pos hand, if_neg h1, if_neg h2, if_pos h3, if_neg h4]
      have e3 : dnN (val xs / p2 p) d = val xs / p2 p / 2 % p2 d.a := by unfold dnN; rw [if_pos h3]
      have hm := emod_bd (val xs / p2 p / 2) d.a
      rw [e1]
      exact ⟨fun g => absurd rfl g, fun _ => ⟨by omega, by omega, fun g => by omega, fun _ => ⟨e2, by rw [drX, if_pos e2]⟩⟩⟩
  · have e1 : deE xs n p d = rrE xs n (p + 1) d.b := by unfold deE; rw [if_pos hok, if_neg h1, if_neg h2, if_neg h3]
    have e2 : drE xs n p d = if rrE xs n (p + 1) d.b ≠ 0 then rrE xs n (p + 1) d.b else if 4294967295 < rrN xs n (p + 1) d.b + p2 d.a then 12 else 0 := by unfold drE; rw [if_pos hand, if_neg h1, if_neg h2, if_neg h3]
    rw [e1]
    refine ⟨fun g => by rw [e2, if_pos g], fun g => ?_⟩
    rw [if_neg (by rw [g]; simp)] at e2
    have e3 : rrN xs n (p + 1) d.b = dcN (val xs / p2 p / 2) d.b := by rw [rrN, if_pos g, next_val (by omega)]
    have e4 : dnN (val xs / p2 p) d = dcN (val xs / p2 p / 2) d.b + p2 d.a := by unfold dnN; rw [if_neg h3]
    have hb := dcN_bd (X := val xs / p2 p / 2) b0 b1
    rw [e3, ← e4] at e2
    refine ⟨by omega, by omega, fun q => by rw [e2, if_pos q], fun q => ?_⟩
    rw [if_neg q] at e2
    exact ⟨e2, by rw [drX, if_pos e2]⟩

theorem wrap_i64_id {p : Int} (h0 : -9223372036854775808 ≤ p) (h1 : p ≤ 9223372036854775807) : IntKind.i64.wrap p = p := by
  simp [IntKind.wrap, IntKind.bits, IntKind.signed]; omega
theorem isInt_wrap (p : Int) : isInt (IntKind.i64.wrap p) := by
  unfold isInt; simp [IntKind.wrap, IntKind.bits, IntKind.signed]; omega

set_option maxHeartbeats 4000000 in
theorem low_any (g0 g1 g2 : Nat) (a : Option Addr) (len cap : Nat) (xs : List Int) (n p q e0 m : Int) (w : World) (hr : RowIn .u8 w a len cap xs) (hn : isInt n) (hp : isInt p) (hm : isInt m)
    (b0 : Box2 w g0 (.slice a len cap) (.int .i64 n)) (x1 : Box1 w g1 (.int .i64 p)) (x2 : Box1 w g2 (.int .i64 e0)) (hne : g1 ≠ g2) (hq : IntKind.i64.wrap (p + m) = q) :
    Calls Try.prog 62 #[.int .i64 m, .pointer (some ⟨g0, 0, none⟩), .pointer (some ⟨g1, 0, none⟩), .pointer (some ⟨g2, 0, none⟩)] w fun e w' => e = .returned (.int .u64 (getN xs n p m)) ∧ ∃ w1, Below w.heap.size w w1 ∧ w' = (w1.setCell ⟨g2, 0, none⟩ (.int .i64 (getE xs n p m))).setCell ⟨g1, 0, none⟩ (.int .i64 q) := by
  have hG := get_any a len cap xs n p m w hr hn hp hm
  obtain ⟨E, hE⟩ : ∃ R, getE xs n p m = R := ⟨_, rfl⟩
  obtain ⟨N, hN⟩ : ∃ R, getN xs n p m = R := ⟨_, rfl⟩
  rw [hE, hN] at hG ⊢
  obtain ⟨y0, y1, _, _⟩ := b0
  obtain ⟨c1, f1⟩ := x1
  obtain ⟨c2, f2⟩ := x2
  have l1 := World.block_lt_of_cell? w _ c1
  have l2 := World.block_lt_of_cell? w _ c2
  have hne' := hne.symm
  unfold bv at hG
  clear hE hN
  go_enter Try.func62, Try.ntmps62
  go_wp2_with (go_at_call 63; refine hG.mono ?_; rintro e w1 ⟨rfl, hb⟩; have d1 : w1.cell? ⟨g1, 0, none⟩ = some (.int .i64 p) := (by rw [hb.cell l1]; exact c1); have d2 : w1.cell? ⟨g2, 0, none⟩ = some (.int .i64 e0) := (by rw [hb.cell l2]; exact c2);  have k1 : w1.frozen? ⟨g1, 0, none⟩ = false := (by rw [World.frozen?_of_block (hb.block _ l1)]; exact f1); have k2 : w1.frozen? ⟨g2, 0, none⟩ = false := (by rw [World.frozen?_of_block (hb.block _ l2)]; exact f2); clear c1 c2 f1 f2)
  go_ret
  exact ⟨rfl, w1, hb, rfl⟩

theorem get1_de {xs : List Int} {n p : Int} {d : D4} (h : getE xs n p 1 ≠ 0) : deE xs n p d = getE xs n p 1 ∧ getN xs n p 1 = 0 := by
  refine ⟨?_, by rw [getN, if_neg h]⟩
  unfold getE at h ⊢
  unfold deE
  by_cases hok : okB xs n = true
  · rw [if_pos hok] at h ⊢
    rw [if_pos hok]
    by_cases h1 : p < 0
    · rw [if_pos h1, if_pos (by omega)]
    · have k : ¬ ((1 : Int) < 0 ∨ (64 : Int) < 1 ∨ p < 0) := by omega
      rw [if_neg k] at h ⊢
      rw [if_neg h1]
      by_cases h2 : n ≤ p
      · rw [if_pos h2, if_pos (by omega)]
      · rw [if_neg (show ¬ n - p < 1 by omega)] at h; exact absurd rfl h
  · rw [if_neg hok, if_neg hok]

set_option maxRecDepth 100000 in
set_option maxHeartbeats 8000000 in
theorem dec_any (a : Option Addr) (len cap : Nat) (xs : List Int) (n p : Int) (d : D4) (w : World) (hr : RowIn .u8 w a len cap xs) (hn : isInt n) (hp : isInt p) (hd : isD d) (h : okD d = true) :
    Calls Try.prog 45 #[bv a len cap n, .int .i64 p, dv d] w fun e w' => ∃ N X, e = .returned (.tuple #[.int .u64 N, .int .i64 X, .int .i64 (deE xs n p d)]) ∧ (deE xs n p d = 0 → N = dnN (val xs / p2 p) d ∧ X = p + dnS (val xs / p2 p) d) ∧ Below w.heap.size w w' := by
  have hent : ∀ (args : Array Value) (w : World), (callFunc 62 args).run Try.prog w = .ok (.enter 62 args) w := enters_of Try.func62 (by kernel_rfl) rfl
  obtain ⟨a0, a1, b0, b1, s1, t1⟩ := okD_iff.1 h
  have hw0 := p2_24le a1
  have hw1 := p2_pos d.a
  by_cases hE1 : getE xs n p 1 = 0
  · obtain ⟨hok, p0, pn, n1, eN1⟩ := get_ok hE1
    have ewrap : IntKind.i64.wrap (p + 1) = p + 1 := wrap_i64_id (by omega) (by omega)
    have hbit : val xs / p2 p % 2 = 0 ∨ val xs / p2 p % 2 = 1 := by omega
    rcases hbit with hbit | hbit
    · -- the first level
      have eD : deE xs n p d = getE xs n (p + 1) d.a := by
        unfold deE getE
        rw [if_pos hok, if_pos hok, if_neg (show ¬ p < 0 by omega), if_neg (show ¬ n ≤ p by omega), if_pos hbit, if_neg (show ¬ (d.a < 0 ∨ 64 < d.a ∨ p + 1 < 0) by omega), show n - p - 1 = n - (p + 1) by omega]
      have eX : getE xs n (p + 1) d.a = 0 → getN xs n (p + 1) d.a = dnN (val xs / p2 p) d ∧ p + 1 + d.a = p + dnS (val xs / p2 p) d := by
        intro g
        refine ⟨?_, by unfold dnS; rw [if_pos hbit]; omega⟩
        unfold dnN; rw [getN, if_pos g, if_pos hbit, next_val (by omega)]
      rw [eD]
      clear eD
      obtain ⟨da, db, ds, dt⟩ := d
      simp only at a0 a1 b0 b1 s1 t1 hw0 hw1 eX
      unfold dv bv
      simp only
      have K0 := Box2.of (blk4a w (.cells #[.slice a len cap, .int .i64 n] 27) (.cells #[.int .i64 da, .int .i64 db, .int .u64 ds, .int .u64 dt] 24) (.cells #[.int .i64 p] 3) (.cells #[.int .i64 0] 30))
      have K1 := Box4.of (blk4b w (.cells #[.slice a len cap, .int .i64 n] 27) (.cells #[.int .i64 da, .int .i64 db, .int .u64 ds, .int .u64 dt] 24) (.cells #[.int .i64 p] 3) (.cells #[.int .i64 0] 30))
      have K2 := Box1.of (blk4c w (.cells #[.slice a len cap, .int .i64 n] 27) (.cells #[.int .i64 da, .int .i64 db, .int .u64 ds, .int .u64 dt] 24) (.cells #[.int .i64 p] 3) (.cells #[.int .i64 0] 30))
      have K3 := Box1.of (blk4 w (.cells #[.slice a len cap, .int .i64 n] 27) (.cells #[.int .i64 da, .int .i64 db, .int .u64 ds, .int .u64 dt] 24) (.cells #[.int .i64 p] 3) (.cells #[.int .i64 0] 30))
      have hO1 := low_any w.heap.size (w.heap.size + 2) (w.heap.size + 3) a len cap xs n p (IntKind.i64.wrap (p + 1)) 0 1 _ (hr.same (below4 w (.cells #[.slice a len cap, .int .i64 n] 27) (.cells #[.int .i64 da, .int .i64 db, .int .u64 ds, .int .u64 dt] 24) (.cells #[.int .i64 p] 3) (.cells #[.int .i64 0] 30))) hn hp (by unfold isInt; omega) K0 K2 K3 (by omega) rfl

      rw [hE1, ewrap, eN1, hbit] at hO1
      have hO2 := fun w' (r : RowIn .u8 w' a len cap xs) k1 k2 k3 => low_any w.heap.size (w.heap.size + 2) (w.heap.size + 3) a len cap xs n (p + 1) (p + 1 + da) 0 da w' r hn (by unfold isInt; omega) (by unfold isInt; omega) k1 k2 k3 (by omega) (wrap_i64_id (by omega) (by omega))
      obtain ⟨E1, hEE1⟩ : ∃ E, (0 : Int) = E := ⟨_, rfl⟩
      obtain ⟨E2, hEE2⟩ : ∃ E, getE xs n (p + 1) da = E := ⟨_, rfl⟩
      obtain ⟨N2, hN2⟩ : ∃ E, getN xs n (p + 1) da = E := ⟨_, rfl⟩
      obtain ⟨q1, hq1⟩ : ∃ E, p + 1 = E := ⟨_, rfl⟩
      obtain ⟨q2, hq2⟩ : ∃ E, p + 1 + da = E := ⟨_, rfl⟩
      simp only [hEE2, hN2, hq2] at hO2 eX ⊢
      simp only [hq1] at hO1 hO2
      have HX := hid eX
      clear eX hEE1 hEE2 hN2 hq2 hq1 hE1 ewrap eN1 hbit hok hd h hp
      have t1' : ((0 : Int) == 1) = false := rfl
      go_enter Try.func45, Try.ntmps45
      go_wp2_with (first | (go_at_call 62; (with_reducible refine hO1.mono ?_); rintro e w2' ⟨rfl, w1, hb1, rfl⟩; have z1 : w.heap.size + 4 ≤ w1.heap.size := (by have := hb1.size; rw [size4] at this; exact this);  have B2 := ((K0.below hb1 (by rw [size4]; omega)).set (g' := w.heap.size + 3) (i := 0) (x := .int .i64 0) (by omega)).set (g' := w.heap.size + 2) (i := 0) (x := .int .i64 q1) (by omega);  have D2 := ((K1.below hb1 (by rw [size4]; omega)).set (g' := w.heap.size + 3) (i := 0) (x := .int .i64 0) (by omega)).set (g' := w.heap.size + 2) (i := 0) (x := .int .i64 q1) (by omega);  have X2 := ((K2.below hb1 (by rw [size4]; omega)).set (g' := w.heap.size + 3) (i := 0) (x := .int .i64 0) (by omega)).put (.int .i64 q1);  have Y2 := ((K3.below hb1 (by rw [size4]; omega)).put (.int .i64 0)).set (g' := w.heap.size + 2) (i := 0) (x := .int .i64 q1) (by omega);  have hB2 : Below w.heap.size w ((w1.setCell ⟨w.heap.size + 3, 0, none⟩ (.int .i64 0)).setCell ⟨w.heap.size + 2, 0, none⟩ (.int .i64 q1)) := (((below4 w _ _ _ _).trans (hb1.mono (by rw [size4]; omega))).setCell (by dsimp only; omega) _).setCell (by dsimp only; omega) _;  have z2 : w.heap.size + 4 ≤ ((w1.setCell ⟨w.heap.size + 3, 0, none⟩ (.int .i64 0)).setCell ⟨w.heap.size + 2, 0, none⟩ (.int .i64 q1)).heap.size := (by simp only [World.size_setCell]; exact z1);  generalize ((w1.setCell ⟨w.heap.size + 3, 0, none⟩ (.int .i64 0)).setCell ⟨w.heap.size + 2, 0, none⟩ (.int .i64 q1)) = w2 at *; clear K0 K1 K2 K3; obtain ⟨bc0, bc1, bf0, bf1⟩ := B2; obtain ⟨dc0, dc1, dc2, dc3, df0, df1, df2, df3⟩ := D2; obtain ⟨xc, xf⟩ := X2; obtain ⟨yc, yf⟩ := Y2) | (go_at_call 62; (with_reducible refine (hO2 _ (hr.same hB2) (Box2.mk bc0 bc1 bf0 bf1) (Box1.mk xc xf) (Box1.mk yc yf)).mono ?_); rintro e w3' ⟨rfl, w3, hb3, rfl⟩; have z3 := hb3.size;  have X3 := (((Box1.mk xc xf).below hb3 (by omega)).set (g' := w.heap.size + 3) (i := 0) (x := .int .i64 E2) (by omega)).put (.int .i64 q2);  have Y3 := (((Box1.mk yc yf).below hb3 (by omega)).put (.int .i64 E2)).set (g' := w.heap.size + 2) (i := 0) (x := .int .i64 q2) (by omega);  have hB3 : Below w.heap.size w ((w3.setCell ⟨w.heap.size + 3, 0, none⟩ (.int .i64 E2)).setCell ⟨w.heap.size + 2, 0, none⟩ (.int .i64 q2)) := ((hB2.trans (hb3.mono (by omega))).setCell (by dsimp only; omega) _).setCell (by dsimp only; omega) _;  have z4 : w.heap.size + 4 ≤ ((w3.setCell ⟨w.heap.size + 3, 0, none⟩ (.int .i64 E2)).setCell ⟨w.heap.size + 2, 0, none⟩ (.int .i64 q2)).heap.size := (by simp only [World.size_setCell]; omega);  generalize ((w3.setCell ⟨w.heap.size + 3, 0, none⟩ (.int .i64 E2)).setCell ⟨w.heap.size + 2, 0, none⟩ (.int .i64 q2)) = w4 at *; clear bc0 bc1 bf0 bf1 dc0 dc1 dc2 dc3 df0 df1 df2 df3 xc xf yc yf; obtain ⟨xc, xf⟩ := X3; obtain ⟨yc, yf⟩ := Y3))
      go_region
      go_wp2
      refine bodyPost_ret_by (v := .tuple #[.int .u64 N2, .int .i64 q2, .int .i64 E2]) (by rw [results_tcc rfl]; go_simp) rfl ?_
      exact ⟨_, _, rfl, HX.out, (hB3.drew.setCell (by dsimp only; omega) _).setCell (by dsimp only; omega) _⟩
    · -- the second
      have eD : deE xs n p d = rrE xs n (p + 1) d.b := by
        unfold deE
        rw [if_pos hok, if_neg (by omega), if_neg (by omega), if_neg (by omega)]
      have eX : rrE xs n (p + 1) d.b = 0 → rrN xs n (p + 1) d.b + p2 d.a = dnN (val xs / p2 p) d ∧ rrX xs n (p + 1) d.b = p + dnS (val xs / p2 p) d := by
        intro g
        unfold dnN dnS
        rw [if_neg (by omega), if_neg (by omega), rrN, rrX, if_pos g, if_pos g, next_val (by omega)]
        exact ⟨rfl, by omega⟩
      have hrb : 0 ≤ rrN xs n (p + 1) d.b ∧ rrN xs n (p + 1) d.b ≤ 4294967295 := by
        rw [rrN]; split
        · have := dcN_bd (X := val xs / p2 (p + 1)) b0 b1; omega
        · omega
      have hLs := fun w' => least_any d w' a0 a1
      have hR2 := fun w' (r : RowIn .u8 w' a len cap xs) => rrd_any a len cap xs n (p + 1) d.b w' r hn (by unfold isInt; omega) (by unfold isInt; omega)
      rw [eD]
      clear eD
      obtain ⟨da, db, ds, dt⟩ := d
      simp only at a0 a1 b0 b1 s1 t1 hw0 hw1 eX hrb hR2 hLs ⊢
      unfold bv at hR2 ⊢
      unfold dv at hLs ⊢
      simp only at hLs ⊢
      have K0 := Box2.of (blk4a w (.cells #[.slice a len cap, .int .i64 n] 27) (.cells #[.int .i64 da, .int .i64 db, .int .u64 ds, .int .u64 dt] 24) (.cells #[.int .i64 p] 3) (.cells #[.int .i64 0] 30))
      have K1 := Box4.of (blk4b w (.cells #[.slice a len cap, .int .i64 n] 27) (.cells #[.int .i64 da, .int .i64 db, .int .u64 ds, .int .u64 dt] 24) (.cells #[.int .i64 p] 3) (.cells #[.int .i64 0] 30))
      have K2 := Box1.of (blk4c w (.cells #[.slice a len cap, .int .i64 n] 27) (.cells #[.int .i64 da, .int .i64 db, .int .u64 ds, .int .u64 dt] 24) (.cells #[.int .i64 p] 3) (.cells #[.int .i64 0] 30))
      have K3 := Box1.of (blk4 w (.cells #[.slice a len cap, .int .i64 n] 27) (.cells #[.int .i64 da, .int .i64 db, .int .u64 ds, .int .u64 dt] 24) (.cells #[.int .i64 p] 3) (.cells #[.int .i64 0] 30))
      have hO1 := low_any w.heap.size (w.heap.size + 2) (w.heap.size + 3) a len cap xs n p (IntKind.i64.wrap (p + 1)) 0 1 _ (hr.same (below4 w (.cells #[.slice a len cap, .int .i64 n] 27) (.cells #[.int .i64 da, .int .i64 db, .int .u64 ds, .int .u64 dt] 24) (.cells #[.int .i64 p] 3) (.cells #[.int .i64 0] 30))) hn hp (by unfold isInt; omega) K0 K2 K3 (by omega) rfl

      rw [hE1, ewrap, eN1, hbit] at hO1
      obtain ⟨q1, hq1⟩ : ∃ E, p + 1 = E := ⟨_, rfl⟩
      obtain ⟨P, hP⟩ : ∃ E, p2 da = E := ⟨_, rfl⟩
      simp only [hq1] at hO1 hR2 eX hrb ⊢
      simp only [hP] at eX hw0 hw1 hLs
      obtain ⟨E2, hEE2⟩ : ∃ E, rrE xs n q1 db = E := ⟨_, rfl⟩
      obtain ⟨N2, hN2⟩ : ∃ E, rrN xs n q1 db = E := ⟨_, rfl⟩
      obtain ⟨q2, hq2⟩ : ∃ E, rrX xs n q1 db = E := ⟨_, rfl⟩
      simp only [hEE2, hN2, hq2] at hR2 eX hrb ⊢
      have HX := hid eX
      clear eX hEE2 hN2 hq2 hq1 hP hE1 ewrap eN1 hbit hok hd h hp
      have t1' : ((1 : Int) == 1) = true := rfl
      have u1 := small_u64 (v := N2) hrb
      have u2 := small_u64 (v := P) (by unfold isU; omega)
      have u3 : IntKind.u64.wrap (N2 + P) = N2 + P := by simp [IntKind.wrap, IntKind.bits, IntKind.signed]; omega
      go_enter Try.func45, Try.ntmps45
      go_wp2_with (first | (go_at_call 62; (with_reducible refine hO1.mono ?_); rintro e w2' ⟨rfl, w1, hb1, rfl⟩; have z1 : w.heap.size + 4 ≤ w1.heap.size := (by have := hb1.size; rw [size4] at this; exact this);  have B2 := ((K0.below hb1 (by rw [size4]; omega)).set (g' := w.heap.size + 3) (i := 0) (x := .int .i64 0) (by omega)).set (g' := w.heap.size + 2) (i := 0) (x := .int .i64 q1) (by omega);  have D2 := ((K1.below hb1 (by rw [size4]; omega)).set (g' := w.heap.size + 3) (i := 0) (x := .int .i64 0) (by omega)).set (g' := w.heap.size + 2) (i := 0) (x := .int .i64 q1) (by omega);  have X2 := ((K2.below hb1 (by rw [size4]; omega)).set (g' := w.heap.size + 3) (i := 0) (x := .int .i64 0) (by omega)).put (.int .i64 q1);  have Y2 := ((K3.below hb1 (by rw [size4]; omega)).put (.int .i64 0)).set (g' := w.heap.size + 2) (i := 0) (x := .int .i64 q1) (by omega);  have hB2 : Below w.heap.size w ((w1.setCell ⟨w.heap.size + 3, 0, none⟩ (.int .i64 0)).setCell ⟨w.heap.size + 2, 0, none⟩ (.int .i64 q1)) := (((below4 w _ _ _ _).trans (hb1.mono (by rw [size4]; omega))).setCell (by dsimp only; omega) _).setCell (by dsimp only; omega) _;  have z2 : w.heap.size + 4 ≤ ((w1.setCell ⟨w.heap.size + 3, 0, none⟩ (.int .i64 0)).setCell ⟨w.heap.size + 2, 0, none⟩ (.int .i64 q1)).heap.size := (by simp only [World.size_setCell]; exact z1);  generalize ((w1.setCell ⟨w.heap.size + 3, 0, none⟩ (.int .i64 0)).setCell ⟨w.heap.size + 2, 0, none⟩ (.int .i64 q1)) = w2 at *; clear K0 K1 K2 K3; obtain ⟨bc0, bc1, bf0, bf1⟩ := B2; obtain ⟨dc0, dc1, dc2, dc3, df0, df1, df2, df3⟩ := D2; obtain ⟨xc, xf⟩ := X2; obtain ⟨yc, yf⟩ := Y2) | (go_at_call 64; (with_reducible refine (hR2 _ (hr.same hB2)).mono ?_); rintro e w3 ⟨rfl, hb3⟩; have z3 := hb3.size;  have D3 := (Box4.mk dc0 dc1 dc2 dc3 df0 df1 df2 df3).below hb3 (by omega); have X3 := (Box1.mk xc xf).below hb3 (by omega); have Y3 := (Box1.mk yc yf).below hb3 (by omega); have hB3 := hB2.trans (hb3.mono (by omega));  clear bc0 bc1 bf0 bf1 dc0 dc1 dc2 dc3 df0 df1 df2 df3 xc xf yc yf; obtain ⟨dc0, dc1, dc2, dc3, df0, df1, df2, df3⟩ := D3; obtain ⟨xc, xf⟩ := X3; obtain ⟨yc, yf⟩ := Y3))
      have X4 : Box1 ((w3.setCell ⟨w.heap.size + 1 + 1, 0, none⟩ (.int .i64 q2)).setCell ⟨w.heap.size + 1 + 1 + 1, 0, none⟩ (.int .i64 E2)) (w.heap.size + 2) (.int .i64 q2) := ((Box1.mk xc xf).put _).set (by omega)
      have Y4 : Box1 ((w3.setCell ⟨w.heap.size + 1 + 1, 0, none⟩ (.int .i64 q2)).setCell ⟨w.heap.size + 1 + 1 + 1, 0, none⟩ (.int .i64 E2)) (w.heap.size + 3) (.int .i64 E2) := ((Box1.mk yc yf).set (g' := w.heap.size + 2) (i := 0) (x := .int .i64 q2) (by omega)).put _
      have D4 : Box4 ((w3.setCell ⟨w.heap.size + 1 + 1, 0, none⟩ (.int .i64 q2)).setCell ⟨w.heap.size + 1 + 1 + 1, 0, none⟩ (.int .i64 E2)) (w.heap.size + 1) (.int .i64 da) (.int .i64 db) (.int .u64 ds) (.int .u64 dt) := ((Box4.mk dc0 dc1 dc2 dc3 df0 df1 df2 df3).set (by omega)).set (by omega)
      have hB4 : Below w.heap.size w ((w3.setCell ⟨w.heap.size + 1 + 1, 0, none⟩ (.int .i64 q2)).setCell ⟨w.heap.size + 1 + 1 + 1, 0, none⟩ (.int .i64 E2)) := (hB3.setCell (by dsimp only; omega) _).setCell (by dsimp only; omega) _
      have z4 : w.heap.size + 4 ≤ ((w3.setCell ⟨w.heap.size + 1 + 1, 0, none⟩ (.int .i64 q2)).setCell ⟨w.heap.size + 1 + 1 + 1, 0, none⟩ (.int .i64 E2)).heap.size := by simp only [World.size_setCell]; omega
      clear dc0 dc1 dc2 dc3 df0 df1 df2 df3 xc xf yc yf hb1 hb3 hB2 hB3 z1 z2 z3 hO1 hR2 hent
      generalize ((w3.setCell ⟨w.heap.size + 1 + 1, 0, none⟩ (.int .i64 q2)).setCell ⟨w.heap.size + 1 + 1 + 1, 0, none⟩ (.int .i64 E2)) = w4 at *
      obtain ⟨xc, xf⟩ := X4
      obtain ⟨yc, yf⟩ := Y4
      obtain ⟨dc0, dc1, dc2, dc3, df0, df1, df2, df3⟩ := D4
      go_region_with (go_at_call 60; (with_reducible refine (hLs _).mono ?_); rintro e w5 ⟨rfl, hb5⟩; have hB5 := hB4.drew.trans (hb5.mono (show w.heap.size ≤ w4.heap.size by omega)); have z5 : w4.heap.size ≤ w5.heap.size := hb5.size; obtain ⟨xc', xf'⟩ := Box1.below (w := w4.drew) ⟨xc, xf⟩ hb5 (show w.heap.size + 2 < w4.heap.size by omega); obtain ⟨yc', yf'⟩ := Box1.below (w := w4.drew) ⟨yc, yf⟩ hb5 (show w.heap.size + 3 < w4.heap.size by omega))
      all_goals
        go_wp2
        refine bodyPost_ret_by (v := .tuple #[.int .u64 (N2 + P), .int .i64 q2, .int .i64 E2]) (by rw [results_tcc rfl]; go_simp) rfl ?_
        exact ⟨_, _, rfl, HX.out, (hB5.setCell (by dsimp only; omega) _).setCell (by dsimp only; omega) _⟩
  · obtain ⟨eD, eN1⟩ := get1_de (d := d) hE1
    rw [eD]
    clear eD
    obtain ⟨da, db, ds, dt⟩ := d
    unfold dv bv
    simp only
    have K0 := Box2.of (blk4a w (.cells #[.slice a len cap, .int .i64 n] 27) (.cells #[.int .i64 da, .int .i64 db, .int .u64 ds, .int .u64 dt] 24) (.cells #[.int .i64 p] 3) (.cells #[.int .i64 0] 30))
    have K1 := Box4.of (blk4b w (.cells #[.slice a len cap, .int .i64 n] 27) (.cells #[.int .i64 da, .int .i64 db, .int .u64 ds, .int .u64 dt] 24) (.cells #[.int .i64 p] 3) (.cells #[.int .i64 0] 30))
    have K2 := Box1.of (blk4c w (.cells #[.slice a len cap, .int .i64 n] 27) (.cells #[.int .i64 da, .int .i64 db, .int .u64 ds, .int .u64 dt] 24) (.cells #[.int .i64 p] 3) (.cells #[.int .i64 0] 30))
    have K3 := Box1.of (blk4 w (.cells #[.slice a len cap, .int .i64 n] 27) (.cells #[.int .i64 da, .int .i64 db, .int .u64 ds, .int .u64 dt] 24) (.cells #[.int .i64 p] 3) (.cells #[.int .i64 0] 30))
    have hO1 := low_any w.heap.size (w.heap.size + 2) (w.heap.size + 3) a len cap xs n p (IntKind.i64.wrap (p + 1)) 0 1 _ (hr.same (below4 w (.cells #[.slice a len cap, .int .i64 n] 27) (.cells #[.int .i64 da, .int .i64 db, .int .u64 ds, .int .u64 dt] 24) (.cells #[.int .i64 p] 3) (.cells #[.int .i64 0] 30))) hn hp (by unfold isInt; omega) K0 K2 K3 (by omega) rfl

    rw [eN1] at hO1
    obtain ⟨E1, hEE1⟩ : ∃ E, getE xs n p 1 = E := ⟨_, rfl⟩
    obtain ⟨q1, hq1⟩ : ∃ E, IntKind.i64.wrap (p + 1) = E := ⟨_, rfl⟩
    simp only [hEE1] at hO1 hE1 ⊢
    simp only [hq1] at hO1
    have f1 : (E1 = 0) = False := eq_false hE1
    have f2 : (E1 != 0) = true := bne_iff_ne.2 hE1
    have t1' : ((0 : Int) == 1) = false := rfl
    clear hEE1 hq1 eN1 hE1 hd h hp
    go_enter Try.func45, Try.ntmps45
    go_wp2_with ((go_at_call 62; (with_reducible refine hO1.mono ?_); rintro e w2' ⟨rfl, w1, hb1, rfl⟩; have z1 : w.heap.size + 4 ≤ w1.heap.size := (by have := hb1.size; rw [size4] at this; exact this);  have B2 := ((K0.below hb1 (by rw [size4]; omega)).set (g' := w.heap.size + 3) (i := 0) (x := .int .i64 E1) (by omega)).set (g' := w.heap.size + 2) (i := 0) (x := .int .i64 q1) (by omega);  have D2 := ((K1.below hb1 (by rw [size4]; omega)).set (g' := w.heap.size + 3) (i := 0) (x := .int .i64 E1) (by omega)).set (g' := w.heap.size + 2) (i := 0) (x := .int .i64 q1) (by omega);  have X2 := ((K2.below hb1 (by rw [size4]; omega)).set (g' := w.heap.size + 3) (i := 0) (x := .int .i64 E1) (by omega)).put (.int .i64 q1);  have Y2 := ((K3.below hb1 (by rw [size4]; omega)).put (.int .i64 E1)).set (g' := w.heap.size + 2) (i := 0) (x := .int .i64 q1) (by omega);  have hB2 : Below w.heap.size w ((w1.setCell ⟨w.heap.size + 3, 0, none⟩ (.int .i64 E1)).setCell ⟨w.heap.size + 2, 0, none⟩ (.int .i64 q1)) := (((below4 w _ _ _ _).trans (hb1.mono (by rw [size4]; omega))).setCell (by dsimp only; omega) _).setCell (by dsimp only; omega) _;  have z2 : w.heap.size + 4 ≤ ((w1.setCell ⟨w.heap.size + 3, 0, none⟩ (.int .i64 E1)).setCell ⟨w.heap.size + 2, 0, none⟩ (.int .i64 q1)).heap.size := (by simp only [World.size_setCell]; exact z1);  generalize ((w1.setCell ⟨w.heap.size + 3, 0, none⟩ (.int .i64 E1)).setCell ⟨w.heap.size + 2, 0, none⟩ (.int .i64 q1)) = w2 at *; clear K0 K1 K2 K3; obtain ⟨bc0, bc1, bf0, bf1⟩ := B2; obtain ⟨dc0, dc1, dc2, dc3, df0, df1, df2, df3⟩ := D2; obtain ⟨xc, xf⟩ := X2; obtain ⟨yc, yf⟩ := Y2))
    go_region
    go_wp2
    refine bodyPost_ret_by (v := .tuple #[.int .u64 0, .int .i64 0, .int .i64 E1]) (by rw [results_tcc rfl]; go_simp) rfl ?_
    exact ⟨_, _, rfl, fun g => absurd g (by simp [f1]), (hB2.drew.setCell (by dsimp only; omega) _).setCell (by dsimp only; omega) _⟩

end Go.Proofs.Ytmnhepcnbdbhoaa.Du

/- What package rice returns: walks of its Go text. -/
import Derived.Test.YtmnhepcnbdbhoaaUnary
import Derived.Test.YtmnhepcnbdbhoaaGM
import Derived.Deep.RegionWith
namespace Go.Proofs.Ytmnhepcnbdbhoaa.Ri
open Go.Proofs Go.RowKit Go.Proofs.Ytmnhepcnbdbhoaa.Kit Go.Proofs.Ytmnhepcnbdbhoaa.M01 Go.Proofs.Ytmnhepcnbdbhoaa.M02 Go.Proofs.Ytmnhepcnbdbhoaa.M06 Go.Proofs.Ytmnhepcnbdbhoaa.M07 Go.Proofs.Ytmnhepcnbdbhoaa.Bt Go.Proofs.Ytmnhepcnbdbhoaa.Un
set_option linter.unusedVariables false
attribute [local irreducible] wpStill

def isU32 (v : Int) : Prop := 0 ≤ v ∧ v ≤ 4294967295
def isK (k : Int) : Bool := decide (0 ≤ k ∧ k ≤ 24)
theorem isK_yes {k : Int} (h0 : 0 ≤ k) (h1 : k ≤ 24) : isK k = true := decide_eq_true ⟨h0, h1⟩
theorem isK_no {k : Int} (h : k < 0 ∨ 24 < k) : isK k = false := decide_eq_false (by omega)

theorem isParam_any (k : Int) (w : World) : Calls Try.prog 73 #[.int .i64 k] w fun e w' => e = .returned (.bool (isK k)) ∧ w = w' := by
  rcases (show k < 0 ∨ (0 ≤ k ∧ 24 < k) ∨ (0 ≤ k ∧ k ≤ 24) by omega) with h | ⟨h, h'⟩ | ⟨h, h'⟩
  · rw [isK_no (.inl h)]
    have f1 : (0 ≤ k) = False := eq_false (by omega)
    go_enter Try.func73, Try.ntmps73
    go_wp2
    go_ret
    exact ⟨rfl, rfl⟩
  · rw [isK_no (.inr h')]
    have f1 : (0 ≤ k) = True := eq_true h
    have f2 : (k ≤ 24) = False := eq_false (by omega)
    go_enter Try.func73, Try.ntmps73
    go_wp2
    go_ret
    exact ⟨rfl, rfl⟩
  · rw [isK_yes h h']
    have f1 : (0 ≤ k) = True := eq_true h
    have f2 : (k ≤ 24) = True := eq_true h'
    go_enter Try.func73, Try.ntmps73
    go_wp2
    go_ret
    exact ⟨rfl, rfl⟩

theorem runFor_any (v k : Int) (w : World) (hv : isU32 v) (h0 : 0 ≤ k) (h1 : k ≤ 24) : Calls Try.prog 76 #[.int .u32 v, .int .i64 k] w fun e w' => e = .returned (.int .i64 (qP v k)) ∧ w = w' := by
  obtain ⟨v0, v1⟩ := hv
  have hd := Int.ediv_nonneg v0 (show 0 ≤ p2 k by have := p2_pos k; omega)
  have hle : v / p2 k ≤ v := Int.ediv_le_self _ v0
  by_cases h : 48 < v / p2 k
  · have e : qP v k = 48 := by unfold qP; omega
    rw [e]
    have f1 : (48 < v / p2 k) = True := eq_true h
    unfold p2 at *
    go_enter Try.func76, Try.ntmps76
    go_wp2
    go_ret
    exact ⟨rfl, rfl⟩
  · have e : qP v k = v / p2 k := by unfold qP; omega
    rw [e]
    have f1 : (48 < v / p2 k) = False := eq_false h
    unfold p2 at *
    go_enter Try.func76, Try.ntmps76
    go_wp2
    go_ret
    exact ⟨rfl, rfl⟩

theorem behindK_any (q k : Int) (w : World) (hq : q ≤ 48) : Calls Try.prog 75 #[.int .i64 q, .int .i64 k] w fun e w' => e = .returned (.int .i64 (bhS q k)) ∧ w = w' := by
  by_cases h : q < 48
  · rw [bhS_lt k h]
    have f1 : (q < 48) = True := eq_true h
    go_enter Try.func75, Try.ntmps75
    go_wp2
    go_ret
    exact ⟨rfl, rfl⟩
  · obtain rfl : q = 48 := by omega
    rw [bhS_48]
    go_enter Try.func75, Try.ntmps75
    go_wp2
    go_ret
    exact ⟨rfl, rfl⟩


theorem low_and {v m : Int} (hv : isU32 v) (h0 : 0 ≤ m) (h1 : m ≤ 32) : bits .and .u64 (IntKind.u64.wrap v) (IntKind.u64.wrap (IntKind.u64.wrap (2 ^ m.toNat) - 1)) = v % p2 m := by
  have hw : IntKind.u64.wrap v = v := by obtain ⟨h1, h2⟩ := hv; simp [IntKind.wrap, IntKind.bits, IntKind.signed]; omega
  rw [hw]
  have h := and_low v m hv.1 (by have := hv.2; omega) h0
  rw [show min m.toNat 64 = m.toNat by omega, show min m 64 = m by omega] at h
  exact h

set_option maxHeartbeats 4000000 in
theorem rwr_any (a : Option Addr) (len cap : Nat) (xs : List Int) (n v k : Int) (w : World) (hr : RowIn .u8 w a len cap xs) (hn : isInt n) (hv : isU32 v) (hk : isInt k) :
    Calls Try.prog 78 #[bv a len cap n, .int .u32 v, .int .i64 k] w fun e w' => ∃ a' cap', e = .returned (.tuple #[bv a' (rwL xs n v k).length cap' (rwN xs n v k), .int .i64 (rwE xs n v k)]) ∧ RowIn .u8 w' a' (rwL xs n v k).length cap' (rwL xs n v k) ∧ Below w.heap.size w w' ∧ Fresh w a' := by
  have hC := fun w' hb => check_any a len cap xs n w' (hr.same hb) hn.1 hn.2
  have hI := fun w' => isParam_any k w'
  by_cases hok : okB xs n = true
  · have e1 : chkE xs n = 0 := by simp [chkE, hok]
    rw [e1] at hC
    clear e1
    by_cases h : k < 0 ∨ 24 < k
    · rw [isK_no h] at hI
      have eE : rwE xs n v k = 2 := by rw [rwE, if_pos hok, if_pos h]
      have eL : rwL xs n v k = [] := by rw [rwL, if_neg (by rw [eE]; decide)]
      have eN : rwN xs n v k = 0 := by rw [rwN, if_neg (by rw [eE]; decide)]
      rw [eE, eL, eN]
      clear eE eL eN hok
      unfold bv at hC ⊢
      go_enter Try.func78, Try.ntmps78
      go_wp2_with (first | (go_at_call 34; refine (hC _ (below2 _ _ _)).mono ?_; rintro e w1 ⟨rfl, hb1⟩; rw [size2] at hb1; have hB1 := (below2 w _ _).trans (hb1.mono (by omega)); have hsz := hb1.size; rw [size2] at hsz; have hs0 : w.heap.size < w1.heap.size := (by omega); obtain ⟨c0, c1, c2, c3⟩ := (Box2.of (blk2a w _ _)).below hb1 (by omega); obtain ⟨r0, r1, r2, r3⟩ := (Box2.of (blk2 w _ _)).below hb1 (by omega)) |  (go_at_call 73; refine (hI _).mono ?_; rintro e w2 ⟨rfl, rfl⟩))
      refine bodyPost_ret_by (v := .tuple #[.agg #[.slice none 0 0, .int .i64 0], .int .i64 2]) (by rw [results_cell_tmp rfl]; go_simp) rfl ?_
      exact ⟨none, 0, rfl, RowIn.nil, (hB1.setCell (by dsimp only; omega) _).setCell (by dsimp only; omega) _, Fresh.none⟩
    · have h0 : 0 ≤ k := by omega
      have h1 : k ≤ 24 := by omega
      rw [isK_yes h0 h1] at hI
      obtain ⟨q0, q1⟩ := qP_bd k hv.1
      obtain ⟨pF, pO⟩ := rw_put (v := v) (k := k) (byte_of hr.rd) hok hv.1 h0 h1
      have hF := fun w' => runFor_any v k w' hv h0 h1
      have hW := fun w' hb => write_any a len cap xs n (qP v k) w' (hr.same hb) hn (by unfold isInt; omega)
      have hB := fun w' => behindK_any (qP v k) k w' q1
      have hb := bhS_bd (qP v k) h0 h1
      have hcd := cdS_bd hv.1 h0 h1
      by_cases hE : wrE xs n (qP v k) = 0
      · obtain ⟨pE, pL, pN⟩ := pO hE
        clear pO pF
        rw [hE] at hW
        have hlw := low_and hv hb.1 hb.2.1
        have hwn : isInt (wrN xs n (qP v k)) := by
          obtain ⟨n0, n1, _⟩ := okB_iff.1 hok
          have := runS_bd q0 q1
          unfold wrN isInt; split <;> omega
        have hP := fun a' l' cap' w' (r : RowIn .u8 w' a' l' cap' (wrL xs n (qP v k))) => put_any a' l' cap' (wrL xs n (qP v k)) (wrN xs n (qP v k)) (lwP v k) (bhS (qP v k) k) w' r hwn (lw_bd v k).1 (by have := (lw_bd v k).2; have := p2_le64 (show bhS (qP v k) k ≤ 64 by omega); omega) (by unfold isInt; omega)
        simp only [pE, pL, pN] at hP
        rw [show v % p2 (bhS (qP v k) k) = lwP v k from rfl] at hlw
        obtain ⟨Q, hQ⟩ : ∃ Q, qP v k = Q := ⟨_, rfl⟩
        obtain ⟨B, hBB⟩ : ∃ S, bhS (qP v k) k = S := ⟨_, rfl⟩
        obtain ⟨R, hR⟩ : ∃ R, rwL xs n v k = R := ⟨_, rfl⟩
        obtain ⟨N, hN⟩ : ∃ R, rwN xs n v k = R := ⟨_, rfl⟩
        obtain ⟨E, hEE⟩ : ∃ R, rwE xs n v k = R := ⟨_, rfl⟩
        obtain ⟨R1, hR1⟩ : ∃ R, wrL xs n (qP v k) = R := ⟨_, rfl⟩
        obtain ⟨N1, hN1⟩ : ∃ R, wrN xs n (qP v k) = R := ⟨_, rfl⟩
        obtain ⟨V, hV⟩ : ∃ R, lwP v k = R := ⟨_, rfl⟩
        simp only [hBB] at hP hlw hB hb
        simp only [hR1, hN1] at hP hW
        simp only [hV] at hlw hP
        simp only [hR, hN, hEE] at hP ⊢
        simp only [hQ] at hF hW hB
        clear hBB hQ hR hN hEE hR1 hN1 hV pE pL pN hE hok hcd hwn
        unfold bv at hC hP hW ⊢
        go_enter Try.func78, Try.ntmps78
        go_wp2_with (first | (go_at_call 34; refine (hC _ (below2 _ _ _)).mono ?_; rintro e w1 ⟨rfl, hb1⟩; rw [size2] at hb1; have hB1 := (below2 w _ _).trans (hb1.mono (by omega)); have hsz := hb1.size; rw [size2] at hsz; have hs0 : w.heap.size < w1.heap.size := (by omega); have K0 := (hb1.block w.heap.size (by omega)).trans (blk2a w _ _); have K1 := (hb1.block (w.heap.size + 1) (by omega)).trans (blk2 w _ _); obtain ⟨c0, c1, c2, c3⟩ := Box2.of K0; obtain ⟨r0, r1, r2, r3⟩ := Box2.of K1) |  (go_at_call 73; refine (hI _).mono ?_; rintro e w2 ⟨rfl, rfl⟩) |  (go_at_call 76; refine (hF _).mono ?_; rintro e w2 ⟨rfl, rfl⟩) |  (go_at_call 81; refine (hW _ hB1).mono ?_; rintro e w2 ⟨a2, q2, rfl, h2, hb2, f2⟩; have hB2 := hB1.trans (hb2.mono (by omega)); have hsz2 := hb2.size; have L0 := (hb2.block w.heap.size hs0).trans K0; have L1 := (hb2.block (w.heap.size + 1) (by omega)).trans K1; obtain ⟨d0, d1, d2, d3⟩ := Box2.of L0; clear c0 c1 c2 c3 r0 r1 r2 r3) |  (go_at_call 75; refine (hB _).mono ?_; rintro e w3 ⟨rfl, rfl⟩))
        have q1' := heap_setCell_same w2 w.heap.size 0 _ _ (.slice a2 R1.length q2) L0
        have q2' := heap_setCell_same _ w.heap.size 1 _ _ (.int .i64 N1) q1'
        have p1 := (Below.heap_setCell w2 ⟨w.heap.size, 0, none⟩ (.slice a2 R1.length q2) (w.heap.size + 1) (by simp)).trans L1
        have p2' := (Below.heap_setCell _ ⟨w.heap.size, 1, none⟩ (.int .i64 N1) (w.heap.size + 1) (by simp)).trans p1
        have hne := f2.ne (g := w.heap.size) hs0
        have h3 := (h2.set (i := 0) (u := .slice a2 R1.length q2) hne).set (i := 1) (u := .int .i64 N1) hne
        have hB3 : Below w.heap.size w ((w2.setCell ⟨w.heap.size, 0, none⟩ (.slice a2 R1.length q2)).setCell ⟨w.heap.size, 1, none⟩ (.int .i64 N1)) := (hB2.setCell (by dsimp only; omega) _).setCell (by dsimp only; omega) _
        have hs3 : w2.heap.size = ((w2.setCell ⟨w.heap.size, 0, none⟩ (.slice a2 R1.length q2)).setCell ⟨w.heap.size, 1, none⟩ (.int .i64 N1)).heap.size := by simp
        clear d0 d1 d2 d3 p1 q1' L0 L1 K0 K1
        generalize ((w2.setCell ⟨w.heap.size, 0, none⟩ (.slice a2 R1.length q2)).setCell ⟨w.heap.size, 1, none⟩ (.int .i64 N1)) = w3 at *
        obtain ⟨c0, c1, c2, c3⟩ := Box2.of q2'
        have X3 := Box2.of p2'
        clear hF hW hC hI hB hB1 hB2 hb2 hb1 h2 hr hv hn hk
        go_region_with (go_at_call 77; (with_reducible refine (hP _ _ _ _ (h3.same (Below.refl _ _).drew)).mono ?_); rintro e w4 ⟨a', cap', rfl, hro, hb4, hfr⟩; obtain ⟨r0, r1, r2, r3⟩ := Box2.below (w := w3.drew) ⟨X3.c0, X3.c1, X3.f0, X3.f1⟩ hb4 (show w.heap.size + 1 < w3.heap.size by omega))
        all_goals
          go_wp2
          refine bodyPost_ret_by (v := .tuple #[.agg #[.slice a' R.length cap', .int .i64 N], .int .i64 E]) (by rw [results_cell_tmp rfl]; go_simp) rfl ?_
          have hne := hfr.ne (g := w.heap.size + 1) (show w.heap.size + 1 < w3.heap.size by omega)
          exact ⟨_, _, rfl, (hro.set hne).set hne, ((hB3.drew.trans (hb4.mono (show w.heap.size ≤ w3.heap.size by omega))).setCell (by dsimp only; omega) _).setCell (by dsimp only; omega) _, hfr.lift (show w.heap.size ≤ w3.heap.size by omega)⟩
      · obtain ⟨pE, pE2⟩ := pF hE
        have eL : rwL xs n v k = [] := by rw [rwL, if_neg (by rw [pE2]; decide)]
        have eN : rwN xs n v k = 0 := by rw [rwN, if_neg (by rw [pE2]; decide)]
        have eL1 : wrL xs n (qP v k) = [] := by rw [wrL, if_neg hE]
        have eN1 : wrN xs n (qP v k) = 0 := by rw [wrN, if_neg hE]
        simp only [pE, eL1, eN1, List.length_nil] at hW
        rw [pE2, eL, eN]
        obtain ⟨Q, hQ⟩ : ∃ Q, qP v k = Q := ⟨_, rfl⟩
        simp only [hQ] at hF hW hB
        clear pO pF eL eN eL1 eN1 pE pE2 hE hok hcd hQ hb
        unfold bv at hC hW ⊢
        go_enter Try.func78, Try.ntmps78
        go_wp2_with (first | (go_at_call 34; refine (hC _ (below2 _ _ _)).mono ?_; rintro e w1 ⟨rfl, hb1⟩; rw [size2] at hb1; have hB1 := (below2 w _ _).trans (hb1.mono (by omega)); have hsz := hb1.size; rw [size2] at hsz; have hs0 : w.heap.size < w1.heap.size := (by omega); have K0 := (hb1.block w.heap.size (by omega)).trans (blk2a w _ _); have K1 := (hb1.block (w.heap.size + 1) (by omega)).trans (blk2 w _ _); obtain ⟨c0, c1, c2, c3⟩ := Box2.of K0; obtain ⟨r0, r1, r2, r3⟩ := Box2.of K1) |  (go_at_call 73; refine (hI _).mono ?_; rintro e w2 ⟨rfl, rfl⟩) |  (go_at_call 76; refine (hF _).mono ?_; rintro e w2 ⟨rfl, rfl⟩) |  (go_at_call 81; refine (hW _ hB1).mono ?_; rintro e w2 ⟨a2, q2, rfl, h2, hb2, f2⟩; have hB2 := hB1.trans (hb2.mono (by omega)); have hsz2 := hb2.size; have L0 := (hb2.block w.heap.size hs0).trans K0; have L1 := (hb2.block (w.heap.size + 1) (by omega)).trans K1; obtain ⟨d0, d1, d2, d3⟩ := Box2.of L0; obtain ⟨t0, t1, t2, t3⟩ := Box2.of L1; clear c0 c1 c2 c3 r0 r1 r2 r3))
        refine bodyPost_ret_by (v := .tuple #[.agg #[.slice none 0 0, .int .i64 0], .int .i64 18]) (by rw [results_cell_tmp rfl]; go_simp) rfl ?_
        exact ⟨none, 0, rfl, RowIn.nil, (((hB2.setCell (by dsimp only; omega) _).setCell (by dsimp only; omega) _).setCell (by dsimp only; omega) _).setCell (by dsimp only; omega) _, Fresh.none⟩
  · have e1 : chkE xs n = 8 := by simp [chkE, hok]
    rw [e1] at hC
    clear e1
    have eE : rwE xs n v k = 8 := by rw [rwE, if_neg hok]
    have eL : rwL xs n v k = [] := by rw [rwL, if_neg (by rw [eE]; decide)]
    have eN : rwN xs n v k = 0 := by rw [rwN, if_neg (by rw [eE]; decide)]
    rw [eE, eL, eN]
    clear eE eL eN
    unfold bv at hC ⊢
    go_enter Try.func78, Try.ntmps78
    go_wp2_with (go_at_call 34; refine (hC _ (below2 _ _ _)).mono ?_; rintro e w1 ⟨rfl, hb1⟩; rw [size2] at hb1; have hB1 := (below2 w _ _).trans (hb1.mono (by omega)); have hsz := hb1.size; rw [size2] at hsz; have hs0 : w.heap.size < w1.heap.size := (by omega); have K0 := (hb1.block w.heap.size (by omega)).trans (blk2a w _ _); have K1 := (hb1.block (w.heap.size + 1) (by omega)).trans (blk2 w _ _); obtain ⟨c0, c1, c2, c3⟩ := Box2.of K0; obtain ⟨r0, r1, r2, r3⟩ := Box2.of K1)
    refine bodyPost_ret_by (v := .tuple #[.agg #[.slice none 0 0, .int .i64 0], .int .i64 8]) (by rw [results_cell_tmp rfl]; go_simp) rfl ?_
    exact ⟨none, 0, rfl, RowIn.nil, (hB1.setCell (by dsimp only; omega) _).setCell (by dsimp only; omega) _, Fresh.none⟩

theorem rd_next {xs : List Int} {n p : Int} (hb : isByte xs) (hok : okB xs n = true) (h : rdE xs n p = 0) : 0 ≤ p ∧ rdX xs n p = p + runS (cq (val xs / p2 p)) ∧ rdN xs n p = cq (val xs / p2 p) ∧ p + runS (cq (val xs / p2 p)) ≤ n := by
  have hob := ons_bd xs p
  have hrb := runS_bd hob.1 hob.2
  have hX : rdX xs n p = p + runS (ons xs p) := by rw [rdX, if_pos h]
  have hN : rdN xs n p = ons xs p := by rw [rdN, if_pos h]
  have hh := h
  unfold rdE at h
  rw [if_pos hok] at h
  by_cases q0 : p < 0
  · rw [if_pos q0] at h; omega
  · rw [if_neg q0] at h
    by_cases q : n ≤ p
    · rw [if_pos q] at h; omega
    · rw [if_neg q] at h
      have hoi := ons_in hb hok (show 0 ≤ p by omega) (show p ≤ n by omega)
      by_cases q2 : ons xs p < 48 ∧ n ≤ p + ons xs p
      · rw [if_pos q2] at h; omega
      · refine ⟨by omega, hX, hN, ?_⟩
        show p + runS (ons xs p) ≤ n
        by_cases q3 : ons xs p = 48
        · rw [q3, runS_48]; omega
        · rw [runS_lt (by omega)]; omega

set_option maxHeartbeats 4000000 in
theorem rrd_any (a : Option Addr) (len cap : Nat) (xs : List Int) (n p k : Int) (w : World) (hr : RowIn .u8 w a len cap xs) (hn : isInt n) (hp : isInt p) (hk : isInt k) :
    Calls Try.prog 64 #[bv a len cap n, .int .i64 p, .int .i64 k] w fun e w' => e = .returned (.tuple #[.int .u32 (rrN xs n p k), .int .i64 (rrX xs n p k), .int .i64 (rrE xs n p k)]) ∧ Below w.heap.size w w' := by
  have hC := fun w' hb => check_any a len cap xs n w' (hr.same hb) hn.1 hn.2
  have hI := fun w' => isParam_any k w'
  have b0 := Box2.of (blk1 w (.cells #[.slice a len cap, .int .i64 n] 27))
  by_cases hok : okB xs n = true
  · have e1 : chkE xs n = 0 := by simp [chkE, hok]
    rw [e1] at hC
    clear e1
    by_cases h : k < 0 ∨ 24 < k
    · rw [isK_no h] at hI
      have eE : rrE xs n p k = 2 := by rw [rrE, if_pos hok, if_pos h]
      rw [rrN, rrX, eE, if_neg (by decide), if_neg (by decide)]
      clear eE hok
      unfold bv at hC ⊢
      go_enter Try.func64, Try.ntmps64
      go_wp2_with (first | (go_at_call 34; (with_reducible refine (hC _ (below1 _ _)).mono ?_); rintro e w1 ⟨rfl, hb1⟩; rw [size1] at hb1; have hB1 := (below1 w _).trans (hb1.mono (by omega)); have hsz := hb1.size; rw [size1] at hsz; have hs0 : w.heap.size < w1.heap.size := (by omega); have X1 := b0.below hb1 (by omega); obtain ⟨c0, c1, c2, c3⟩ := X1) | (go_at_call 73; refine (hI _).mono ?_; rintro e w2 ⟨rfl, rfl⟩))
      go_ret3
      exact ⟨rfl, hB1⟩
    · have h0 : 0 ≤ k := by omega
      have h1 : k ≤ 24 := by omega
      rw [isK_yes h0 h1] at hI
      have hU := fun w' hb => read_any a len cap xs n p w' (hr.same hb) hn hp
      by_cases hE : rdE xs n p = 0
      · obtain ⟨p0, pX, pN, pL⟩ := rd_next (byte_of hr.rd) hok hE
        obtain ⟨n0, n1, _⟩ := okB_iff.1 hok
        simp only [hE, pX, pN] at hU
        have hcq := cq_bd (val xs / p2 p)
        have hrs := runS_bd hcq.1 hcq.2
        have hbs := bhS_bd (cq (val xs / p2 p)) h0 h1
        have hB := fun w' => behindK_any (cq (val xs / p2 p)) k w' hcq.2
        have hG := fun w' hb => get_any a len cap xs n (p + runS (cq (val xs / p2 p))) (bhS (cq (val xs / p2 p)) k) w' (hr.same hb) hn (by unfold isInt; omega) (by unfold isInt; omega)
        by_cases hS : n - (p + runS (cq (val xs / p2 p))) < bhS (cq (val xs / p2 p)) k
        · have eE : rrE xs n p k = 24 := by rw [rrE, if_pos hok, if_neg h, if_neg (by rw [hE]; simp), if_pos (by rw [pX]; exact hS)]
          rw [rrN, rrX, eE, if_neg (by decide), if_neg (by decide)]
          have gE : getE xs n (p + runS (cq (val xs / p2 p))) (bhS (cq (val xs / p2 p)) k) = 24 := by rw [getE, if_pos hok, if_neg (by omega), if_pos hS]
          have gN : getN xs n (p + runS (cq (val xs / p2 p))) (bhS (cq (val xs / p2 p)) k) = 0 := by rw [getN, if_neg (by rw [gE]; decide)]
          simp only [gE, gN] at hG
          clear gE gN eE hS pL pX pN hE
          obtain ⟨Q, hQ⟩ : ∃ Q, cq (val xs / p2 p) = Q := ⟨_, rfl⟩
          obtain ⟨B, hBB⟩ : ∃ S, bhS (cq (val xs / p2 p)) k = S := ⟨_, rfl⟩
          obtain ⟨NX, hNX⟩ : ∃ S, p + runS (cq (val xs / p2 p)) = S := ⟨_, rfl⟩
          simp only [hBB] at hB hG
          simp only [hNX] at hU hG
          simp only [hQ] at hU hB
          clear hQ hBB hNX hok hcq hrs hbs
          unfold bv at hC hU hG ⊢
          go_enter Try.func64, Try.ntmps64
          go_wp2_with (first | (go_at_call 34; (with_reducible refine (hC _ (below1 _ _)).mono ?_); rintro e w1 ⟨rfl, hb1⟩; rw [size1] at hb1; have hB1 := (below1 w _).trans (hb1.mono (by omega)); have hsz := hb1.size; rw [size1] at hsz; have hs0 : w.heap.size < w1.heap.size := (by omega); have X1 := b0.below hb1 (by omega); obtain ⟨c0, c1, c2, c3⟩ := X1) | (go_at_call 73; (with_reducible refine (hI _).mono ?_); rintro e w2 ⟨rfl, rfl⟩) | (go_at_call 74; (with_reducible refine (hU _ hB1).mono ?_); rintro e w2 ⟨rfl, hb2⟩; have hB2 := hB1.trans (hb2.mono (by omega)); have hsz2 := hb2.size; have X2 := (Box2.mk c0 c1 c2 c3).below hb2 hs0; clear c0 c1 c2 c3; obtain ⟨d0, d1, d2, d3⟩ := X2; have hs2 : w.heap.size < w2.heap.size := (by omega)) | (go_at_call 75; (with_reducible refine (hB _).mono ?_); rintro e w3 ⟨rfl, rfl⟩) | (go_at_call 63; (with_reducible refine (hG _ hB2).mono ?_); rintro e w3 ⟨rfl, hb3⟩; have hB3 := hB2.trans (hb3.mono (by omega))))
          go_ret3
          exact ⟨rfl, hB3⟩
        · have gE : getE xs n (p + runS (cq (val xs / p2 p))) (bhS (cq (val xs / p2 p)) k) = 0 := by rw [getE, if_pos hok, if_neg (by omega), if_neg hS]
          have gN : getN xs n (p + runS (cq (val xs / p2 p))) (bhS (cq (val xs / p2 p)) k) = dcG (val xs / p2 p) k := by
            rw [getN, if_pos gE]
            unfold dcG dcM
            rw [p2_add p0 (by omega), ← Int.ediv_ediv_of_nonneg (by have := p2_pos p; omega)]
          have hR : ∀ e, (qP (dcN (val xs / p2 p) k) k ≠ cq (val xs / p2 p) → e = 12) → (qP (dcN (val xs / p2 p) k) k = cq (val xs / p2 p) → e = 0) → rrE xs n p k = e := by
            intro e h12 h00
            rw [rrE, if_pos hok, if_neg h, if_neg (by rw [hE]; simp), if_neg (by rw [pX]; exact hS)]
            by_cases g : qP (dcN (val xs / p2 p) k) k = cq (val xs / p2 p)
            · rw [if_neg (by simp [g]), h00 g]
            · rw [if_pos g, h12 g]
          have hgb := dcG_bd (val xs / p2 p) k
          have hnb := dcN_bd (X := val xs / p2 p) h0 h1
          have hF := fun w' => runFor_any (dcN (val xs / p2 p) k) k w' ⟨hnb.1, hnb.2.1⟩ h0 h1
          have hX : rrX xs n p k = if rrE xs n p k = 0 then p + runS (cq (val xs / p2 p)) + bhS (cq (val xs / p2 p)) k else 0 := by
            unfold rrX dcS dcM; rw [Int.add_assoc]
          have hN : rrN xs n p k = if rrE xs n p k = 0 then dcN (val xs / p2 p) k else 0 := rfl
          have hq := fun g => (dc_q (X := val xs / p2 p) (k := k) g).1
          have hd : dcN (val xs / p2 p) k = if cq (val xs / p2 p) = 48 then dcG (val xs / p2 p) k else cq (val xs / p2 p) * p2 k + dcG (val xs / p2 p) k := rfl
          have hM : dcM (val xs / p2 p) k = bhS (cq (val xs / p2 p)) k := rfl
          rw [hM] at hgb
          rw [hN, hX]
          simp only [gE, gN] at hG
          clear gE gN hS pX pN hE hN hX hM
          obtain ⟨E, hEE⟩ : ∃ S, rrE xs n p k = S := ⟨_, rfl⟩
          obtain ⟨D, hD⟩ : ∃ S, dcN (val xs / p2 p) k = S := ⟨_, rfl⟩
          obtain ⟨G, hGG⟩ : ∃ S, dcG (val xs / p2 p) k = S := ⟨_, rfl⟩
          obtain ⟨Q, hQ⟩ : ∃ Q, cq (val xs / p2 p) = Q := ⟨_, rfl⟩
          simp only [hEE] at hR ⊢
          simp only [hD] at hR hd hnb hF hq ⊢
          simp only [hGG] at hG hgb hd
          simp only [hQ] at hU hB hR hd hG hgb hq hnb hcq hrs hbs pL ⊢
          clear hEE hD hGG hQ
          by_cases h48 : Q = 48
          · subst h48
            rw [if_pos rfl] at hd
            subst hd
            simp only [bhS_48, runS_48] at hU hB hG hgb hbs pL hcq hrs ⊢
            rw [p2_32] at hgb
            by_cases g : qP D k = 48
            · obtain rfl : E = 0 := hR 0 (fun q => absurd g q) (fun _ => rfl)
              rw [if_pos rfl, if_pos rfl]
              rw [g] at hF
              clear hR hq hnb g
              unfold bv at hC hU hG ⊢
              go_enter Try.func64, Try.ntmps64
              go_wp2_with (first | (go_at_call 34; (with_reducible refine (hC _ (below1 _ _)).mono ?_); rintro e w1 ⟨rfl, hb1⟩; rw [size1] at hb1; have hB1 := (below1 w _).trans (hb1.mono (by omega)); have hsz := hb1.size; rw [size1] at hsz; have hs0 : w.heap.size < w1.heap.size := (by omega); have X1 := b0.below hb1 (by omega); obtain ⟨c0, c1, c2, c3⟩ := X1) | (go_at_call 73; (with_reducible refine (hI _).mono ?_); rintro e w2 ⟨rfl, rfl⟩) | (go_at_call 74; (with_reducible refine (hU _ hB1).mono ?_); rintro e w2 ⟨rfl, hb2⟩; have hB2 := hB1.trans (hb2.mono (by omega)); have hsz2 := hb2.size; have X2 := (Box2.mk c0 c1 c2 c3).below hb2 hs0; clear c0 c1 c2 c3; obtain ⟨d0, d1, d2, d3⟩ := X2; have hs2 : w.heap.size < w2.heap.size := (by omega)) | (go_at_call 75; (with_reducible refine (hB _).mono ?_); rintro e w3 ⟨rfl, rfl⟩) | (go_at_call 63; (with_reducible refine (hG _ hB2).mono ?_); rintro e w3 ⟨rfl, hb3⟩; have hB3 := hB2.trans (hb3.mono (by omega))) | (go_at_call 76; (with_reducible refine (hF _).mono ?_); rintro e w4 ⟨rfl, rfl⟩))
              go_ret3
              exact ⟨rfl, hB3⟩
            · obtain rfl : E = 12 := hR 12 (fun _ => rfl) (fun q => absurd q g)
              rw [if_neg (by decide), if_neg (by decide)]
              obtain ⟨Z, hZ⟩ : ∃ Z, qP D k = Z := ⟨_, rfl⟩
              rw [hZ] at hF g
              have f2 : (Z == 48) = false := beq_eq_false_iff_ne.2 g
              clear hR hq hnb g
              unfold bv at hC hU hG ⊢
              go_enter Try.func64, Try.ntmps64
              go_wp2_with (first | (go_at_call 34; (with_reducible refine (hC _ (below1 _ _)).mono ?_); rintro e w1 ⟨rfl, hb1⟩; rw [size1] at hb1; have hB1 := (below1 w _).trans (hb1.mono (by omega)); have hsz := hb1.size; rw [size1] at hsz; have hs0 : w.heap.size < w1.heap.size := (by omega); have X1 := b0.below hb1 (by omega); obtain ⟨c0, c1, c2, c3⟩ := X1) | (go_at_call 73; (with_reducible refine (hI _).mono ?_); rintro e w2 ⟨rfl, rfl⟩) | (go_at_call 74; (with_reducible refine (hU _ hB1).mono ?_); rintro e w2 ⟨rfl, hb2⟩; have hB2 := hB1.trans (hb2.mono (by omega)); have hsz2 := hb2.size; have X2 := (Box2.mk c0 c1 c2 c3).below hb2 hs0; clear c0 c1 c2 c3; obtain ⟨d0, d1, d2, d3⟩ := X2; have hs2 : w.heap.size < w2.heap.size := (by omega)) | (go_at_call 75; (with_reducible refine (hB _).mono ?_); rintro e w3 ⟨rfl, rfl⟩) | (go_at_call 63; (with_reducible refine (hG _ hB2).mono ?_); rintro e w3 ⟨rfl, hb3⟩; have hB3 := hB2.trans (hb3.mono (by omega))) | (go_at_call 76; (with_reducible refine (hF _).mono ?_); rintro e w4 ⟨rfl, rfl⟩))
              go_ret3
              exact ⟨rfl, hB3⟩
          · rw [if_neg h48] at hd
            have g := hq h48
            obtain rfl : E = 0 := hR 0 (fun q => absurd g q) (fun _ => rfl)
            rw [if_pos rfl, if_pos rfl]
            rw [g] at hF
            have hlt : Q < 48 := by omega
            simp only [bhS_lt k hlt] at hU hB hG hgb hbs pL hcq hrs ⊢
            have hp24 : p2 k ≤ 16777216 := by rw [← p2_24]; exact p2_le h1
            have hp1 := p2_pos k
            have hpr := Int.mul_nonneg hcq.1 (show 0 ≤ p2 k by omega)
            have hpl : Q * p2 k ≤ 47 * p2 k := Int.mul_le_mul_of_nonneg_right (by omega) (by omega)
            have f1 : (Q < 48) = True := eq_true hlt
            have hD2 : G + Q * p2 k = D := by omega
            clear hR hq g hlt hd
            unfold p2 at *
            unfold bv at hC hU hG ⊢
            go_enter Try.func64, Try.ntmps64
            go_wp2_with (first | (go_at_call 34; (with_reducible refine (hC _ (below1 _ _)).mono ?_); rintro e w1 ⟨rfl, hb1⟩; rw [size1] at hb1; have hB1 := (below1 w _).trans (hb1.mono (by omega)); have hsz := hb1.size; rw [size1] at hsz; have hs0 : w.heap.size < w1.heap.size := (by omega); have X1 := b0.below hb1 (by omega); obtain ⟨c0, c1, c2, c3⟩ := X1) | (go_at_call 73; (with_reducible refine (hI _).mono ?_); rintro e w2 ⟨rfl, rfl⟩) | (go_at_call 74; (with_reducible refine (hU _ hB1).mono ?_); rintro e w2 ⟨rfl, hb2⟩; have hB2 := hB1.trans (hb2.mono (by omega)); have hsz2 := hb2.size; have X2 := (Box2.mk c0 c1 c2 c3).below hb2 hs0; clear c0 c1 c2 c3; obtain ⟨d0, d1, d2, d3⟩ := X2; have hs2 : w.heap.size < w2.heap.size := (by omega)) | (go_at_call 75; (with_reducible refine (hB _).mono ?_); rintro e w3 ⟨rfl, rfl⟩) | (go_at_call 63; (with_reducible refine (hG _ hB2).mono ?_); rintro e w3 ⟨rfl, hb3⟩; have hB3 := hB2.trans (hb3.mono (by omega))) | (go_at_call 76; (with_reducible refine (hF _).mono ?_); rintro e w4 ⟨rfl, rfl⟩))
            go_ret3
            exact ⟨rfl, hB3⟩
      · have eE : rrE xs n p k = rdE xs n p := by rw [rrE, if_pos hok, if_neg h, if_pos hE]
        rw [rrN, rrX, eE, if_neg hE, if_neg hE]
        have eN : rdN xs n p = 0 := by rw [rdN, if_neg hE]
        have eX : rdX xs n p = 0 := by rw [rdX, if_neg hE]
        simp only [eN, eX] at hU
        obtain ⟨E, hEE⟩ : ∃ S, rdE xs n p = S := ⟨_, rfl⟩
        simp only [hEE] at hU hE ⊢
        have f1 : (E = 0) = False := eq_false hE
        clear hEE eE eN eX hok
        unfold bv at hC hU ⊢
        go_enter Try.func64, Try.ntmps64
        go_wp2_with (first | (go_at_call 34; (with_reducible refine (hC _ (below1 _ _)).mono ?_); rintro e w1 ⟨rfl, hb1⟩; rw [size1] at hb1; have hB1 := (below1 w _).trans (hb1.mono (by omega)); have hsz := hb1.size; rw [size1] at hsz; have hs0 : w.heap.size < w1.heap.size := (by omega); have X1 := b0.below hb1 (by omega); obtain ⟨c0, c1, c2, c3⟩ := X1) | (go_at_call 73; (with_reducible refine (hI _).mono ?_); rintro e w2 ⟨rfl, rfl⟩) | (go_at_call 74; (with_reducible refine (hU _ hB1).mono ?_); rintro e w2 ⟨rfl, hb2⟩; have hB2 := hB1.trans (hb2.mono (by omega)); have hsz2 := hb2.size; have X2 := (Box2.mk c0 c1 c2 c3).below hb2 hs0; clear c0 c1 c2 c3; obtain ⟨d0, d1, d2, d3⟩ := X2; have hs2 : w.heap.size < w2.heap.size := (by omega)))
        go_ret3
        exact ⟨rfl, hB2⟩
  · have e1 : chkE xs n = 8 := by simp [chkE, hok]
    rw [e1] at hC
    have eE : rrE xs n p k = 8 := by rw [rrE, if_neg hok]
    rw [rrN, rrX, eE, if_neg (by decide), if_neg (by decide)]
    clear eE hok e1
    unfold bv at hC ⊢
    go_enter Try.func64, Try.ntmps64
    go_wp2_with (go_at_call 34; (with_reducible refine (hC _ (below1 _ _)).mono ?_); rintro e w1 ⟨rfl, hb1⟩; rw [size1] at hb1; have hB1 := (below1 w _).trans (hb1.mono (by omega)); have hsz := hb1.size; rw [size1] at hsz; have hs0 : w.heap.size < w1.heap.size := (by omega); have X1 := b0.below hb1 (by omega); obtain ⟨c0, c1, c2, c3⟩ := X1)
    go_ret3
    exact ⟨rfl, hB1⟩
end Go.Proofs.Ytmnhepcnbdbhoaa.Ri

/- What package bits gets and cuts. -/
import Derived.Test.YtbhoodhcipegbaaBits6
import Derived.Laws.EntriesVeiled
namespace Go.Proofs.Ytbhoodhcipegbaa.Bt
open Go.Proofs Go.RowKit Go.Proofs.Ytbhoodhcipegbaa.Kit Go.Proofs.Ytbhoodhcipegbaa.M01 Go.Proofs.Ytbhoodhcipegbaa.M02
set_option linter.unusedVariables false

set_option maxHeartbeats 4000000 in
theorem cut1_any (g h g1 g2 : Nat) (xs : List Int) (f n : Int) (i : Nat) (w : World) (c0 : w.cell? ⟨g, 0, none⟩ = some (eightV g1 g2)) (c1 : w.cell? ⟨h, 0, none⟩ = some (.int .i64 n)) (he : EightAt w g1 g2 xs f)
    (hb : isByte xs) (h0 : 0 ≤ f) (hl : xs.length ≤ 50000) (hj : (f / 8).toNat + i < xs.length) (hi : 8 * (i : Int) < n) (hn : n ≤ 330000) :
    Calls Try.prog 49 #[.int .i64 i, .pointer (some ⟨g, 0, none⟩), .pointer (some ⟨h, 0, none⟩)] w fun e w' => e = .returned (.int .u8 (val xs / p2 f % p2 n / pw i % 256)) ∧ ∃ k, w' = w.drewN k := by
  rw [cut_byte _ n i hi]
  have hE := fun w' hb' => eight_any g1 g2 xs f i w' (he.same hb') hb h0 hl hj
  have hx : 0 ≤ val xs / p2 f / pw i % 256 ∧ val xs / p2 f / pw i % 256 < 256 := by omega
  obtain ⟨x, ex⟩ : ∃ x, val xs / p2 f / pw i % 256 = x := ⟨_, rfl⟩
  rw [ex] at hx ⊢
  simp only [ex] at hE
  have hL := fun w' => lowest_any x (n - 8 * i) w' hx.1 (by omega) (by omega) (by omega)
  have hz : 0 ≤ x % p2 (min (n - 8 * i) 64) ∧ x % p2 (min (n - 8 * i) 64) < 256 := by
    have := p2_pos (min (n - 8 * i) 64)
    have := Int.emod_nonneg x (show p2 (min (n - 8 * i) 64) ≠ 0 by omega)
    have h2 := Int.emod_add_mul_ediv x (p2 (min (n - 8 * i) 64))
    have h3 : 0 ≤ p2 (min (n - 8 * i) 64) * (x / p2 (min (n - 8 * i) 64)) := Int.mul_nonneg (by omega) (Int.ediv_nonneg hx.1 (by omega))
    omega
  obtain ⟨z, ez⟩ : ∃ z, x % p2 (min (n - 8 * i) 64) = z := ⟨_, rfl⟩
  rw [ez] at hz ⊢
  simp only [ez] at hL
  have hent : ∀ (args : Array Value) (w : World), (callFunc 70 args).run Try.prog w = .ok (.enter 70 args) w := enters_of Try.func70 (by kernel_rfl) rfl
  unfold eightV at c0
  clear ez ex hb he hl hj
  go_enter Try.func49, Try.ntmps49
  go_wp2
  go_quiet (first | (go_at_call 70; exact Calls.quiet_of (hE _ (below_drewN (Below.refl _ _) _))) | (go_at_call 32; exact Calls.quiet_of_same ((hL _).mono (fun _ _ q => ⟨q.1, q.2.symm⟩))))
  go_wp2
  go_ret
  exact ⟨rfl, nq, rfl⟩

theorem cut1_gives {w : World} {g h g1 g2 : Nat} {xs : List Int} {f n : Int} (c0 : w.cell? ⟨g, 0, none⟩ = some (eightV g1 g2)) (c1 : w.cell? ⟨h, 0, none⟩ = some (.int .i64 n)) (he : EightAt w g1 g2 xs f)
    (hb : isByte xs) (h0 : 0 ≤ f) (hl : xs.length ≤ 50000) (hn0 : 0 ≤ n) (hn : n ≤ 330000) (hm : (f / 8).toNat + sz n ≤ xs.length) :
    Gives w 49 #[.pointer (some ⟨g, 0, none⟩), .pointer (some ⟨h, 0, none⟩)] (val xs / p2 f % p2 n) (sz n) :=
  ⟨enters_of Try.func49 (by kernel_rfl) rfl, fun w' i hw hi => cut1_any g h g1 g2 xs f n i w' (by rw [hw.cell (World.block_lt_of_cell? w _ c0)]; exact c0) (by rw [hw.cell (World.block_lt_of_cell? w _ c1)]; exact c1) (he.same hw) hb h0 hl (by omega) (by have := sz_nat hn0; omega) hn⟩

theorem ok_nil : okB [] 0 = true := by decide +kernel

set_option maxHeartbeats 4000000 in
theorem cut_any (a : Option Addr) (len cap : Nat) (xs : List Int) (n f t : Int) (w : World) (hr : RowIn .u8 w a len cap xs) (hn : isInt n) (hf : isInt f) (ht : isInt t) :
    Calls Try.prog 29 #[bv a len cap n, .int .i64 f, .int .i64 t] w fun e w' => ∃ a' cap', e = .returned (.tuple #[bv a' (cuL xs n f t).length cap' (cuN xs n f t), .int .i64 (cuE xs n f t)]) ∧ RowIn .u8 w' a' (cuL xs n f t).length cap' (cuL xs n f t) ∧ Below w.heap.size w w' ∧ Fresh w a' := by
  have hl := hr.hl
  have hb := byte_of hr.rd
  have hC := fun w' hb => check_any a len cap xs n w' (hr.same hb) hn.1 hn.2
  obtain ⟨hf1, hf2⟩ := hf
  obtain ⟨ht1, ht2⟩ := ht
  by_cases hok : okB xs n = true
  · have e1 : chkE xs n = 0 := by simp [chkE, hok]
    obtain ⟨hn0, hn1, hxl, hval⟩ := okB_iff.1 hok
    rw [e1] at hC
    clear e1
    by_cases t1 : f < 0
    · have f1 : (f < 0) = True := eq_true t1
      have eE : cuE xs n f t = 2 := by simp [cuE, hok, t1]
      have eL : cuL xs n f t = [] := by simp [cuL, eE]
      have eN : cuN xs n f t = 0 := by simp [cuN, eE]
      rw [eE, eL, eN]
      clear eE eL eN
      unfold bv at hC ⊢
      go_enter Try.func29, Try.ntmps29
      go_wp2_with (go_at_call 31; refine (hC _ (below2 _ _ _)).mono ?_; rintro e w1 ⟨rfl, hb1⟩; rw [size2] at hb1; have hB1 := (below2 w _ _).trans (hb1.mono (by omega)); have hsz := hb1.size; rw [size2] at hsz; have hs0 : w.heap.size < w1.heap.size := (by omega); obtain ⟨c0, c1, c2, c3⟩ := (Box2.of (blk2a w _ _)).below hb1 (by omega); obtain ⟨r0, r1, r2, r3⟩ := (Box2.of (blk2 w _ _)).below hb1 (by omega))
      refine bodyPost_ret_by (v := .tuple #[.agg #[.slice none 0 0, .int .i64 0], .int .i64 2]) (by rw [results_cell_tmp rfl]; go_simp) rfl ?_
      exact ⟨none, 0, rfl, RowIn.nil, (hB1.setCell (by dsimp only; omega) _).setCell (by dsimp only; omega) _, Fresh.none⟩
    by_cases t2 : n < t
    · have f1 : (f < 0) = False := eq_false t1
      have f2 : (n < t) = True := eq_true t2
      have eE : cuE xs n f t = 2 := by simp [cuE, hok, t2]
      have eL : cuL xs n f t = [] := by simp [cuL, eE]
      have eN : cuN xs n f t = 0 := by simp [cuN, eE]
      rw [eE, eL, eN]
      clear eE eL eN
      unfold bv at hC ⊢
      go_enter Try.func29, Try.ntmps29
      go_wp2_with (go_at_call 31; refine (hC _ (below2 _ _ _)).mono ?_; rintro e w1 ⟨rfl, hb1⟩; rw [size2] at hb1; have hB1 := (below2 w _ _).trans (hb1.mono (by omega)); have hsz := hb1.size; rw [size2] at hsz; have hs0 : w.heap.size < w1.heap.size := (by omega); obtain ⟨c0, c1, c2, c3⟩ := (Box2.of (blk2a w _ _)).below hb1 (by omega); obtain ⟨r0, r1, r2, r3⟩ := (Box2.of (blk2 w _ _)).below hb1 (by omega))
      refine bodyPost_ret_by (v := .tuple #[.agg #[.slice none 0 0, .int .i64 0], .int .i64 2]) (by rw [results_cell_tmp rfl]; go_simp) rfl ?_
      exact ⟨none, 0, rfl, RowIn.nil, (hB1.setCell (by dsimp only; omega) _).setCell (by dsimp only; omega) _, Fresh.none⟩
    by_cases t3 : t < f
    · have f1 : (f < 0) = False := eq_false t1
      have f2 : (n < t) = False := eq_false t2
      have f3 : (t < f) = True := eq_true t3
      have eE : cuE xs n f t = 2 := by simp [cuE, hok, t3]
      have eL : cuL xs n f t = [] := by simp [cuL, eE]
      have eN : cuN xs n f t = 0 := by simp [cuN, eE]
      rw [eE, eL, eN]
      clear eE eL eN
      unfold bv at hC ⊢
      go_enter Try.func29, Try.ntmps29
      go_wp2_with (go_at_call 31; refine (hC _ (below2 _ _ _)).mono ?_; rintro e w1 ⟨rfl, hb1⟩; rw [size2] at hb1; have hB1 := (below2 w _ _).trans (hb1.mono (by omega)); have hsz := hb1.size; rw [size2] at hsz; have hs0 : w.heap.size < w1.heap.size := (by omega); obtain ⟨c0, c1, c2, c3⟩ := (Box2.of (blk2a w _ _)).below hb1 (by omega); obtain ⟨r0, r1, r2, r3⟩ := (Box2.of (blk2 w _ _)).below hb1 (by omega))
      refine bodyPost_ret_by (v := .tuple #[.agg #[.slice none 0 0, .int .i64 0], .int .i64 2]) (by rw [results_cell_tmp rfl]; go_simp) rfl ?_
      exact ⟨none, 0, rfl, RowIn.nil, (hB1.setCell (by dsimp only; omega) _).setCell (by dsimp only; omega) _, Fresh.none⟩
    have f1 : (f < 0) = False := eq_false t1
    have f2 : (n < t) = False := eq_false t2
    have f3 : (t < f) = False := eq_false t3
    have hsn := sz_nat hn0
    have hst := sz_nat (show 0 ≤ t - f by omega)
    have eE : cuE xs n f t = 0 := by simp [cuE, hok, t1, t2, t3]
    have eL : cuL xs n f t = bl (t - f) (val xs / p2 f % p2 (t - f)) := by simp [cuL, eE]
    have eN : cuN xs n f t = t - f := by simp [cuN, eE]
    rw [eE, eL, eN, bl_length]
    have hpf := p2_pos (t - f)
    have hE := fun w' hb' => eights_any a len cap xs f w' (hr.same hb') (by omega) (by omega) (by omega)
    have hBeh := fun w' g h g1 g2 c0 c1 he => behind_any none 0 0 [] 0 (t - f) 49 #[.pointer (some ⟨g, 0, none⟩), .pointer (some ⟨h, 0, none⟩)] (val xs / p2 f % p2 (t - f)) w' RowIn.nil ok_nil (by omega) (Int.emod_nonneg _ (by omega)) (Int.emod_lt_of_pos _ (by omega)) (by omega) (cut1_gives (g := g) (h := h) (g1 := g1) (g2 := g2) c0 c1 he hb (by omega) (by omega) (by omega) (by omega) (by omega))
    simp only [Int.zero_add, val, p2_zero, Int.mul_one] at hBeh
    obtain ⟨R, hR⟩ : ∃ R, bl (t - f) (val xs / p2 f % p2 (t - f)) = R := ⟨_, rfl⟩
    obtain ⟨K, hK⟩ : ∃ K, sz (t - f) = K := ⟨_, rfl⟩
    rw [hR, hK]
    simp only [hR, hK] at hBeh
    clear eE eL eN hok hxl hval hpf hsn hst hR hK
    unfold bv at hC hBeh ⊢
    go_enter Try.func29, Try.ntmps29
    go_wp2_with (first | (go_at_call 31; refine (hC _ (below2 _ _ _)).mono ?_; rintro e w1 ⟨rfl, hb1⟩; rw [size2] at hb1; have hB1 := (below2 w _ _).trans (hb1.mono (by omega)); have hsz := hb1.size; rw [size2] at hsz; have hs0 : w.heap.size < w1.heap.size := (by omega); obtain ⟨c0, c1, c2, c3⟩ := (Box2.of (blk2a w _ _)).below hb1 (by omega); obtain ⟨r0, r1, r2, r3⟩ := (Box2.of (blk2 w _ _)).below hb1 (by omega)) |  (go_at_call 48; (refine (hE _ (hB1.trans ((below1 w1 _).mono hB1.size))).mono ?_; rintro e w2 ⟨g1, g2, rfl, hea, hb2⟩; rw [size1] at hb2; have hB2 := hB1.trans (((below1 w1 _).trans (hb2.mono (by omega))).mono hB1.size); have cn := cell1 ((hb2.block w1.heap.size (by omega)).trans (blk1 w1 _)); have hsz2 := hb2.size; rw [size1] at hsz2; have hs2 : w1.heap.size < w2.heap.size := (by omega); unfold eightV)) |  (go_at_call 33; (refine (hBeh _ w2.heap.size w1.heap.size g1 g2 (cell1 (blk1 w2 _)) (by rw [World.cell?_alloc_past _ _ _ (by omega)]; exact cn) (hea.same (below1 w2 _))).mono ?_; rintro e w3 ⟨a', cap', rfl, hro, hbe, hfr⟩; rw [size1] at hbe; obtain ⟨s0, s1, s2, s3⟩ := (((Box2.mk r0 r1 r2 r3).below ((below1 w1 _).trans (hb2.mono (by omega))) (by omega)).below (below1 w2 _) (by omega)).below hbe (by omega))))
    refine bodyPost_ret_by (v := .tuple #[.agg #[.slice a' K cap', .int .i64 (t - f)], .int .i64 0]) (by rw [results_cell_tmp rfl]; go_simp) rfl ?_
    have hB3 : Below w.heap.size w w3 := (hB2.trans ((below1 w2 _).mono (by omega))).trans (hbe.mono (by omega))
    have hne := hfr.ne (g := w.heap.size + 1) (by rw [size1]; omega)
    exact ⟨_, _, rfl, (hro.set hne).set hne, (hB3.setCell (by dsimp only; omega) _).setCell (by dsimp only; omega) _, hfr.lift (by rw [size1]; omega)⟩
  · have e1 : chkE xs n = 8 := by simp [chkE, hok]
    rw [e1] at hC
    clear e1
    have eE : cuE xs n f t = 8 := by simp [cuE, hok]
    have eL : cuL xs n f t = [] := by simp [cuL, eE]
    have eN : cuN xs n f t = 0 := by simp [cuN, eE]
    rw [eE, eL, eN]
    clear eE eL eN
    unfold bv at hC ⊢
    go_enter Try.func29, Try.ntmps29
    go_wp2_with (go_at_call 31; refine (hC _ (below2 _ _ _)).mono ?_; rintro e w1 ⟨rfl, hb1⟩; rw [size2] at hb1; have hB1 := (below2 w _ _).trans (hb1.mono (by omega)); have hsz := hb1.size; rw [size2] at hsz; have hs0 : w.heap.size < w1.heap.size := (by omega); obtain ⟨c0, c1, c2, c3⟩ := (Box2.of (blk2a w _ _)).below hb1 (by omega); obtain ⟨r0, r1, r2, r3⟩ := (Box2.of (blk2 w _ _)).below hb1 (by omega))
    refine bodyPost_ret_by (v := .tuple #[.agg #[.slice none 0 0, .int .i64 0], .int .i64 8]) (by rw [results_cell_tmp rfl]; go_simp) rfl ?_
    exact ⟨none, 0, rfl, RowIn.nil, (hB1.setCell (by dsimp only; omega) _).setCell (by dsimp only; omega) _, Fresh.none⟩

theorem or_acc (Y x : Int) (i : Nat) (hi : i < 8) (hx0 : 0 ≤ x) (hx : x < 256) :
    bits .or .u64 (Y % pw i) (x * pw i) = Y % pw i + x * pw i ∧ Y % pw i + x * pw i < 18446744073709551616 ∧ 0 ≤ x * pw i ∧ x * pw i < 18446744073709551616 := by
  have e : bits .or .u64 (Y % pw i) (x * pw i) = bits .or .u64 (x * pw i) (Y % pw i) := by simp only [bits, BitVec.or_comm]
  obtain ⟨h0, h1⟩ := mod_pw_lt Y i
  have hp := pw_pos i
  have h8 : pw (i + 1) ≤ 18446744073709551616 := pw_bd (by omega)
  rw [pw_succ] at h8
  have h2 : (x + 1) * pw i ≤ 256 * pw i := Int.mul_le_mul_of_nonneg_right (by omega) (by omega)
  rw [Int.add_mul, Int.one_mul] at h2
  have h3 : 0 ≤ x * pw i := Int.mul_nonneg hx0 (by omega)
  have e64 : (2 : Int) ^ 64 = 18446744073709551616 := by decide +kernel
  have ep : (2 : Int) ^ (8 * i) = pw i := by rw [Int.pow_mul]; rfl
  refine ⟨?_, by omega, h3, by omega⟩
  rw [e, bits_join .u64 64 (by decide) (fun n h h' => by rw [e64] at h'; simp [IntKind.wrap, IntKind.bits, IntKind.signed]; omega) (8 * i) _ _ h3 (by rw [ep]; exact Int.mul_emod_left ..) (by rw [e64]; omega) h0 (by rw [ep]; exact h1) (by rw [e64]; omega), Int.add_comm]

theorem mod_mod_p2 (Y m : Int) (M : Nat) (h0 : 0 ≤ m) (h : m ≤ 8 * (M : Int)) : Y % pw M % p2 m = Y % p2 m := by
  have e : pw M = p2 m * p2 (8 * (M : Int) - m) := by rw [← p2_pw, ← p2_add h0 (by omega)]; congr 1; omega
  rw [e]; exact Int.emod_emod_of_dvd _ (Int.dvd_mul_right ..)

set_option maxHeartbeats 4000000 in
theorem get_any (a : Option Addr) (len cap : Nat) (xs : List Int) (n p m : Int) (w : World) (hr : RowIn .u8 w a len cap xs) (hn : isInt n) (hp : isInt p) (hm : isInt m) :
    Calls Try.prog 58 #[bv a len cap n, .int .i64 p, .int .i64 m] w fun e w' => e = .returned (.tuple #[.int .u64 (getN xs n p m), .int .i64 (getE xs n p m)]) ∧ Below w.heap.size w w' := by
  have hl := hr.hl
  have hb := byte_of hr.rd
  have hC := fun w' hb => check_any a len cap xs n w' (hr.same hb) hn.1 hn.2
  obtain ⟨hp1, hp2⟩ := hp
  obtain ⟨hm1, hm2⟩ := hm
  by_cases hok : okB xs n = true
  · have e1 : chkE xs n = 0 := by simp [chkE, hok]
    obtain ⟨hn0, hn1, hxl, hval⟩ := okB_iff.1 hok
    rw [e1] at hC
    clear e1
    by_cases t1 : m < 0
    · have f1 : (m < 0) = True := eq_true t1
      have eE : getE xs n p m = 2 := by simp [getE, hok, t1]
      have eN : getN xs n p m = 0 := by simp [getN, eE]
      rw [eE, eN]
      clear eE eN
      unfold bv at hC ⊢
      go_enter Try.func58, Try.ntmps58
      go_wp2_with (go_at_call 31; refine (hC _ (below1 _ _)).mono ?_; rintro e w1 ⟨rfl, hb1⟩; rw [size1] at hb1; have hB1 := (below1 w _).trans (hb1.mono (by omega)); have hsz := hb1.size; rw [size1] at hsz; obtain ⟨c0, c1, c2, c3⟩ := (Box2.of (blk1 w _)).below hb1 (by omega))
      go_ret2
      exact ⟨rfl, hB1⟩
    by_cases t2 : 64 < m
    · have f1 : (m < 0) = False := eq_false t1
      have f2 : (64 < m) = True := eq_true t2
      have eE : getE xs n p m = 2 := by simp [getE, hok, t2]
      have eN : getN xs n p m = 0 := by simp [getN, eE]
      rw [eE, eN]
      clear eE eN
      unfold bv at hC ⊢
      go_enter Try.func58, Try.ntmps58
      go_wp2_with (go_at_call 31; refine (hC _ (below1 _ _)).mono ?_; rintro e w1 ⟨rfl, hb1⟩; rw [size1] at hb1; have hB1 := (below1 w _).trans (hb1.mono (by omega)); have hsz := hb1.size; rw [size1] at hsz; obtain ⟨c0, c1, c2, c3⟩ := (Box2.of (blk1 w _)).below hb1 (by omega))
      go_ret2
      exact ⟨rfl, hB1⟩
    by_cases t3 : p < 0
    · have f1 : (m < 0) = False := eq_false t1
      have f2 : (64 < m) = False := eq_false t2
      have f3 : (p < 0) = True := eq_true t3
      have eE : getE xs n p m = 2 := by simp [getE, hok, t3]
      have eN : getN xs n p m = 0 := by simp [getN, eE]
      rw [eE, eN]
      clear eE eN
      unfold bv at hC ⊢
      go_enter Try.func58, Try.ntmps58
      go_wp2_with (go_at_call 31; refine (hC _ (below1 _ _)).mono ?_; rintro e w1 ⟨rfl, hb1⟩; rw [size1] at hb1; have hB1 := (below1 w _).trans (hb1.mono (by omega)); have hsz := hb1.size; rw [size1] at hsz; obtain ⟨c0, c1, c2, c3⟩ := (Box2.of (blk1 w _)).below hb1 (by omega))
      go_ret2
      exact ⟨rfl, hB1⟩
    by_cases t4 : n - p < m
    · have f1 : (m < 0) = False := eq_false t1
      have f2 : (64 < m) = False := eq_false t2
      have f3 : (p < 0) = False := eq_false t3
      have f4 : (n - p < m) = True := eq_true t4
      have eE : getE xs n p m = 24 := by simp [getE, hok, t1, t2, t3, t4]
      have eN : getN xs n p m = 0 := by simp [getN, eE]
      rw [eE, eN]
      clear eE eN
      unfold bv at hC ⊢
      go_enter Try.func58, Try.ntmps58
      go_wp2_with (go_at_call 31; refine (hC _ (below1 _ _)).mono ?_; rintro e w1 ⟨rfl, hb1⟩; rw [size1] at hb1; have hB1 := (below1 w _).trans (hb1.mono (by omega)); have hsz := hb1.size; rw [size1] at hsz; obtain ⟨c0, c1, c2, c3⟩ := (Box2.of (blk1 w _)).below hb1 (by omega))
      go_ret2
      exact ⟨rfl, hB1⟩
    have f1 : (m < 0) = False := eq_false t1
    have f2 : (64 < m) = False := eq_false t2
    have f3 : (p < 0) = False := eq_false t3
    have f4 : (n - p < m) = False := eq_false t4
    have hsn := sz_nat hn0
    have hsm := sz_nat (show 0 ≤ m by omega)
    have eE : getE xs n p m = 0 := by simp [getE, hok, t1, t2, t3, t4]
    have eN : getN xs n p m = val xs / p2 p % p2 m := by simp [getN, eE]
    rw [eE, eN]
    clear eE eN
    have hE := fun w' hb' => eights_any a len cap xs p w' (hr.same hb') (by omega) (by omega) (by omega)
    have hBf := fun w' => bytesFor_any m w' (by omega) (by omega)
    obtain ⟨M, hM⟩ : ∃ M, sz m = M := ⟨_, rfl⟩
    have hM8 : M ≤ 8 := by omega
    have hMb : m ≤ 8 * (M : Int) := by omega
    have hmin : min m 64 = m := by omega
    have hG := fun w' g1 g2 (h : EightAt w' g1 g2 xs p) => eights_gives h hb (by omega) (by omega) M (by omega)
    obtain ⟨Y, hY⟩ : ∃ Y, val xs / p2 p = Y := ⟨_, rfl⟩
    rw [hY]
    simp only [hY] at hG
    simp only [hM] at hBf
    have hent : ∀ (args : Array Value) (w : World), (callFunc 70 args).run Try.prog w = .ok (.enter 70 args) w := enters_of Try.func70 (by kernel_rfl) rfl
    have hLow := fun v w' h1 h2 => lowest_any v m w' h1 h2 (by omega) (by omega)
    simp only [hmin] at hLow
    unfold bv at hC ⊢
    clear hok hxl hval hsn hsm hM hY hmin
    go_enter Try.func58, Try.ntmps58
    go_wp2_with (first | (go_at_call 31; refine (hC _ (below1 _ _)).mono ?_; rintro e w1 ⟨rfl, hb1⟩; rw [size1] at hb1; have hB1 := (below1 w _).trans (hb1.mono (by omega)); have hsz := hb1.size; rw [size1] at hsz; obtain ⟨c0, c1, c2, c3⟩ := (Box2.of (blk1 w _)).below hb1 (by omega)) |  (go_at_call 48; refine (hE _ hB1).mono ?_; rintro e w2 ⟨g1, g2, rfl, hea, hb2⟩; have hB2 := hB1.trans (hb2.mono hB1.size); unfold eightV) |  (go_at_call 51; refine (hBf _).mono ?_; rintro e w' ⟨rfl, rfl⟩))
    have hg := hG w2 g1 g2 hea
    go_loopw [10, 39] (fun v t wr => ∃ i : Nat, i ≤ M ∧ t = .int .i64 i ∧ v = .int .u64 (Y % pw i) ∧ ∃ q, wr = w2.drewN q) (fun _ t _ => M - (intOf t).toNat)
    case atStart => exact ⟨0, Nat.zero_le _, rfl, by rw [pw_zero, Int.emod_one], 0, rfl⟩
    case round =>
      obtain ⟨i, him, rfl, rfl, q, rfl⟩ := hrel
      obtain ⟨h0, h1⟩ := mod_pw_lt Y i
      have hpb := pw_bd (show i ≤ 8 by omega)
      by_cases hlt : i < M
      · obtain ⟨x, hx⟩ : ∃ x, Y / pw i % 256 = x := ⟨_, rfl⟩
        have hcall := hg.2 (w2.drewN q) i (below_drewN (Below.refl _ _) _) hlt
        rw [hx] at hcall
        have hx0 : 0 ≤ x ∧ x < 256 := by omega
        obtain ⟨o1, o2, o3, o4⟩ := or_acc Y x i (by omega) hx0.1 hx0.2
        have hnew := mod_pw_succ Y i
        rw [hx] at hnew
        have ep : (2 : Int) ^ (8 * i) = pw i := by rw [Int.pow_mul]; rfl
        have HN := hid hnew
        clear hnew hx hg hG
        simp only [List.append_toArray, List.cons_append, List.nil_append] at hcall
        go_wp2_with (go_at_call 70; refine hcall.mono ?_; rintro e w' ⟨rfl, q2, rfl⟩)
        go_roundw
        case rel => exact ⟨i + 1, by omega, by go_num, by rw [HN.out, o1], q + q2, rfl⟩
        case measure => simp [intOf]; omega
      · obtain rfl : i = M := by omega
        have hv := fun w' => hLow (Y % pw i) w' h0 (by omega)
        rw [mod_mod_p2 Y m i (by omega) hMb] at hv
        go_wp2_with (go_at_call 32; refine (hv _).mono ?_; rintro e w' ⟨rfl, rfl⟩)
        go_ret2
        exact ⟨rfl, below_drewN hB2 _⟩
  · have e1 : chkE xs n = 8 := by simp [chkE, hok]
    rw [e1] at hC
    clear e1
    have eE : getE xs n p m = 8 := by simp [getE, hok]
    have eN : getN xs n p m = 0 := by simp [getN, eE]
    rw [eE, eN]
    clear eE eN
    unfold bv at hC ⊢
    go_enter Try.func58, Try.ntmps58
    go_wp2_with (go_at_call 31; refine (hC _ (below1 _ _)).mono ?_; rintro e w1 ⟨rfl, hb1⟩; rw [size1] at hb1; have hB1 := (below1 w _).trans (hb1.mono (by omega)); have hsz := hb1.size; rw [size1] at hsz; obtain ⟨c0, c1, c2, c3⟩ := (Box2.of (blk1 w _)).below hb1 (by omega))
    go_ret2
    exact ⟨rfl, hB1⟩
end Go.Proofs.Ytbhoodhcipegbaa.Bt

/- What package unary returns: walks of its Go text. -/
import Derived.Test.YtmnhepcnbdbhoaaGB
import Derived.Test.YtmnhepcnbdbhoaaGM
import Derived.Test.YtmnhepcnbdbhoaaGK
import Derived.StillTailTactics
import Derived.Deep.RegionWith
namespace Go.Proofs.Ytmnhepcnbdbhoaa.Un
open Go.Proofs Go.RowKit Go.Proofs.Ytmnhepcnbdbhoaa.Kit Go.Proofs.Ytmnhepcnbdbhoaa.M01 Go.Proofs.Ytmnhepcnbdbhoaa.M02 Go.Proofs.Ytmnhepcnbdbhoaa.M06 Go.Proofs.Ytmnhepcnbdbhoaa.Bt
set_option linter.unusedVariables false

theorem results_tcc {fn : Func} {u p q : Tmp} {t1 t2 : TypeId} (h : fn.results = #[.tmp u, .cell p t1, .cell q t2]) (tmps : Array Value) (P : Program) (w : World) :
    (results fn tmps).run P w = ((asAddr (tmps.getD p undef)).run P w).andThen fun a w₁ => ((loadVar t1 a).run P w₁).andThen fun v w₂ =>
      ((asAddr (tmps.getD q undef)).run P w₂).andThen fun b w₃ => ((loadVar t2 b).run P w₃).andThen fun x w₄ => .ok (.tuple #[tmps.getD u undef, v, x]) w₄ := by
  simp only [results, h]
  simp [Sem.run_bind, Result.andThen]

set_option maxHeartbeats 4000000 in
theorem length_any (n : Int) (w : World) (hn : isInt n) :
    Calls Try.prog 82 #[.int .i64 n] w fun e w' => e = .returned (.tuple #[.int .i64 (lenN n), .int .i64 (lenE n)]) ∧ w = w' := by
  obtain ⟨hn1, hn2⟩ := hn
  rcases (show n < 0 ∨ 48 < n ∨ (0 ≤ n ∧ n < 48) ∨ n = 48 by omega) with h | h | ⟨h0, h⟩ | h
  · rw [show lenN n = 0 by simp [lenN, h], show lenE n = 2 by simp [lenE, h]]
    have f1 : (n < 0) = True := eq_true h
    go_enter Try.func82, Try.ntmps82
    go_wp2
    go_ret2
    exact ⟨rfl, rfl⟩
  · rw [show lenN n = 0 by simp [lenN, h], show lenE n = 2 by simp [lenE, h]]
    have f1 : (n < 0) = False := eq_false (by omega)
    have f2 : (48 < n) = True := eq_true h
    go_enter Try.func82, Try.ntmps82
    go_wp2
    go_ret2
    exact ⟨rfl, rfl⟩
  · rw [show lenN n = 1 + n by rw [lenN, if_neg (by omega), runS_lt h]; omega, show lenE n = 0 by rw [lenE, if_neg (by omega)]]
    have f1 : (n < 0) = False := eq_false (by omega)
    have f2 : (48 < n) = False := eq_false (by omega)
    have f3 : (n < 48) = True := eq_true h
    go_enter Try.func82, Try.ntmps82
    go_wp2
    go_ret2
    exact ⟨rfl, rfl⟩
  · subst h
    rw [show lenN 48 = 48 by decide +kernel, show lenE 48 = 0 by decide +kernel]
    go_enter Try.func82, Try.ntmps82
    go_wp2
    go_ret2
    exact ⟨rfl, rfl⟩

set_option maxHeartbeats 4000000 in
theorem ones_any (n : Int) (w : World) (h0 : 0 ≤ n) (h1 : n ≤ 48) :
    Calls Try.prog 83 #[.int .i64 n] w fun e w' => e = .returned (.int .u64 (p2 n - 1)) ∧ w = w' := by
  have hp := p2_pos n
  have hp2 : p2 n ≤ 281474976710656 := by have := p2_le h1; rw [show p2 48 = 281474976710656 by decide +kernel] at this; exact this
  unfold p2 at hp hp2 ⊢
  go_enter Try.func83, Try.ntmps83
  go_wp2
  go_ret
  exact ⟨rfl, rfl⟩

set_option maxHeartbeats 4000000 in
theorem write_any (a : Option Addr) (len cap : Nat) (xs : List Int) (n m : Int) (w : World) (hr : RowIn .u8 w a len cap xs) (hn : isInt n) (hm : isInt m) :
    Calls Try.prog 81 #[bv a len cap n, .int .i64 m] w fun e w' => ∃ a' cap', e = .returned (.tuple #[bv a' (wrL xs n m).length cap' (wrN xs n m), .int .i64 (wrE xs n m)]) ∧ RowIn .u8 w' a' (wrL xs n m).length cap' (wrL xs n m) ∧ Below w.heap.size w w' ∧ Fresh w a' := by
  have hC := fun w' hb => check_any a len cap xs n w' (hr.same hb) hn.1 hn.2
  have hL := fun w' => length_any m w' hm
  by_cases hok : okB xs n = true
  · have e1 : chkE xs n = 0 := by simp [chkE, hok]
    rw [e1] at hC
    clear e1
    by_cases hm' : m < 0 ∨ 48 < m
    · have eE : wrE xs n m = 2 := by simp [wrE, hok, hm']
      have eL : wrL xs n m = [] := by simp [wrL, eE]
      have eN : wrN xs n m = 0 := by simp [wrN, eE]
      have eM : lenE m = 2 := by simp [lenE, hm']
      rw [eE, eL, eN]
      rw [eM] at hL
      clear eE eL eN eM hok
      unfold bv at hC ⊢
      go_enter Try.func81, Try.ntmps81
      go_wp2_with (first | (go_at_call 34; refine (hC _ (below2 _ _ _)).mono ?_; rintro e w1 ⟨rfl, hb1⟩; rw [size2] at hb1; have hB1 := (below2 w _ _).trans (hb1.mono (by omega)); have hsz := hb1.size; rw [size2] at hsz; have hs0 : w.heap.size < w1.heap.size := (by omega); obtain ⟨c0, c1, c2, c3⟩ := (Box2.of (blk2a w _ _)).below hb1 (by omega); obtain ⟨r0, r1, r2, r3⟩ := (Box2.of (blk2 w _ _)).below hb1 (by omega)) |  (go_at_call 82; refine (hL _).mono ?_; rintro e w2 ⟨rfl, rfl⟩))
      refine bodyPost_ret_by (v := .tuple #[.agg #[.slice none 0 0, .int .i64 0], .int .i64 2]) (by rw [results_cell_tmp rfl]; go_simp) rfl ?_
      exact ⟨none, 0, rfl, RowIn.nil, (hB1.setCell (by dsimp only; omega) _).setCell (by dsimp only; omega) _, Fresh.none⟩
    · have h0 : 0 ≤ m := by omega
      have h1 : m ≤ 48 := by omega
      obtain ⟨q0, q1, qE, qL, qN⟩ := wr_put (xs := xs) (n := n) h0 h1
      have hS := runS_bd h0 h1
      have eM : lenE m = 0 := by simp [lenE, hm']
      have eK : lenN m = runS m := by simp [lenN, hm']
      rw [eM, eK] at hL
      have hO := fun w' => ones_any m w' h0 h1
      have hP := fun w' hb => put_any a len cap xs n (p2 m - 1) (runS m) w' (hr.same hb) hn q0 q1 (by unfold isInt; omega)
      simp only [qE, qL, qN] at hP
      obtain ⟨R, hR⟩ : ∃ R, wrL xs n m = R := ⟨_, rfl⟩
      obtain ⟨N, hN⟩ : ∃ R, wrN xs n m = R := ⟨_, rfl⟩
      obtain ⟨E, hE⟩ : ∃ R, wrE xs n m = R := ⟨_, rfl⟩
      obtain ⟨S, hS⟩ : ∃ R, runS m = R := ⟨_, rfl⟩
      obtain ⟨V, hV⟩ : ∃ R, p2 m - 1 = R := ⟨_, rfl⟩
      simp only [hR, hN, hE, hS, hV] at hP hL hO ⊢
      clear hR hN hE hS hV eM eK qE qL qN q0 q1 hok
      unfold bv at hC hP ⊢
      go_enter Try.func81, Try.ntmps81
      go_wp2_with (first | (go_at_call 34; refine (hC _ (below2 _ _ _)).mono ?_; rintro e w1 ⟨rfl, hb1⟩; rw [size2] at hb1; have hB1 := (below2 w _ _).trans (hb1.mono (by omega)); have hsz := hb1.size; rw [size2] at hsz; have hs0 : w.heap.size < w1.heap.size := (by omega); obtain ⟨c0, c1, c2, c3⟩ := (Box2.of (blk2a w _ _)).below hb1 (by omega); have R0 := (Box2.of (blk2 w _ _)).below hb1 (by omega)) |  (go_at_call 82; refine (hL _).mono ?_; rintro e w2 ⟨rfl, rfl⟩))
      go_region_with (first  | (go_at_call 83; refine (hO _).mono ?_; rintro e w2 ⟨rfl, rfl⟩)  | (go_at_call 77; refine (hP _ hB1.drew).mono ?_; rintro e w3 ⟨a', cap', rfl, hro, hb3, hfr⟩; obtain ⟨r0, r1, r2, r3⟩ := Box2.below (w := w1.drew) ⟨R0.c0, R0.c1, R0.f0, R0.f1⟩ hb3 (show w.heap.size + 1 < w1.heap.size by omega)))
      all_goals
        go_wp2
        refine bodyPost_ret_by (v := .tuple #[.agg #[.slice a' R.length cap', .int .i64 N], .int .i64 E]) (by rw [results_cell_tmp rfl]; go_simp) rfl ?_
        have hne := hfr.ne (g := w.heap.size + 1) (show w.heap.size + 1 < w1.heap.size by omega)
        exact ⟨_, _, rfl, (hro.set hne).set hne, ((hB1.drew.trans (hb3.mono (show w.heap.size ≤ w1.heap.size by omega))).setCell (by dsimp only; omega) _).setCell (by dsimp only; omega) _, hfr.lift (show w.heap.size ≤ w1.heap.size by omega)⟩
  · have e1 : chkE xs n = 8 := by simp [chkE, hok]
    rw [e1] at hC
    clear e1
    have eE : wrE xs n m = 8 := by simp [wrE, hok]
    have eL : wrL xs n m = [] := by simp [wrL, eE]
    have eN : wrN xs n m = 0 := by simp [wrN, eE]
    rw [eE, eL, eN]
    clear eE eL eN
    unfold bv at hC ⊢
    go_enter Try.func81, Try.ntmps81
    go_wp2_with (go_at_call 34; refine (hC _ (below2 _ _ _)).mono ?_; rintro e w1 ⟨rfl, hb1⟩; rw [size2] at hb1; have hB1 := (below2 w _ _).trans (hb1.mono (by omega)); have hsz := hb1.size; rw [size2] at hsz; have hs0 : w.heap.size < w1.heap.size := (by omega); obtain ⟨c0, c1, c2, c3⟩ := (Box2.of (blk2a w _ _)).below hb1 (by omega); obtain ⟨r0, r1, r2, r3⟩ := (Box2.of (blk2 w _ _)).below hb1 (by omega))
    refine bodyPost_ret_by (v := .tuple #[.agg #[.slice none 0 0, .int .i64 0], .int .i64 8]) (by rw [results_cell_tmp rfl]; go_simp) rfl ?_
    exact ⟨none, 0, rfl, RowIn.nil, (hB1.setCell (by dsimp only; omega) _).setCell (by dsimp only; omega) _, Fresh.none⟩

set_option maxHeartbeats 4000000 in
theorem one_any (g0 g1 g2 : Nat) (a : Option Addr) (len cap : Nat) (xs : List Int) (n p q e0 : Int) (w : World) (hr : RowIn .u8 w a len cap xs) (hn : isInt n) (hp : isInt p)
    (b0 : Box2 w g0 (.slice a len cap) (.int .i64 n)) (c1 : w.cell? ⟨g1, 0, none⟩ = some (.int .i64 p)) (f1 : w.frozen? ⟨g1, 0, none⟩ = false) (c2 : w.cell? ⟨g2, 0, none⟩ = some (.int .i64 e0)) (f2 : w.frozen? ⟨g2, 0, none⟩ = false) (hne : g1 ≠ g2) (hq : IntKind.i64.wrap (p + 1) = q) :
    Calls Try.prog 79 #[.pointer (some ⟨g0, 0, none⟩), .pointer (some ⟨g1, 0, none⟩), .pointer (some ⟨g2, 0, none⟩)] w fun e w' => e = .returned (.bool (getN xs n p 1 == 1)) ∧ ∃ w1, Below w.heap.size w w1 ∧ w' = (w1.setCell ⟨g2, 0, none⟩ (.int .i64 (getE xs n p 1))).setCell ⟨g1, 0, none⟩ (.int .i64 q) := by
  have hG := get_any a len cap xs n p 1 w hr hn hp (by unfold isInt; omega)
  obtain ⟨E, hE⟩ : ∃ R, getE xs n p 1 = R := ⟨_, rfl⟩
  obtain ⟨N, hN⟩ : ∃ R, getN xs n p 1 = R := ⟨_, rfl⟩
  rw [hE, hN] at hG ⊢
  obtain ⟨x0, x1, _, _⟩ := b0
  have l1 := World.block_lt_of_cell? w _ c1
  have l2 := World.block_lt_of_cell? w _ c2
  have hne' := hne.symm
  unfold bv at hG
  clear hE hN
  go_enter Try.func79, Try.ntmps79
  go_wp2_with (go_at_call 63; refine hG.mono ?_; rintro e w1 ⟨rfl, hb⟩; have d1 : w1.cell? ⟨g1, 0, none⟩ = some (.int .i64 p) := (by rw [hb.cell l1]; exact c1); have d2 : w1.cell? ⟨g2, 0, none⟩ = some (.int .i64 e0) := (by rw [hb.cell l2]; exact c2);  have k1 : w1.frozen? ⟨g1, 0, none⟩ = false := (by rw [World.frozen?_of_block (hb.block _ l1)]; exact f1); have k2 : w1.frozen? ⟨g2, 0, none⟩ = false := (by rw [World.frozen?_of_block (hb.block _ l2)]; exact f2); clear c1 c2 f1 f2)
  go_ret
  exact ⟨rfl, w1, hb, rfl⟩

/-- A block of one cell that holds this. -/
structure Box1 (w : World) (g : Nat) (u : Value) : Prop where
  c0 : w.cell? ⟨g, 0, none⟩ = some u
  f0 : w.frozen? ⟨g, 0, none⟩ = false

theorem Box1.of {w : World} {g : Nat} {u : Value} {t : TypeId} (h : w.heap[g]? = some (.cells #[u] t)) : Box1 w g u :=
  ⟨by simp [World.cell?, h], by simp [World.frozen?, h]⟩
theorem Box1.below {w w' : World} {g B : Nat} {u : Value} (h : Box1 w g u) (hb : Below B w w') (hg : g < B) : Box1 w' g u := by
  have e := hb.block g hg
  exact ⟨by rw [World.cell?_of_block e]; exact h.c0, by rw [World.frozen?_of_block e]; exact h.f0⟩
theorem Box1.set {w : World} {g g' i : Nat} {u x : Value} (h : Box1 w g u) (hne : g ≠ g') : Box1 (w.setCell ⟨g', i, none⟩ x) g u := by
  have e := Below.heap_setCell w ⟨g', i, none⟩ x g hne
  exact ⟨by rw [World.cell?_of_block e]; exact h.c0, by rw [World.frozen?_of_block e]; exact h.f0⟩
theorem Box1.put {w : World} {g : Nat} {u : Value} (h : Box1 w g u) (x : Value) : Box1 (w.setCell ⟨g, 0, none⟩ x) g x :=
  ⟨World.cell?_setCell_same (u := u) (h := h.c0) .., by rw [World.frozen?_setCell]; exact h.f0⟩

/-- What holds at the head of a round of Read. -/
def rdInv (xs : List Int) (n p : Int) (j : Nat) : Prop :=
  j ≤ 48 ∧ (j = 0 ∨ (okB xs n = true ∧ 0 ≤ p ∧ p + j ≤ n)) ∧ ons xs p = j + (cnt (val xs / p2 (p + j)) (48 - j) : Nat)

theorem rdInv_start (xs : List Int) (n p : Int) : rdInv xs n p 0 := by
  refine ⟨by omega, .inl rfl, ?_⟩
  unfold ons; simp

theorem get_ok {xs : List Int} {n p : Int} (h : getE xs n p 1 = 0) : okB xs n = true ∧ 0 ≤ p ∧ p < n ∧ n ≤ 330000 ∧ getN xs n p 1 = val xs / p2 p % 2 := by
  have hh := h
  unfold getE at h
  split at h
  · rename_i hok
    split at h
    · omega
    · split at h
      · omega
      · exact ⟨hok, by omega, by omega, (okB_iff.1 hok).2.1, by unfold getN; rw [if_pos hh]; rfl⟩
  · omega

theorem rdInv_full {xs : List Int} {n p : Int} {j : Nat} (h : rdInv xs n p j) (hj : j = 48) :
    rdE xs n p = 0 ∧ rdN xs n p = j ∧ rdX xs n p = p + j := by
  obtain ⟨_, h2, h3⟩ := h
  subst hj
  rcases h2 with h2 | ⟨hok, h0, h1⟩
  · omega
  have e : ons xs p = 48 := by rw [h3]; rfl
  have eE : rdE xs n p = 0 := by unfold rdE; rw [if_pos hok, if_neg (by omega), if_neg (by omega), if_neg (by omega)]
  refine ⟨eE, by rw [rdN, if_pos eE, e]; rfl, by rw [rdX, if_pos eE, e]; rfl⟩

theorem rdInv_stop {xs : List Int} {n p : Int} {j : Nat} (hb : isByte xs) (h : rdInv xs n p j) (hj : j < 48) (hE : getE xs n (p + j) 1 ≠ 0) : rdE xs n p = getE xs n (p + j) 1 := by
  obtain ⟨_, h2, h3⟩ := h
  rcases h2 with h2 | ⟨hok, h0, h1⟩
  · subst h2
    simp only [Int.add_zero, show ((0 : Nat) : Int) = 0 from rfl] at hE ⊢
    unfold getE at hE ⊢
    unfold rdE
    by_cases hok : okB xs n = true
    · rw [if_pos hok] at hE ⊢
      rw [if_pos hok]
      by_cases h : p < 0
      · rw [if_pos h, if_pos (by omega)]
      · rw [if_neg h]
        have q : ¬ ((1 : Int) < 0 ∨ (64 : Int) < 1 ∨ p < 0) := by omega
        rw [if_neg q] at hE ⊢
        by_cases h' : n ≤ p
        · rw [if_pos h', if_pos (by omega)]
        · rw [if_neg (by omega)] at hE; omega
    · rw [if_neg hok, if_neg hok]
  · obtain ⟨_, _, _, hv⟩ := okB_iff.1 hok
    unfold getE at hE ⊢
    rw [if_pos hok, if_neg (by omega)] at hE ⊢
    have hpn : p + j = n := by
      by_cases h : n - (p + j) < 1
      · omega
      · rw [if_neg h] at hE; omega
    rw [if_pos (by omega)]
    have e : ons xs p = j := by
      rw [h3, hpn, cnt_zero _ _ (by rw [Int.ediv_eq_zero_of_lt (val_nonneg hb) hv]; decide)]; omega
    unfold rdE
    rw [if_pos hok, if_neg (by omega)]
    by_cases h : n ≤ p
    · rw [if_pos h]
    · rw [if_neg h, if_pos (by omega)]

theorem rdInv_got {xs : List Int} {n p : Int} {j : Nat} (h : rdInv xs n p j) (hj : j < 48) (hE : getE xs n (p + j) 1 = 0) (hN : getN xs n (p + j) 1 ≠ 1) :
    rdE xs n p = 0 ∧ rdN xs n p = j ∧ rdX xs n p = p + j + 1 := by
  obtain ⟨hok, g0, g1, g2, g3⟩ := get_ok hE
  rw [g3] at hN
  obtain ⟨_, h2, h3⟩ := h
  have hp : 0 ≤ p := by rcases h2 with h2 | ⟨_, h0, _⟩ <;> omega
  have e := (ons_more hp hj h3).2 hN
  have eE : rdE xs n p = 0 := by unfold rdE; rw [if_pos hok, if_neg (by omega), if_neg (by omega), if_neg (by omega)]
  refine ⟨eE, by rw [rdN, if_pos eE, e], by rw [rdX, if_pos eE, e, runS_lt (by omega)]; omega⟩

theorem rdInv_more {xs : List Int} {n p : Int} {j : Nat} (h : rdInv xs n p j) (hj : j < 48) (hE : getE xs n (p + j) 1 = 0) (hN : getN xs n (p + j) 1 = 1) : rdInv xs n p (j + 1) := by
  obtain ⟨hok, g0, g1, g2, g3⟩ := get_ok hE
  rw [g3] at hN
  obtain ⟨_, h2, h3⟩ := h
  have hp : 0 ≤ p := by rcases h2 with h2 | ⟨_, h0, _⟩ <;> omega
  exact ⟨by omega, .inr ⟨hok, hp, by omega⟩, (ons_more hp hj h3).1 hN⟩

set_option maxHeartbeats 4000000 in
theorem read_any (a : Option Addr) (len cap : Nat) (xs : List Int) (n p : Int) (w : World) (hr : RowIn .u8 w a len cap xs) (hn : isInt n) (hp : isInt p) :
    Calls Try.prog 74 #[bv a len cap n, .int .i64 p] w fun e w' => e = .returned (.tuple #[.int .i64 (rdN xs n p), .int .i64 (rdX xs n p), .int .i64 (rdE xs n p)]) ∧ Below w.heap.size w w' := by
  have hb := byte_of hr.rd
  have hent : ∀ (args : Array Value) (w : World), (callFunc 79 args).run Try.prog w = .ok (.enter 79 args) w := enters_of Try.func79 (by kernel_rfl) rfl
  obtain ⟨B, eB⟩ : ∃ B, w.heap.size = B := ⟨_, rfl⟩
  unfold bv
  have k0 := blk3a w (.cells #[.slice a len cap, .int .i64 n] 27) (.cells #[.int .i64 p] 3) (.cells #[.int .i64 0] 30)
  have k1 := blk3b w (.cells #[.slice a len cap, .int .i64 n] 27) (.cells #[.int .i64 p] 3) (.cells #[.int .i64 0] 30)
  have k2 := blk3 w (.cells #[.slice a len cap, .int .i64 n] 27) (.cells #[.int .i64 p] 3) (.cells #[.int .i64 0] 30)
  have hsz := size3 w (.cells #[.slice a len cap, .int .i64 n] 27) (.cells #[.int .i64 p] 3) (.cells #[.int .i64 0] 30)
  have hbe := below3 w (.cells #[.slice a len cap, .int .i64 n] 27) (.cells #[.int .i64 p] 3) (.cells #[.int .i64 0] 30)
  rw [eB] at k0 k1 k2 hsz hbe ⊢
  have b0 := Box2.of k0
  have b1 := Box1.of k1
  have b2 := Box1.of k2
  clear k0 k1 k2
  go_enter Try.func74, Try.ntmps74
  go_wp2
  simp only [Nat.add_assoc, Nat.reduceAdd]
  generalize ((w.alloc (.cells #[.slice a len cap, .int .i64 n] 27)).alloc (.cells #[.int .i64 p] 3)).alloc (.cells #[.int .i64 0] 30) = w1 at *
  go_loopw [4] (fun t wr => ∃ j : Nat, t = .int .i64 j ∧ Hid (rdInv xs n p j) ∧ isInt (p + j) ∧ j ≤ 48 ∧ Box2 wr B (.slice a len cap) (.int .i64 n) ∧ Box1 wr (B + 1) (.int .i64 (p + j)) ∧ Box1 wr (B + 2) (.int .i64 0) ∧ Below B w wr ∧ B + 3 ≤ wr.heap.size) (fun t _ => 48 - (intOf t).toNat)
  case atStart => exact ⟨0, by go_num, hid (rdInv_start xs n p), by rw [show p + ((0 : Nat) : Int) = p by omega]; exact hp, by omega, b0, by rw [show p + ((0 : Nat) : Int) = p by omega]; exact b1, b2, hbe, by omega⟩
  case round =>
    obtain ⟨j, rfl, hinv, hpj, hj48, B0, ⟨c1, f1⟩, ⟨c2, f2⟩, hbr, hsr⟩ := hrel
    clear b0 b1 b2 hbe hsz
    have hrr := hr.same (eB ▸ hbr)
    obtain ⟨P, hP⟩ : ∃ P, p + (j : Int) = P := ⟨_, rfl⟩
    rw [hP] at hpj c1
    have HP := hid hP
    obtain ⟨q, hq⟩ : ∃ q, IntKind.i64.wrap (P + 1) = q := ⟨_, rfl⟩
    have hO := one_any B (B + 1) (B + 2) a len cap xs n P q 0 wr hrr hn hpj B0 c1 f1 c2 f2 (by omega) hq
    by_cases hlt : j < 48
    · obtain ⟨E, hE⟩ : ∃ E, getE xs n P 1 = E := ⟨_, rfl⟩
      obtain ⟨N, hN⟩ : ∃ N, getN xs n P 1 = N := ⟨_, rfl⟩
      rw [hE, hN] at hO
      have HE := hid hE
      have HN := hid hN
      have HQ := hid hq
      have D1 := Box1.mk c1 f1
      have D2 := Box1.mk c2 f2
      clear hE hN hP hq c1 c2 f1 f2
      by_cases hE0 : E = 0
      · subst hE0
        obtain ⟨_, g0, g1, g2, g3⟩ := get_ok HE.out
        have hq : q = P + 1 := by rw [← HQ.out, IntKind.wrap_i64]; omega
        rw [HN.out] at g3
        by_cases hN1 : N = 1
        · subst hN1
          have t1 : ((1 : Int) == 1) = true := rfl
          have hinv' := rdInv_more hinv.out hlt (by rw [HP.out]; exact HE.out) (by rw [HP.out]; exact HN.out)
          have HI := hid hinv'
          have HPJ : Hid (p + ((j + 1 : Nat) : Int) = P + 1) := hid (by have := HP.out; omega)
          clear hinv' g3
          go_wp2_with (go_at_call 79; refine hO.mono ?_; rintro e w2 ⟨rfl, w3, hb3, rfl⟩)
          go_roundw
          case rel =>
            have hs3 := hb3.size
            refine ⟨j + 1, by go_num, HI, by rw [HPJ.out]; unfold isInt; omega, by omega, ((B0.below hb3 (by omega)).set (by omega)).set (by omega), ?_, ?_, ((hbr.trans (hb3.mono (by omega))).setCell (by dsimp only; omega) _).setCell (by dsimp only; omega) _, by simp only [World.size_setCell]; omega⟩
            · rw [HPJ.out, ← hq]; exact ((D1.below hb3 (by omega)).set (by omega)).put _
            · exact ((D2.below hb3 (by omega)).put _).set (by omega)
          case measure => simp [intOf]; omega
        · have t1 : (N == 1) = false := beq_eq_false_iff_ne.2 hN1
          have hR := rdInv_got hinv.out hlt (by rw [HP.out]; exact HE.out) (by rw [HP.out, HN.out]; exact hN1)
          rw [HP.out, ← hq] at hR
          have HR := hid hR
          clear hR g3
          go_wp2_with (go_at_call 79; refine hO.mono ?_; rintro e w2 ⟨rfl, w3, hb3, rfl⟩; have hs3 := hb3.size; have X1 := ((D1.below hb3 (by omega)).set (i := 0) (g' := B + 2) (x := .int .i64 0) (by omega)).put (.int .i64 q); have X2 := ((D2.below hb3 (by omega)).put (.int .i64 0)).set (i := 0) (g' := B + 1) (x := .int .i64 q) (by omega);  have HB : Below B w ((w3.setCell ⟨B + 2, 0, none⟩ (.int .i64 0)).setCell ⟨B + 1, 0, none⟩ (.int .i64 q)) := ((hbr.trans (hb3.mono (by omega))).setCell (by dsimp only; omega) _).setCell (by dsimp only; omega) _; generalize (w3.setCell ⟨B + 2, 0, none⟩ (.int .i64 0)).setCell ⟨B + 1, 0, none⟩ (.int .i64 q) = w4 at *; obtain ⟨x1, y1⟩ := X1; obtain ⟨x2, y2⟩ := X2)
          go_region
          go_wp2
          refine bodyPost_ret_by (v := .tuple #[.int .i64 j, .int .i64 q, .int .i64 0]) (by rw [results_tcc rfl]; go_simp) rfl ?_
          exact ⟨by rw [HR.out.1, HR.out.2.1, HR.out.2.2], (HB.drew.setCell (by dsimp only; omega) _).setCell (by dsimp only; omega) _⟩
      · have f3 : (E = 0) = False := eq_false hE0
        have hN0 : N = 0 := by rw [← HN.out, getN, if_neg (by rw [HE.out]; exact hE0)]
        subst hN0
        have t1 : ((0 : Int) == 1) = false := rfl
        have eE := rdInv_stop hb hinv.out hlt (by rw [HP.out, HE.out]; exact hE0)
        rw [HP.out, HE.out] at eE
        have HR := hid (And.intro eE (And.intro (show rdN xs n p = 0 by rw [rdN, if_neg (by rw [eE]; exact hE0)]) (show rdX xs n p = 0 by rw [rdX, if_neg (by rw [eE]; exact hE0)])))
        clear eE
        go_wp2_with (go_at_call 79; refine hO.mono ?_; rintro e w2 ⟨rfl, w3, hb3, rfl⟩; have hs3 := hb3.size; have X1 := ((D1.below hb3 (by omega)).set (i := 0) (g' := B + 2) (x := .int .i64 E) (by omega)).put (.int .i64 q); have X2 := ((D2.below hb3 (by omega)).put (.int .i64 E)).set (i := 0) (g' := B + 1) (x := .int .i64 q) (by omega);  have HB : Below B w ((w3.setCell ⟨B + 2, 0, none⟩ (.int .i64 E)).setCell ⟨B + 1, 0, none⟩ (.int .i64 q)) := ((hbr.trans (hb3.mono (by omega))).setCell (by dsimp only; omega) _).setCell (by dsimp only; omega) _; generalize (w3.setCell ⟨B + 2, 0, none⟩ (.int .i64 E)).setCell ⟨B + 1, 0, none⟩ (.int .i64 q) = w4 at *; obtain ⟨x1, y1⟩ := X1; obtain ⟨x2, y2⟩ := X2)
        go_region
        go_wp2
        refine bodyPost_ret_by (v := .tuple #[.int .i64 0, .int .i64 0, .int .i64 E]) (by rw [results_tcc rfl]; go_simp) rfl ?_
        exact ⟨by rw [HR.out.1, HR.out.2.1, HR.out.2.2], (HB.drew.setCell (by dsimp only; omega) _).setCell (by dsimp only; omega) _⟩
    · obtain rfl : j = 48 := by omega
      have hR := rdInv_full hinv.out rfl
      rw [HP.out] at hR
      have HR := hid hR
      clear hR hO hP hq
      go_wp2
      go_region
      go_wp2
      refine bodyPost_ret_by (v := .tuple #[.int .i64 48, .int .i64 P, .int .i64 0]) (by rw [results_tcc rfl]; go_simp) rfl ?_
      exact ⟨by rw [HR.out.1, HR.out.2.1, HR.out.2.2]; rfl, (hbr.drew.setCell (by dsimp only; omega) _).setCell (by dsimp only; omega) _⟩
end Go.Proofs.Ytmnhepcnbdbhoaa.Un

/- The law FoldBack. -/
import Derived.Test.YtibpmpikoocnnaaLaw05
namespace Go.Proofs.Ytibpmpikoocnnaa.Wk
open Go.Proofs Go.RowKit Go.Proofs.Ytibpmpikoocnnaa.Kit Go.Proofs.Ytibpmpikoocnnaa.M05 Go.Proofs.Ytibpmpikoocnnaa.Fo Go.Proofs.Ytibpmpikoocnnaa.R05
set_option linter.unusedVariables false

theorem fold_at {x : Int} (h : -2147483648 ≤ x) (h2 : x ≤ 2147483647) {y : Int} (hy : foldI x = y) :
    Hid (∀ w, Calls Try.prog 13 #[.int .i32 x] w fun e w' => e = .returned (.int .u32 y) ∧ w = w') := by
  intro w; rw [← hy]; exact fold_any x w h h2
theorem back_at {n : Int} (h : 0 ≤ n) (h2 : n ≤ 4294967295) {y : Int} (hy : backI n = y) :
    Hid (∀ w, Calls Try.prog 15 #[.int .u32 n] w fun e w' => e = .returned (.int .i32 y) ∧ w = w') := by
  intro w; rw [← hy]; exact back_any n w h h2

set_option maxHeartbeats 4000000 in
theorem foldBack_walk (a0 : Option Addr) (l0 c0 : Nat) (x0 : List Int) (a1 : Option Addr) (l1 c1 : Nat) (x1 : List Int) (w : World) (r0 : RowIn .i32 w a0 l0 c0 x0) (r1 : RowIn .u32 w a1 l1 c1 x1) :
    Calls Try.prog 6 #[.slice a0 l0 c0, .slice a1 l1 c1] w fun e w' => e = .returned (.bool true) ∧ Below w.heap.size w w' := by
  have h0 := r0.rd.len
  have h1 := r1.rd.len
  rw [r0.hl] at h0
  rw [r1.hl] at h1
  by_cases g : l0 ≤ 500 ∧ l1 ≤ 500
  · obtain ⟨g0, g1⟩ := g
    have t0 : (500 < (l0 : Int)) = False := eq_false (by omega)
    have t1 : (500 < (l1 : Int)) = False := eq_false (by omega)
    go_enter Try.func6, Try.ntmps6
    go_wp2
    go_loopw [5] (fun t wr => ∃ k : Nat, k ≤ l0 ∧ t = .int .i64 k ∧ ∃ q, wr = w.drewN q) (fun t _ => l0 - (intOf t).toNat)
    case atStart => exact ⟨0, by omega, by go_num, 0, rfl⟩
    case round =>
      obtain ⟨k, hk, rfl, q, rfl⟩ := hrel
      by_cases hlt : k < l0
      · obtain ⟨b, o, rfl, c⟩ := r0.rd.cells (by intro h; have := r0.hl; rw [h] at this; simp at this; omega)
        have d1 := c k (by rw [r0.hl]; exact hlt)
        have x := bd_i32 (getD_wf r0.rd.2.2 (show k < x0.length by rw [r0.hl]; exact hlt))
        have z := foldI_bd x.1 x.2
        have F := fold_at x.1 x.2 rfl
        have B := back_at z.1 z.2 (back_fold _)
        generalize x0.getD k 0 = X at *
        generalize foldI X = Y at *
        clear c
        go_wp2
        go_quiet (first  | (go_at_call 13; exact ((F.out _).mono (fun _ _ q => ⟨q.1, _, q.2.symm⟩)))  | (go_at_call 15; exact ((B.out _).mono (fun _ _ q => ⟨q.1, _, q.2.symm⟩))))
        go_wp2
        go_roundw
        case rel => exact ⟨k + 1, by omega, by go_num, _, rfl⟩
        case measure => simp [intOf]; omega
      · obtain rfl : k = l0 := by omega
        go_wp2
        go_loopw [6] (fun t wr => ∃ j : Nat, j ≤ l1 ∧ t = .int .i64 j ∧ ∃ q, wr = w.drewN q) (fun t _ => l1 - (intOf t).toNat)
        case atStart => exact ⟨0, by omega, by go_num, q, rfl⟩
        case round =>
          obtain ⟨j, hj, rfl, q, rfl⟩ := hrel
          by_cases hlt : j < l1
          · obtain ⟨b, o, rfl, c⟩ := r1.rd.cells (by intro h; have := r1.hl; rw [h] at this; simp at this; omega)
            have d1 := c j (by rw [r1.hl]; exact hlt)
            have x := bd_u32 (getD_wf r1.rd.2.2 (show j < x1.length by rw [r1.hl]; exact hlt))
            have z := backI_bd x.1 x.2
            have F := back_at x.1 x.2 rfl
            have B := fold_at z.1 z.2 (fold_back x.1)
            generalize x1.getD j 0 = X at *
            generalize backI X = Y at *
            clear c
            go_wp2
            go_quiet (first  | (go_at_call 15; exact ((F.out _).mono (fun _ _ q => ⟨q.1, _, q.2.symm⟩)))  | (go_at_call 13; exact ((B.out _).mono (fun _ _ q => ⟨q.1, _, q.2.symm⟩))))
            go_wp2
            go_roundw
            case rel => exact ⟨j + 1, by omega, by go_num, _, rfl⟩
            case measure => simp [intOf]; omega
          · obtain rfl : j = l1 := by omega
            have R0 := r0.same (below_drewN (Below.refl _ _) q)
            have R1 := r1.same (below_drewN (Below.refl _ _) q)
            have hB := below_drewN (Below.refl w.heap.size w) q
            generalize w.drewN q = w0 at *
            have hsz := hB.size
            have N1 := all_any _ _ _ _ _ R0 (by omega)
            have hb1 := back_folds x0
            have hb2 := fold_backs r1.rd.2.2
            have N4 := fun w' a (r : RowIn .i32 w' a j j (x1.map backI)) => all_any a j j _ w' r (by omega)
            rw [hb2] at N4
            have N2 := fun w' a (r : RowIn .u32 w' a k k (x0.map foldI)) => undo_any a k k _ w' r (by omega)
            rw [hb1] at N2
            have N3 := fun w' (r : RowIn .u32 w' a1 j c1 x1) => undo_any a1 j c1 _ w' r (by omega)
            clear hb1 hb2
            generalize x0.map foldI = y0 at *
            generalize x1.map backI = y1 at *
            go_wp2_with (first  | ((with_reducible refine N1.mono ?_); rintro e w1 ⟨p1, rfl, s1, e1⟩; have N2' := N2 _ _ s1; have R1' := R1.same e1; have R0' := R0.same e1; clear N1 N2 R1 R0 s1)  | ((with_reducible refine N2'.mono ?_); rintro e w2 ⟨p2, rfl, s2, e2⟩; have R1 := R1'.same e2; have R0 := R0'.same e2; have N3' := N3 _ R1; clear R0' R1' N2' N3)  | ((with_reducible refine N3'.mono ?_); rintro e w3 ⟨p3, rfl, s3, e3⟩; have R1' := R1.same e3; have R0' := R0.same e3; have s2' := s2.same e3; have N4' := N4 _ _ s3; clear R0 R1 s2 s3 N4 N3')  | ((with_reducible refine N4'.mono ?_); rintro e w4 ⟨p4, rfl, s4, e4⟩; have R1 := R1'.same e4; have R0 := R0'.same e4; have s2 := s2'.same e4; have M1 := sames_any _ _ _ _ _ _ _ _ _ s2 R0; rw [sameL_self] at M1; have M2 := fun q => same_any _ _ _ _ _ _ _ _ _ (s4.same (below_drewN (Below.refl _ _) q)) (R1.same (below_drewN (Below.refl _ _) q)); rw [sameL_self] at M2; have hBB := (((hB.trans (e1.mono hsz)).trans (e2.mono (Nat.le_trans hsz e1.size))).trans (e3.mono (Nat.le_trans hsz (Nat.le_trans e1.size e2.size)))).trans (e4.mono (Nat.le_trans hsz (Nat.le_trans e1.size (Nat.le_trans e2.size e3.size)))); clear R0' R1' s2' N4' s4 s2 R0 R1)  | ((with_reducible refine M1.mono ?_); rintro e w5 ⟨rfl, q5, rfl⟩)  | ((with_reducible refine (M2 _).mono ?_); rintro e w5 ⟨rfl, q6, rfl⟩)  | ((with_reducible refine (alive_any _).mono ?_); rintro e w' ⟨rfl, hbA⟩))
            go_ret
            have hC := below_drewN hBB (q5 + q6)
            exact ⟨rfl, hC.trans (hbA.mono hC.size)⟩
  · rcases (show 500 < l0 ∨ (l0 ≤ 500 ∧ 500 < l1) by omega) with t | ⟨t, t'⟩
    · have t0 : (500 < (l0 : Int)) = True := eq_true (by omega)
      go_enter Try.func6, Try.ntmps6
      go_wp2_with ((with_reducible refine (alive_any _).mono ?_); rintro e w' ⟨rfl, hbA⟩)
      go_ret
      exact ⟨rfl, hbA⟩
    · have t0 : (500 < (l0 : Int)) = False := eq_false (by omega)
      have t1 : (500 < (l1 : Int)) = True := eq_true (by omega)
      go_enter Try.func6, Try.ntmps6
      go_wp2_with ((with_reducible refine (alive_any _).mono ?_); rintro e w' ⟨rfl, hbA⟩)
      go_ret
      exact ⟨rfl, hbA⟩
end Go.Proofs.Ytibpmpikoocnnaa.Wk

/- The law FoldLists. -/
import Derived.Test.YtibpmpikoocnnaaLaw05
namespace Go.Proofs.Ytibpmpikoocnnaa.Wk
open Go.Proofs Go.RowKit Go.Proofs.Ytibpmpikoocnnaa.Kit Go.Proofs.Ytibpmpikoocnnaa.M05 Go.Proofs.Ytibpmpikoocnnaa.Fo Go.Proofs.Ytibpmpikoocnnaa.R05
set_option linter.unusedVariables false

/-- A list, each number turned, if there are at most 4,000; the error. -/
def manyL (f : Int → Int) (xs : List Int) : List Int := if xs.length ≤ 4000 then xs.map f else []
def manyE (xs : List Int) : Int := if xs.length ≤ 4000 then 0 else 4

theorem all_both (b : Option Addr) (len cap : Nat) (xs : List Int) (w : World) (r : RowIn .i32 w b len cap xs) :
    Calls Try.prog 9 #[.slice b len cap] w fun e w' => ∃ a l c, e = .returned (.tuple #[.slice a l c, .int .i64 (manyE xs)]) ∧ RowIn .u32 w' a l c (manyL foldI xs) ∧ Below w.heap.size w w' := by
  have hl := r.rd.len
  rw [r.hl] at hl
  unfold manyE manyL
  by_cases h : xs.length ≤ 4000
  · rw [if_pos h, if_pos h]
    exact (all_any b len cap xs w r (by rw [← r.hl]; exact h)).mono fun e w' ⟨a, h1, h2, h3⟩ => ⟨a, _, _, h1, h2, h3⟩
  · rw [if_neg h, if_neg h]
    exact (all_many b len cap w (by rw [← r.hl]; omega) hl).mono fun e w' ⟨h1, h2⟩ => ⟨_, _, _, h1, RowIn.nil, h2 ▸ Below.refl _ _⟩
theorem undo_both (b : Option Addr) (len cap : Nat) (xs : List Int) (w : World) (r : RowIn .u32 w b len cap xs) :
    Calls Try.prog 10 #[.slice b len cap] w fun e w' => ∃ a l c, e = .returned (.tuple #[.slice a l c, .int .i64 (manyE xs)]) ∧ RowIn .i32 w' a l c (manyL backI xs) ∧ Below w.heap.size w w' := by
  have hl := r.rd.len
  rw [r.hl] at hl
  unfold manyE manyL
  by_cases h : xs.length ≤ 4000
  · rw [if_pos h, if_pos h]
    exact (undo_any b len cap xs w r (by rw [← r.hl]; exact h)).mono fun e w' ⟨a, h1, h2, h3⟩ => ⟨a, _, _, h1, h2, h3⟩
  · rw [if_neg h, if_neg h]
    exact (undo_many b len cap w (by rw [← r.hl]; omega) hl).mono fun e w' ⟨h1, h2⟩ => ⟨_, _, _, h1, RowIn.nil, h2 ▸ Below.refl _ _⟩
theorem rall_both (b : Option Addr) (len cap : Nat) (xs : List Int) (w : World) (r : RowIn .i32 w b len cap xs) :
    Calls Try.prog 17 #[.slice b len cap] w fun e w' => ∃ a l c, e = .returned (.tuple #[.slice a l c, .int .i64 (manyE xs)]) ∧ RowIn .u32 w' a l c (manyL foldI xs) ∧ Below w.heap.size w w' := by
  have hl := r.rd.len
  rw [r.hl] at hl
  unfold manyE manyL
  by_cases h : xs.length ≤ 4000
  · rw [if_pos h, if_pos h]
    exact (rall_any b len cap xs w r (by rw [← r.hl]; exact h)).mono fun e w' ⟨a, c, h1, h2, h3⟩ => ⟨a, _, _, h1, h2, h3⟩
  · rw [if_neg h, if_neg h]
    exact (rall_many b len cap w (by rw [← r.hl]; omega) hl).mono fun e w' ⟨h1, h2⟩ => ⟨_, _, _, h1, RowIn.nil, h2 ▸ Below.refl _ _⟩
theorem rundo_both (b : Option Addr) (len cap : Nat) (xs : List Int) (w : World) (r : RowIn .u32 w b len cap xs) :
    Calls Try.prog 18 #[.slice b len cap] w fun e w' => ∃ a l c, e = .returned (.tuple #[.slice a l c, .int .i64 (manyE xs)]) ∧ RowIn .i32 w' a l c (manyL backI xs) ∧ Below w.heap.size w w' := by
  have hl := r.rd.len
  rw [r.hl] at hl
  unfold manyE manyL
  by_cases h : xs.length ≤ 4000
  · rw [if_pos h, if_pos h]
    exact (rundo_any b len cap xs w r (by rw [← r.hl]; exact h)).mono fun e w' ⟨a, c, h1, h2, h3⟩ => ⟨a, _, _, h1, h2, h3⟩
  · rw [if_neg h, if_neg h]
    exact (rundo_many b len cap w (by rw [← r.hl]; omega) hl).mono fun e w' ⟨h1, h2⟩ => ⟨_, _, _, h1, RowIn.nil, h2 ▸ Below.refl _ _⟩

set_option maxHeartbeats 4000000 in
theorem foldLists_walk (a0 : Option Addr) (l0 c0 : Nat) (x0 : List Int) (a1 : Option Addr) (l1 c1 : Nat) (x1 : List Int) (w : World) (r0 : RowIn .i32 w a0 l0 c0 x0) (r1 : RowIn .u32 w a1 l1 c1 x1) :
    Calls Try.prog 5 #[.slice a0 l0 c0, .slice a1 l1 c1] w fun e w' => e = .returned (.bool true) ∧ Below w.heap.size w w' := by
  obtain ⟨i0, hi, hz0, hz1, hz2⟩ := info_parts info_i32
  obtain ⟨j0, hj, hy0, hy1, hy2⟩ := info_parts info_u32
  have h0 := r0.rd.len
  have h1 := r1.rd.len
  have e0 := r0.hl
  have e1 := r1.hl
  rw [e0] at h0
  rw [e1] at h1
  have O0 := OwnI.lit (k := .i32) w w.heap.size 21 [] (Nat.le_refl _) (by decide)
  have W0 := hid r0.rd.2.2
  have W1 := hid r1.rd.2.2
  have N1 := fun b cap w' (r : RowIn .i32 w' b l0 cap x0) => all_both b l0 cap x0 w' r
  have N2 := fun w' (r : RowIn .i32 w' a0 l0 c0 x0) => rall_both a0 l0 c0 x0 w' r
  have N3 := fun b cap w' (r : RowIn .u32 w' b l1 cap x1) => undo_both b l1 cap x1 w' r
  have N4 := fun w' (r : RowIn .u32 w' a1 l1 c1 x1) => rundo_both a1 l1 c1 x1 w' r
  generalize manyL foldI x0 = y0 at *
  generalize manyL backI x1 = y1 at *
  generalize manyE x0 = z0 at *
  generalize manyE x1 = z1 at *
  rcases (show (l0 ≤ 500) ∨ (500 < l0 ∧ l0 ≤ 4000) ∨ (4000 < l0 ∧ l0 ≤ 4100) ∨ 4100 < l0 by omega) with g | ⟨g, g'⟩ | ⟨g, g'⟩ | g
  · have f1 : (500 < (l0 : Int)) = False := eq_false (by omega)
    have f2 : (4100 < (l0 : Int)) = False := eq_false (by omega)
    rcases (show (l1 ≤ 500) ∨ (500 < l1 ∧ l1 ≤ 4000) ∨ (4000 < l1 ∧ l1 ≤ 4100) ∨ 4100 < l1 by omega) with k | ⟨k, k'⟩ | ⟨k, k'⟩ | k
    · have f4 : (500 < (l1 : Int)) = False := eq_false (by omega)
      have f5 : (4100 < (l1 : Int)) = False := eq_false (by omega)
      go_enter Try.func5, Try.ntmps5
      go_wp2_with (first  | (at_builtin; refine appN rfl _ _ 26 rfl w.heap.size 21 i0 (.int .i32 0) 4 Try.underlying26 hi hz0 hz1 hz2 rfl .i32 _ _ O0 a0 l0 c0 x0 (r0.same (below1 _ _)).rd e0 rfl rfl (by simp) (by simp; omega) (by simp; omega) ?_; intro v' w2 hown hgr hbw; replace hbw := (below1 w _).trans hbw; rw [List.nil_append] at hown; obtain ⟨a', cap', rfl, hrow⟩ := hown.row W0.out; rw [e0] at hown hrow; have R0 := r0.same hbw; have R1 := r1.same hbw; have O1 := OwnI.lit (k := .u32) w2 w2.heap.size 29 [] (Nat.le_refl _) (by decide); clear hown hgr O0 r0 r1)  | (at_builtin; refine appN rfl _ _ 22 rfl w2.heap.size 29 j0 (.int .u32 0) 4 Try.underlying22 hj hy0 hy1 hy2 rfl .u32 _ _ O1 a1 l1 c1 x1 (R1.same (below1 _ _)).rd e1 rfl rfl (by simp) (by simp; omega) (by simp; omega) ?_; intro v' w3 hown hgr hb3; replace hb3 := (below1 w2 _).trans hb3; rw [List.nil_append] at hown; obtain ⟨a2, cap2, rfl, hrow2⟩ := hown.row W1.out; rw [e1] at hown hrow2; have hrow' := hrow.same hb3; have R0' := R0.same hb3; have R1' := R1.same hb3; have hB3 := hbw.trans (hb3.mono hbw.size); clear hown hgr O1 R0 R1 hrow hb3)  | ((with_reducible refine (N1 _ _ _ hrow').mono ?_); rintro e w4 ⟨p4, q4, t4, rfl, s4, b4⟩; have R0 := R0'.same b4; have R1 := R1'.same b4; have hrow := hrow'.same b4; have hrow3 := hrow2.same b4; have hB4 := hB3.trans (b4.mono hB3.size); clear N1 R0' R1' hrow' hrow2 b4)  | ((with_reducible refine (N2 _ R0).mono ?_); rintro e w5 ⟨p5, q5, t5, rfl, s5, b5⟩; have R0' := R0.same b5; have R1' := R1.same b5; have hrow' := hrow.same b5; have hrow2 := hrow3.same b5; have s4' := s4.same b5; have hB5 := hB4.trans (b5.mono hB4.size); clear N2 R0 R1 hrow hrow3 s4 b5)  | ((with_reducible refine (N3 _ _ _ hrow2).mono ?_); rintro e w6 ⟨p6, q6, t6, rfl, s6, b6⟩; have R0 := R0'.same b6; have R1 := R1'.same b6; have hrow := hrow'.same b6; have hrow3 := hrow2.same b6; have s4 := s4'.same b6; have s5' := s5.same b6; have hB6 := hB5.trans (b6.mono hB5.size); clear N3 R0' R1' hrow' hrow2 s4' s5 b6)  | ((with_reducible refine (N4 _ R1).mono ?_); rintro e w7 ⟨p7, q7, t7, rfl, s7, b7⟩; have hB7 := hB6.trans (b7.mono hB6.size);  have M1 := same_any _ _ _ _ _ _ _ _ _ (s4.same b7) (s5'.same b7); rw [sameL_self] at M1;  have M2 := fun q => sames_any _ _ _ _ _ _ _ _ _ ((s6.same b7).same (below_drewN (Below.refl _ _) q)) (s7.same (below_drewN (Below.refl _ _) q)); rw [sameL_self] at M2;  have M3 := fun q => sames_any _ _ _ _ _ _ _ _ _ ((hrow.same b7).same (below_drewN (Below.refl _ _) q)) ((R0.same b7).same (below_drewN (Below.refl _ _) q)); rw [sameL_self] at M3;  have M4 := fun q => same_any _ _ _ _ _ _ _ _ _ ((hrow3.same b7).same (below_drewN (Below.refl _ _) q)) ((R1.same b7).same (below_drewN (Below.refl _ _) q)); rw [sameL_self] at M4; clear N4 s4 s5' s6 s7 hrow hrow3 R0 R1 b7)  | ((with_reducible refine M1.mono ?_); rintro e w' ⟨rfl, k1, rfl⟩)  | ((with_reducible refine (M2 _).mono ?_); rintro e w' ⟨rfl, k2, rfl⟩)  | ((with_reducible refine (M3 _).mono ?_); rintro e w' ⟨rfl, k3, rfl⟩)  | ((with_reducible refine (M4 _).mono ?_); rintro e w' ⟨rfl, k4, rfl⟩))
      go_ret
      exact ⟨rfl, by simpa using below_drewN hB7 _⟩
    · have f4 : (500 < (l1 : Int)) = True := eq_true (by omega)
      have f5 : ((l1 : Int) ≤ 4000) = True := eq_true (by omega)
      go_enter Try.func5, Try.ntmps5
      go_wp2
      go_ret
      exact ⟨rfl, Below.refl _ _⟩
    · have f4 : (500 < (l1 : Int)) = True := eq_true (by omega)
      have f5 : ((l1 : Int) ≤ 4000) = False := eq_false (by omega)
      have f6 : (4100 < (l1 : Int)) = False := eq_false (by omega)
      go_enter Try.func5, Try.ntmps5
      go_wp2_with (first  | (at_builtin; refine appN rfl _ _ 26 rfl w.heap.size 21 i0 (.int .i32 0) 4 Try.underlying26 hi hz0 hz1 hz2 rfl .i32 _ _ O0 a0 l0 c0 x0 (r0.same (below1 _ _)).rd e0 rfl rfl (by simp) (by simp; omega) (by simp; omega) ?_; intro v' w2 hown hgr hbw; replace hbw := (below1 w _).trans hbw; rw [List.nil_append] at hown; obtain ⟨a', cap', rfl, hrow⟩ := hown.row W0.out; rw [e0] at hown hrow; have R0 := r0.same hbw; have R1 := r1.same hbw; have O1 := OwnI.lit (k := .u32) w2 w2.heap.size 29 [] (Nat.le_refl _) (by decide); clear hown hgr O0 r0 r1)  | (at_builtin; refine appN rfl _ _ 22 rfl w2.heap.size 29 j0 (.int .u32 0) 4 Try.underlying22 hj hy0 hy1 hy2 rfl .u32 _ _ O1 a1 l1 c1 x1 (R1.same (below1 _ _)).rd e1 rfl rfl (by simp) (by simp; omega) (by simp; omega) ?_; intro v' w3 hown hgr hb3; replace hb3 := (below1 w2 _).trans hb3; rw [List.nil_append] at hown; obtain ⟨a2, cap2, rfl, hrow2⟩ := hown.row W1.out; rw [e1] at hown hrow2; have hrow' := hrow.same hb3; have R0' := R0.same hb3; have R1' := R1.same hb3; have hB3 := hbw.trans (hb3.mono hbw.size); clear hown hgr O1 R0 R1 hrow hb3)  | ((with_reducible refine (N1 _ _ _ hrow').mono ?_); rintro e w4 ⟨p4, q4, t4, rfl, s4, b4⟩; have R0 := R0'.same b4; have R1 := R1'.same b4; have hrow := hrow'.same b4; have hrow3 := hrow2.same b4; have hB4 := hB3.trans (b4.mono hB3.size); clear N1 R0' R1' hrow' hrow2 b4)  | ((with_reducible refine (N2 _ R0).mono ?_); rintro e w5 ⟨p5, q5, t5, rfl, s5, b5⟩; have R0' := R0.same b5; have R1' := R1.same b5; have hrow' := hrow.same b5; have hrow2 := hrow3.same b5; have s4' := s4.same b5; have hB5 := hB4.trans (b5.mono hB4.size); clear N2 R0 R1 hrow hrow3 s4 b5)  | ((with_reducible refine (N3 _ _ _ hrow2).mono ?_); rintro e w6 ⟨p6, q6, t6, rfl, s6, b6⟩; have R0 := R0'.same b6; have R1 := R1'.same b6; have hrow := hrow'.same b6; have hrow3 := hrow2.same b6; have s4 := s4'.same b6; have s5' := s5.same b6; have hB6 := hB5.trans (b6.mono hB5.size); clear N3 R0' R1' hrow' hrow2 s4' s5 b6)  | ((with_reducible refine (N4 _ R1).mono ?_); rintro e w7 ⟨p7, q7, t7, rfl, s7, b7⟩; have hB7 := hB6.trans (b7.mono hB6.size);  have M1 := same_any _ _ _ _ _ _ _ _ _ (s4.same b7) (s5'.same b7); rw [sameL_self] at M1;  have M2 := fun q => sames_any _ _ _ _ _ _ _ _ _ ((s6.same b7).same (below_drewN (Below.refl _ _) q)) (s7.same (below_drewN (Below.refl _ _) q)); rw [sameL_self] at M2;  have M3 := fun q => sames_any _ _ _ _ _ _ _ _ _ ((hrow.same b7).same (below_drewN (Below.refl _ _) q)) ((R0.same b7).same (below_drewN (Below.refl _ _) q)); rw [sameL_self] at M3;  have M4 := fun q => same_any _ _ _ _ _ _ _ _ _ ((hrow3.same b7).same (below_drewN (Below.refl _ _) q)) ((R1.same b7).same (below_drewN (Below.refl _ _) q)); rw [sameL_self] at M4; clear N4 s4 s5' s6 s7 hrow hrow3 R0 R1 b7)  | ((with_reducible refine M1.mono ?_); rintro e w' ⟨rfl, k1, rfl⟩)  | ((with_reducible refine (M2 _).mono ?_); rintro e w' ⟨rfl, k2, rfl⟩)  | ((with_reducible refine (M3 _).mono ?_); rintro e w' ⟨rfl, k3, rfl⟩)  | ((with_reducible refine (M4 _).mono ?_); rintro e w' ⟨rfl, k4, rfl⟩))
      go_ret
      exact ⟨rfl, by simpa using below_drewN hB7 _⟩
    · have f4 : (500 < (l1 : Int)) = True := eq_true (by omega)
      have f5 : ((l1 : Int) ≤ 4000) = False := eq_false (by omega)
      have f6 : (4100 < (l1 : Int)) = True := eq_true (by omega)
      go_enter Try.func5, Try.ntmps5
      go_wp2
      go_ret
      exact ⟨rfl, Below.refl _ _⟩
  · have f1 : (500 < (l0 : Int)) = True := eq_true (by omega)
    have f2 : ((l0 : Int) ≤ 4000) = True := eq_true (by omega)
    go_enter Try.func5, Try.ntmps5
    go_wp2
    go_ret
    exact ⟨rfl, Below.refl _ _⟩
  · have f1 : (500 < (l0 : Int)) = True := eq_true (by omega)
    have f2 : ((l0 : Int) ≤ 4000) = False := eq_false (by omega)
    have f3 : (4100 < (l0 : Int)) = False := eq_false (by omega)
    rcases (show (l1 ≤ 500) ∨ (500 < l1 ∧ l1 ≤ 4000) ∨ (4000 < l1 ∧ l1 ≤ 4100) ∨ 4100 < l1 by omega) with k | ⟨k, k'⟩ | ⟨k, k'⟩ | k
    · have f4 : (500 < (l1 : Int)) = False := eq_false (by omega)
      have f5 : (4100 < (l1 : Int)) = False := eq_false (by omega)
      go_enter Try.func5, Try.ntmps5
      go_wp2_with (first  | (at_builtin; refine appN rfl _ _ 26 rfl w.heap.size 21 i0 (.int .i32 0) 4 Try.underlying26 hi hz0 hz1 hz2 rfl .i32 _ _ O0 a0 l0 c0 x0 (r0.same (below1 _ _)).rd e0 rfl rfl (by simp) (by simp; omega) (by simp; omega) ?_; intro v' w2 hown hgr hbw; replace hbw := (below1 w _).trans hbw; rw [List.nil_append] at hown; obtain ⟨a', cap', rfl, hrow⟩ := hown.row W0.out; rw [e0] at hown hrow; have R0 := r0.same hbw; have R1 := r1.same hbw; have O1 := OwnI.lit (k := .u32) w2 w2.heap.size 29 [] (Nat.le_refl _) (by decide); clear hown hgr O0 r0 r1)  | (at_builtin; refine appN rfl _ _ 22 rfl w2.heap.size 29 j0 (.int .u32 0) 4 Try.underlying22 hj hy0 hy1 hy2 rfl .u32 _ _ O1 a1 l1 c1 x1 (R1.same (below1 _ _)).rd e1 rfl rfl (by simp) (by simp; omega) (by simp; omega) ?_; intro v' w3 hown hgr hb3; replace hb3 := (below1 w2 _).trans hb3; rw [List.nil_append] at hown; obtain ⟨a2, cap2, rfl, hrow2⟩ := hown.row W1.out; rw [e1] at hown hrow2; have hrow' := hrow.same hb3; have R0' := R0.same hb3; have R1' := R1.same hb3; have hB3 := hbw.trans (hb3.mono hbw.size); clear hown hgr O1 R0 R1 hrow hb3)  | ((with_reducible refine (N1 _ _ _ hrow').mono ?_); rintro e w4 ⟨p4, q4, t4, rfl, s4, b4⟩; have R0 := R0'.same b4; have R1 := R1'.same b4; have hrow := hrow'.same b4; have hrow3 := hrow2.same b4; have hB4 := hB3.trans (b4.mono hB3.size); clear N1 R0' R1' hrow' hrow2 b4)  | ((with_reducible refine (N2 _ R0).mono ?_); rintro e w5 ⟨p5, q5, t5, rfl, s5, b5⟩; have R0' := R0.same b5; have R1' := R1.same b5; have hrow' := hrow.same b5; have hrow2 := hrow3.same b5; have s4' := s4.same b5; have hB5 := hB4.trans (b5.mono hB4.size); clear N2 R0 R1 hrow hrow3 s4 b5)  | ((with_reducible refine (N3 _ _ _ hrow2).mono ?_); rintro e w6 ⟨p6, q6, t6, rfl, s6, b6⟩; have R0 := R0'.same b6; have R1 := R1'.same b6; have hrow := hrow'.same b6; have hrow3 := hrow2.same b6; have s4 := s4'.same b6; have s5' := s5.same b6; have hB6 := hB5.trans (b6.mono hB5.size); clear N3 R0' R1' hrow' hrow2 s4' s5 b6)  | ((with_reducible refine (N4 _ R1).mono ?_); rintro e w7 ⟨p7, q7, t7, rfl, s7, b7⟩; have hB7 := hB6.trans (b7.mono hB6.size);  have M1 := same_any _ _ _ _ _ _ _ _ _ (s4.same b7) (s5'.same b7); rw [sameL_self] at M1;  have M2 := fun q => sames_any _ _ _ _ _ _ _ _ _ ((s6.same b7).same (below_drewN (Below.refl _ _) q)) (s7.same (below_drewN (Below.refl _ _) q)); rw [sameL_self] at M2;  have M3 := fun q => sames_any _ _ _ _ _ _ _ _ _ ((hrow.same b7).same (below_drewN (Below.refl _ _) q)) ((R0.same b7).same (below_drewN (Below.refl _ _) q)); rw [sameL_self] at M3;  have M4 := fun q => same_any _ _ _ _ _ _ _ _ _ ((hrow3.same b7).same (below_drewN (Below.refl _ _) q)) ((R1.same b7).same (below_drewN (Below.refl _ _) q)); rw [sameL_self] at M4; clear N4 s4 s5' s6 s7 hrow hrow3 R0 R1 b7)  | ((with_reducible refine M1.mono ?_); rintro e w' ⟨rfl, k1, rfl⟩)  | ((with_reducible refine (M2 _).mono ?_); rintro e w' ⟨rfl, k2, rfl⟩)  | ((with_reducible refine (M3 _).mono ?_); rintro e w' ⟨rfl, k3, rfl⟩)  | ((with_reducible refine (M4 _).mono ?_); rintro e w' ⟨rfl, k4, rfl⟩))
      go_ret
      exact ⟨rfl, by simpa using below_drewN hB7 _⟩
    · have f4 : (500 < (l1 : Int)) = True := eq_true (by omega)
      have f5 : ((l1 : Int) ≤ 4000) = True := eq_true (by omega)
      go_enter Try.func5, Try.ntmps5
      go_wp2
      go_ret
      exact ⟨rfl, Below.refl _ _⟩
    · have f4 : (500 < (l1 : Int)) = True := eq_true (by omega)
      have f5 : ((l1 : Int) ≤ 4000) = False := eq_false (by omega)
      have f6 : (4100 < (l1 : Int)) = False := eq_false (by omega)
      go_enter Try.func5, Try.ntmps5
      go_wp2_with (first  | (at_builtin; refine appN rfl _ _ 26 rfl w.heap.size 21 i0 (.int .i32 0) 4 Try.underlying26 hi hz0 hz1 hz2 rfl .i32 _ _ O0 a0 l0 c0 x0 (r0.same (below1 _ _)).rd e0 rfl rfl (by simp) (by simp; omega) (by simp; omega) ?_; intro v' w2 hown hgr hbw; replace hbw := (below1 w _).trans hbw; rw [List.nil_append] at hown; obtain ⟨a', cap', rfl, hrow⟩ := hown.row W0.out; rw [e0] at hown hrow; have R0 := r0.same hbw; have R1 := r1.same hbw; have O1 := OwnI.lit (k := .u32) w2 w2.heap.size 29 [] (Nat.le_refl _) (by decide); clear hown hgr O0 r0 r1)  | (at_builtin; refine appN rfl _ _ 22 rfl w2.heap.size 29 j0 (.int .u32 0) 4 Try.underlying22 hj hy0 hy1 hy2 rfl .u32 _ _ O1 a1 l1 c1 x1 (R1.same (below1 _ _)).rd e1 rfl rfl (by simp) (by simp; omega) (by simp; omega) ?_; intro v' w3 hown hgr hb3; replace hb3 := (below1 w2 _).trans hb3; rw [List.nil_append] at hown; obtain ⟨a2, cap2, rfl, hrow2⟩ := hown.row W1.out; rw [e1] at hown hrow2; have hrow' := hrow.same hb3; have R0' := R0.same hb3; have R1' := R1.same hb3; have hB3 := hbw.trans (hb3.mono hbw.size); clear hown hgr O1 R0 R1 hrow hb3)  | ((with_reducible refine (N1 _ _ _ hrow').mono ?_); rintro e w4 ⟨p4, q4, t4, rfl, s4, b4⟩; have R0 := R0'.same b4; have R1 := R1'.same b4; have hrow := hrow'.same b4; have hrow3 := hrow2.same b4; have hB4 := hB3.trans (b4.mono hB3.size); clear N1 R0' R1' hrow' hrow2 b4)  | ((with_reducible refine (N2 _ R0).mono ?_); rintro e w5 ⟨p5, q5, t5, rfl, s5, b5⟩; have R0' := R0.same b5; have R1' := R1.same b5; have hrow' := hrow.same b5; have hrow2 := hrow3.same b5; have s4' := s4.same b5; have hB5 := hB4.trans (b5.mono hB4.size); clear N2 R0 R1 hrow hrow3 s4 b5)  | ((with_reducible refine (N3 _ _ _ hrow2).mono ?_); rintro e w6 ⟨p6, q6, t6, rfl, s6, b6⟩; have R0 := R0'.same b6; have R1 := R1'.same b6; have hrow := hrow'.same b6; have hrow3 := hrow2.same b6; have s4 := s4'.same b6; have s5' := s5.same b6; have hB6 := hB5.trans (b6.mono hB5.size); clear N3 R0' R1' hrow' hrow2 s4' s5 b6)  | ((with_reducible refine (N4 _ R1).mono ?_); rintro e w7 ⟨p7, q7, t7, rfl, s7, b7⟩; have hB7 := hB6.trans (b7.mono hB6.size);  have M1 := same_any _ _ _ _ _ _ _ _ _ (s4.same b7) (s5'.same b7); rw [sameL_self] at M1;  have M2 := fun q => sames_any _ _ _ _ _ _ _ _ _ ((s6.same b7).same (below_drewN (Below.refl _ _) q)) (s7.same (below_drewN (Below.refl _ _) q)); rw [sameL_self] at M2;  have M3 := fun q => sames_any _ _ _ _ _ _ _ _ _ ((hrow.same b7).same (below_drewN (Below.refl _ _) q)) ((R0.same b7).same (below_drewN (Below.refl _ _) q)); rw [sameL_self] at M3;  have M4 := fun q => same_any _ _ _ _ _ _ _ _ _ ((hrow3.same b7).same (below_drewN (Below.refl _ _) q)) ((R1.same b7).same (below_drewN (Below.refl _ _) q)); rw [sameL_self] at M4; clear N4 s4 s5' s6 s7 hrow hrow3 R0 R1 b7)  | ((with_reducible refine M1.mono ?_); rintro e w' ⟨rfl, k1, rfl⟩)  | ((with_reducible refine (M2 _).mono ?_); rintro e w' ⟨rfl, k2, rfl⟩)  | ((with_reducible refine (M3 _).mono ?_); rintro e w' ⟨rfl, k3, rfl⟩)  | ((with_reducible refine (M4 _).mono ?_); rintro e w' ⟨rfl, k4, rfl⟩))
      go_ret
      exact ⟨rfl, by simpa using below_drewN hB7 _⟩
    · have f4 : (500 < (l1 : Int)) = True := eq_true (by omega)
      have f5 : ((l1 : Int) ≤ 4000) = False := eq_false (by omega)
      have f6 : (4100 < (l1 : Int)) = True := eq_true (by omega)
      go_enter Try.func5, Try.ntmps5
      go_wp2
      go_ret
      exact ⟨rfl, Below.refl _ _⟩
  · have f1 : (500 < (l0 : Int)) = True := eq_true (by omega)
    have f2 : ((l0 : Int) ≤ 4000) = False := eq_false (by omega)
    have f3 : (4100 < (l0 : Int)) = True := eq_true (by omega)
    go_enter Try.func5, Try.ntmps5
    go_wp2
    go_ret
    exact ⟨rfl, Below.refl _ _⟩
end Go.Proofs.Ytibpmpikoocnnaa.Wk

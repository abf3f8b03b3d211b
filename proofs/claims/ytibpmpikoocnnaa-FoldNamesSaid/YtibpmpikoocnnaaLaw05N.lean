/- The law FoldNames. -/
import Derived.Test.YtibpmpikoocnnaaLaw05
namespace Go.Proofs.Ytibpmpikoocnnaa.Wk
open Go.Proofs Go.RowKit Go.Proofs.Ytibpmpikoocnnaa.Kit Go.Proofs.Ytibpmpikoocnnaa.M05 Go.Proofs.Ytibpmpikoocnnaa.Fo Go.Proofs.Ytibpmpikoocnnaa.R05
set_option linter.unusedVariables false

theorem wfz (k : IntKind) (hk : (Lit.int k 0).wf = true) (n : Nat) : ∀ x ∈ List.replicate n (0 : Int), (Lit.int k x).wf = true := by
  intro x hx; rw [List.mem_replicate] at hx; rw [hx.2]; exact hk

def endN : List Int := [4294967295, 4294967294, 1, 0]
def endX : List Int := [-2147483648, 2147483647, -1, 0]
theorem end_same : sameL (endN.map backI) endX = true := by decide +kernel

set_option maxHeartbeats 4000000 in
set_option maxRecDepth 100000 in
theorem foldNames_walk (w : World)  :
    Calls Try.prog 3 #[] w fun e w' => e = .returned (.bool true) ∧ Below w.heap.size w w' := by
  obtain ⟨i0, hi, hz0, hz1, hz2⟩ := info_parts info_i32
  obtain ⟨j0, hj, hy0, hy1, hy2⟩ := info_parts info_u32
  have M1 := fun b cap w => all_many b 4001 cap w (by omega) (by omega)
  have M2 := fun b cap w => undo_many b 4001 cap w (by omega) (by omega)
  have M3 := fun b cap w (r : RowIn .i32 w b 4000 cap (List.replicate 4000 0)) => all_any b 4000 cap _ w r (by omega)
  have M5 := fun w => all_any none 0 0 [] w RowIn.nil (by omega)
  have L4 := fun w => litMark (k := .u32) w 29 endN 4 #[.int .u32 4294967295, .int .u32 4294967294, .int .u32 1, .int .u32 0] (0, 0) rfl rfl (by decide) (by decide +kernel)
  have L6 := fun w => litMark (k := .i32) w 21 endX 4 #[.int .i32 (-2147483648), .int .i32 2147483647, .int .i32 (-1), .int .i32 0] (0, 0) rfl rfl (by decide) (by decide +kernel)
  have M4 := fun w => undo_any _ _ _ endN _ (L4 w) (by omega)
  have Z := hid (wfz .i32 rfl 4000)
  have hs := hid end_same
  generalize endN.map backI = ys at *
  generalize endX = zs at *
  generalize (List.replicate 4000 (0 : Int)).map foldI = us at *
  clear L4
  go_enter Try.func3, Try.ntmps3
  go_wp2_with (first  | (at_make; refine makeI rfl (.const (.int .i64 4001)) (.const (.int .i64 4001)) 26 rfl w.heap.size 21 i0 4 .i32 Try.underlying26 hi hz0 hz1 hz2 4001 4001 rfl rfl rfl (by omega) (by omega) (Nat.le_refl _) ?_; intro w1 o1 gr1 b1 s1; clear o1 gr1)  | ((with_reducible refine (M1 _ _ _).mono ?_); rintro e w' ⟨rfl, rfl⟩)  | (at_make; refine makeI rfl (.const (.int .i64 4001)) (.const (.int .i64 4001)) 22 rfl w1.heap.size 29 j0 4 .u32 Try.underlying22 hj hy0 hy1 hy2 4001 4001 rfl rfl rfl (by omega) (by omega) (Nat.le_refl _) ?_; intro w2 o2 gr2 b2 s2; clear o2 gr2; have hB2 := b1.trans (b2.mono b1.size))  | ((with_reducible refine (M2 _ _ _).mono ?_); rintro e w' ⟨rfl, rfl⟩)  | (at_make; refine makeI rfl (.const (.int .i64 4000)) (.const (.int .i64 4000)) 26 rfl w2.heap.size 21 i0 4 .i32 Try.underlying26 hi hz0 hz1 hz2 4000 4000 rfl rfl rfl (by omega) (by omega) (Nat.le_refl _) ?_; intro w3 o3 gr3 b3 s3; have r3 := o3.rowLit Z.out; clear o3 gr3; have hB3 := hB2.trans (b3.mono hB2.size); clear b1 b2 b3 hB2)  | ((with_reducible refine (M3 _ _ _ r3).mono ?_); rintro e w4 ⟨p4, rfl, r4, b4⟩; have hB4 := hB3.trans (b4.mono hB3.size); clear b4 hB3 r3)  | ((with_reducible refine (M4 w4).mono ?_); rintro e w5 ⟨p5, rfl, r5, b5⟩; have hb1 := below1 w4 (.cells #[.int .u32 4294967295, .int .u32 4294967294, .int .u32 1, .int .u32 0] 29); have hB5 := (hB4.trans (hb1.mono hB4.size)).trans (b5.mono (Nat.le_trans hB4.size hb1.size)); clear b5 hB4 hb1)  | ((with_reducible refine (M5 w5).mono ?_); rintro e w6 ⟨p6, rfl, r6, b6⟩; have hB6 := hB5.trans (b6.mono hB5.size); have hb2 := below1 w6 (.cells #[.int .i32 (-2147483648), .int .i32 2147483647, .int .i32 (-1), .int .i32 0] 21); have S := sames_any _ _ _ _ _ _ _ _ _ ((r5.same b6).same hb2) (L6 w6); rw [hs.out] at S; have hB7 := hB6.trans (hb2.mono hB6.size); clear hB6 hb2 hB5 b6 r5 r6)  | ((with_reducible refine S.mono ?_); rintro e w' ⟨rfl, q, rfl⟩)  | ((with_reducible refine (alive_any _).mono ?_); rintro e w' ⟨rfl, hbA⟩))
  go_ret
  have hF := below_drewN hB7 q
  exact ⟨rfl, hF.trans (hbA.mono hF.size)⟩
end Go.Proofs.Ytibpmpikoocnnaa.Wk

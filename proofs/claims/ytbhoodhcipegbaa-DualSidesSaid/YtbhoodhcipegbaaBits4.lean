/- What package bits puts, joins, and makes of bytes. -/
import Derived.Test.YtbhoodhcipegbaaBits3
import Derived.Laws.ResultCell
namespace Go.Proofs.Ytbhoodhcipegbaa.Bt
open Go.RowKit Go.Proofs.Ytbhoodhcipegbaa.Kit Go.Proofs.Ytbhoodhcipegbaa.M01 Go.Proofs.Ytbhoodhcipegbaa.M02
set_option linter.unusedVariables false

set_option maxHeartbeats 4000000 in
theorem whole_any (a : Option Addr) (len cap : Nat) (xs : List Int) (w : World) (hr : RowIn .u8 w a len cap xs) (hl : len ≤ 41250) :
    Calls Try.prog 41 #[.slice a len cap] w fun e w' => ∃ a' cap', e = .returned (bv a' len cap' (8 * len)) ∧ RowIn .u8 w' a' len cap' xs ∧ Below w.heap.size w w' ∧ Fresh w a' := by
  obtain rfl := hr.hl
  obtain ⟨L, hL⟩ : ∃ L, xs.length = L := ⟨_, rfl⟩
  have hLL : xs.length ≤ L := by omega
  obtain ⟨i0, hi, hz0, hz1, hz2⟩ := info_parts info_u8
  unfold bv
  have hrr := hr.rd
  rw [hL] at hr hl ⊢
  go_enter Try.func41, Try.ntmps41
  go_wp2_with (first  | (at_make; (refine makeI rfl _ _ 22 rfl (w.heap.size + 1) 5 i0 1 .u8 Try.underlying22 hi hz0 hz1 hz2 _ L rfl rfl rfl (by omega) (by omega) (by simp) ?_; intro w1 hown hgr hbw hsz; simp only [World.size_alloc] at hown hgr hbw hsz ⊢;  have hB : Below w.heap.size w w1 := ((Below.refl _ _).alloc (Nat.le_refl _) _).trans (hbw.mono (by omega)); have hB1 := hrr.same hB; have hbox := (Box2.of (blk1 w _)).below hbw (by simp)))  | (((with_reducible refine copyI rfl _ _ 22 rfl 5 Try.underlying22 size_u8 .u8 (w.heap.size + 1) (w.heap.size + 1) L L _ hown a L cap xs hB1 hL (Nat.le_refl _) rfl rfl ?_); intro w2 hown2 hbw2;  obtain ⟨c0, c1, c2, c3⟩ := hbox.below hbw2 (by omega))))
  refine bodyPost_ret_by (v := .agg #[.slice (some ⟨w.heap.size + 1, 0, none⟩) L L, .int .i64 (8 * L)]) (by rw [results_cell1 rfl]; go_simp) rfl ?_
  have e : xs ++ List.drop L (List.replicate L 0) = xs := by simp
  rw [e] at hown2
  have hrow := hown2.rowLit (wf_byte (byte_of hrr))
  exact ⟨_, _, rfl, (hrow.set (by simp)).set (by simp), ((hB.trans (hbw2.mono (by omega))).setCell (by simp) _).setCell (by simp) _, by intro x hx; cases hx; simp⟩

set_option maxHeartbeats 4000000 in
theorem of_any (a : Option Addr) (len cap : Nat) (xs : List Int) (w : World) (hr : RowIn .u8 w a len cap xs) :
    Calls Try.prog 16 #[.slice a len cap] w fun e w' => ∃ a' cap', e = .returned (.tuple #[bv a' (ofL xs).length cap' (ofN xs), .int .i64 (ofE xs)]) ∧ RowIn .u8 w' a' (ofL xs).length cap' (ofL xs) ∧ Below w.heap.size w w' ∧ Fresh w a' := by
  have hl := hr.hl
  have hrr := hr.rd.len
  unfold ofL ofN ofE bv
  by_cases h : xs.length ≤ 41250
  · rw [if_pos h, if_pos h, if_pos h, hl]
    rw [hl] at h
    have hlt : (41250 < (len : Int)) = False := eq_false (by omega)
    have hr1 := hr.same ((Below.refl _ w).alloc (Nat.le_refl _) (.cells #[.slice none 0 0, .int .i64 0] 24))
    have hW := whole_any a len cap xs _ hr1 h
    unfold bv at hW
    go_enter Try.func16, Try.ntmps16
    go_wp2_with (go_at_call 41; refine hW.mono ?_; rintro e w' ⟨a', cap', rfl, hro, hbe, hfr⟩; obtain ⟨c0, c1, c2, c3⟩ := (Box2.of (blk1 w _)).below hbe (by simp))
    refine bodyPost_ret_by (v := .tuple #[.agg #[.slice a' len cap', .int .i64 (8 * len)], .int .i64 0]) (by rw [results_cell_tmp rfl]; go_simp) rfl ?_
    have hne := hfr.ne (g := w.heap.size) (by simp)
    exact ⟨_, _, rfl, (hro.set hne).set hne, (((((Below.refl _ _).alloc (Nat.le_refl _) _).trans (hbe.mono (by simp))).setCell (by simp) _).setCell (by simp) _), hfr.lift (by simp)⟩
  · rw [if_neg h, if_neg h, if_neg h]
    rw [hl] at h hrr
    have hlt : (41250 < (len : Int)) = True := eq_true (by omega)
    go_enter Try.func16, Try.ntmps16
    go_wp2
    refine bodyPost_ret_by (v := .tuple #[.agg #[.slice none 0 0, .int .i64 0], .int .i64 4]) (by rw [results_cell_tmp rfl]; go_simp) rfl ?_
    exact ⟨none, 0, rfl, RowIn.nil, (Below.refl _ _).alloc (Nat.le_refl _) _, Fresh.none⟩
end Go.Proofs.Ytbhoodhcipegbaa.Bt

/- The law Crc64Parts. -/
import Derived.Test.YtpbignknpccpkaaLaw04
namespace Go.Proofs.Ytpbignknpccpkaa.Wk
open Go.RowKit Go.Proofs.Ytpbignknpccpkaa.Kit Go.Proofs.Ytpbignknpccpkaa.M04 Go.Proofs.Ytpbignknpccpkaa.Cr6 Go.Proofs.Ytpbignknpccpkaa.R04
set_option linter.unusedVariables false

theorem wf_zeros (z : Nat) : ∀ x ∈ List.replicate z (0 : Int), (Lit.int .u8 x).wf = true := by
  intro x hx
  rw [List.mem_replicate] at hx
  rw [hx.2]; rfl
theorem crcI_zeros (z : Nat) (xs : List Int) : crcI 0 (List.replicate z 0 ++ xs) = crcI 0 xs := by
  unfold crcI; rw [crcN_append, Int.toNat_zero, crc_zeros]

set_option maxHeartbeats 4000000 in
set_option maxRecDepth 100000 in
theorem crc64Parts_walk (a0 : Int) (a1 : Option Addr) (l1 c1 : Nat) (x1 : List Int) (a2 : Option Addr) (l2 c2 : Nat) (x2 : List Int) (a3 : Int) (w : World) (b0 : 0 ≤ a0 ∧ a0 ≤ 18446744073709551615) (r1 : RowIn .u8 w a1 l1 c1 x1) (r2 : RowIn .u8 w a2 l2 c2 x2) (b3 : -9223372036854775808 ≤ a3 ∧ a3 ≤ 9223372036854775807) :
    Calls Try.prog 6 #[.int .u64 a0, .slice a1 l1 c1, .slice a2 l2 c2, .int .i64 a3] w fun e w' => e = .returned (.bool true) ∧ Below w.heap.size w w' := by
  obtain ⟨i0, hi, hz0, hz1, hz2⟩ := info_parts info_u8
  have h1 := r1.hl
  have h2 := r2.hl
  have h3 := r1.hm
  subst h1 h2
  rcases (show (x1.length ≤ 1000 ∧ x2.length ≤ 1000 ∧ 0 ≤ a3 ∧ a3 ≤ 100) ∨ 1000 < x1.length ∨ (x1.length ≤ 1000 ∧ 1000 < x2.length) ∨ (x1.length ≤ 1000 ∧ x2.length ≤ 1000 ∧ a3 < 0) ∨ (x1.length ≤ 1000 ∧ x2.length ≤ 1000 ∧ 0 ≤ a3 ∧ 100 < a3) by omega) with ⟨g1, g2, g3, g4⟩ | g1 | ⟨g1, g2⟩ | ⟨g1, g2, g3⟩ | ⟨g1, g2, g3, g4⟩
  · have f1 : (1000 < (x1.length : Int)) = False := eq_false (by omega)
    have f2 : (1000 < (x2.length : Int)) = False := eq_false (by omega)
    have f3 : (a3 < 0) = False := eq_false (by omega)
    have f4 : (100 < a3) = False := eq_false (by omega)
    obtain ⟨z, rfl⟩ : ∃ n : Nat, a3 = n := ⟨a3.toNat, by omega⟩
    have hA : crcI a0 (x1 ++ x2) = crcI (crcI a0 x1) x2 := crcI_append _ _ _
    have hB : crcI 0 (List.replicate z 0 ++ x1) = crcI 0 x1 := crcI_zeros z x1
    have d1 := crcI_bd (s := a0) b0.1 (by omega) r1.rd.2.2
    have N1 := next_at (s := a0) b0.1 (by omega) (xs := x1) rfl (by omega) rfl
    have N2 := next_at d1.1 d1.2 (xs := x2) rfl (by omega) rfl
    have N3 := next_at (s := a0) (xs := x1 ++ x2) (len := x1.length + x2.length) b0.1 (by omega) (by simp) (by omega) hA
    have N4 := sum_at (xs := x1) rfl (by omega) rfl
    have N5 := sum_at (xs := List.replicate z 0 ++ x1) (len := z + x1.length) (by simp) (by omega) hB
    generalize crcI (crcI a0 x1) x2 = y at *
    generalize crcI a0 x1 = p at *
    generalize crcI 0 x1 = q at *
    have O1 := OwnI.lit (k := .u8) w w.heap.size 5 [] (Nat.le_refl _) (by decide)
    have hwf : ∀ x ∈ x1 ++ x2, (Lit.int .u8 x).wf = true := by
      intro x hx
      rcases List.mem_append.1 hx with hx | hx
      · exact r1.rd.2.2 x hx
      · exact r2.rd.2.2 x hx
    have hwf2 : ∀ x ∈ List.replicate z 0 ++ x1, (Lit.int .u8 x).wf = true := by
      intro x hx
      rcases List.mem_append.1 hx with hx | hx
      · exact wf_zeros z x hx
      · exact r1.rd.2.2 x hx
    have hlen : (x1 ++ x2).length = x1.length + x2.length := by simp
    have hlen2 : (List.replicate z (0 : Int) ++ x1).length = z + x1.length := by simp
    have HL := hid hlen
    have HL2 := hid hlen2
    have hzl := List.length_replicate (n := z) (a := (0 : Int))
    clear hlen hlen2 hA hB d1 b0
    go_enter Try.func6, Try.ntmps6
    go_wp2_with (first  | ((with_reducible refine (N1.out _ _ _ r1).mono ?_); rintro e w' ⟨rfl, rfl⟩)  | ((with_reducible refine (N2.out _ _ _ r2).mono ?_); rintro e w' ⟨rfl, rfl⟩)  | (at_builtin; refine appN rfl (.tmp 50) (.tmp 51) 28 rfl w.heap.size 5 i0 (.int .u8 0) 1 Try.underlying28 hi hz0 hz1 hz2 rfl .u8 _ _ O1 a1 x1.length c1 x1 (r1.same (below1 _ _)).rd r1.hl rfl rfl (by simp) (by simp; omega) (by simp; omega) ?_; intro v1 w1 o1 g1w hb1; rw [List.nil_append] at o1; replace hb1 := (below1 w _).trans hb1)  | (at_builtin; refine appN rfl (.tmp 52) (.tmp 53) 28 rfl w.heap.size 5 i0 (.int .u8 0) 1 Try.underlying28 hi hz0 hz1 hz2 rfl .u8 _ _ o1 a2 x2.length c2 x2 (r2.same hb1).rd r2.hl rfl rfl hb1.size (by omega) (by omega) ?_; intro v2 w2 o2 g2w hb2; replace hb2 := hb1.trans hb2; obtain ⟨a', cap', rfl, hrow⟩ := o2.row hwf; rw [HL.out] at hrow; have r1' := r1.same hb2; clear o1 g1w g2w o2)  | ((with_reducible refine (N3.out _ _ _ hrow).mono ?_); rintro e w' ⟨rfl, rfl⟩)  | ((with_reducible refine (N4.out _ _ _ r1').mono ?_); rintro e w' ⟨rfl, rfl⟩)  | (at_make; refine makeI rfl _ _ 28 rfl w2.heap.size 5 i0 1 .u8 Try.underlying28 hi hz0 hz1 hz2 z z rfl rfl rfl (by omega) (by omega) (Nat.le_refl _) ?_; intro w3 o3 gr3 hb3 s3)  | (at_builtin; refine appN rfl (.tmp 65) (.tmp 66) 28 rfl w2.heap.size 5 i0 (.int .u8 0) 1 Try.underlying28 hi hz0 hz1 hz2 rfl .u8 _ _ o3 a1 x1.length c1 x1 (r1'.same hb3).rd r1.hl rfl rfl hb3.size (by rw [hzl]; omega) (by rw [hzl]; omega) ?_; intro v4 w4 o4 g4w hb4; replace hb4 := hb3.trans hb4; obtain ⟨a5, cap5, rfl, hrow5⟩ := o4.row hwf2; rw [HL2.out] at hrow5; clear o3 gr3 o4 g4w)  | ((with_reducible refine (N5.out _ _ _ hrow5).mono ?_); rintro e w' ⟨rfl, rfl⟩)  | ((with_reducible refine (alive_any _).mono ?_); rintro e w' ⟨rfl, hbA⟩))
    go_ret
    have hF := hb2.trans (hb4.mono hb2.size)
    exact ⟨rfl, hF.trans (hbA.mono hF.size)⟩
  · have f1 : (1000 < (x1.length : Int)) = True := eq_true (by omega)
    go_enter Try.func6, Try.ntmps6
    go_wp2_with ((with_reducible refine (alive_any _).mono ?_); rintro e w' ⟨rfl, hbA⟩)
    go_ret
    exact ⟨rfl, hbA⟩
  · have f1 : (1000 < (x1.length : Int)) = False := eq_false (by omega)
    have f2 : (1000 < (x2.length : Int)) = True := eq_true (by omega)
    go_enter Try.func6, Try.ntmps6
    go_wp2_with ((with_reducible refine (alive_any _).mono ?_); rintro e w' ⟨rfl, hbA⟩)
    go_ret
    exact ⟨rfl, hbA⟩
  · have f1 : (1000 < (x1.length : Int)) = False := eq_false (by omega)
    have f2 : (1000 < (x2.length : Int)) = False := eq_false (by omega)
    have f3 : (a3 < 0) = True := eq_true (by omega)
    go_enter Try.func6, Try.ntmps6
    go_wp2_with ((with_reducible refine (alive_any _).mono ?_); rintro e w' ⟨rfl, hbA⟩)
    go_ret
    exact ⟨rfl, hbA⟩
  · have f1 : (1000 < (x1.length : Int)) = False := eq_false (by omega)
    have f2 : (1000 < (x2.length : Int)) = False := eq_false (by omega)
    have f3 : (a3 < 0) = False := eq_false (by omega)
    have f4 : (100 < a3) = True := eq_true (by omega)
    go_enter Try.func6, Try.ntmps6
    go_wp2_with ((with_reducible refine (alive_any _).mono ?_); rintro e w' ⟨rfl, hbA⟩)
    go_ret
    exact ⟨rfl, hbA⟩
end Go.Proofs.Ytpbignknpccpkaa.Wk

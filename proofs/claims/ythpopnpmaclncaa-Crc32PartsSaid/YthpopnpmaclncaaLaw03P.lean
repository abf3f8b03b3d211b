/- The law Crc32Parts. -/
import Derived.Test.YthpopnpmaclncaaLaw03
namespace Go.Proofs.Ythpopnpmaclncaa.Wk
open Go.RowKit Go.Proofs.Ythpopnpmaclncaa.Kit Go.Proofs.Ythpopnpmaclncaa.M03 Go.Proofs.Ythpopnpmaclncaa.Cr Go.Proofs.Ythpopnpmaclncaa.R03
set_option linter.unusedVariables false

set_option maxHeartbeats 4000000 in
set_option maxRecDepth 100000 in
theorem crc32Parts_walk (a0 : Int) (a1 : Option Addr) (l1 c1 : Nat) (x1 : List Int) (a2 : Option Addr) (l2 c2 : Nat) (x2 : List Int) (w : World) (b0 : 0 ≤ a0 ∧ a0 ≤ 4294967295) (r1 : RowIn .u8 w a1 l1 c1 x1) (r2 : RowIn .u8 w a2 l2 c2 x2) :
    Calls Try.prog 6 #[.int .u32 a0, .slice a1 l1 c1, .slice a2 l2 c2] w fun e w' => e = .returned (.bool true) ∧ Below w.heap.size w w' := by
  obtain ⟨i0, hi, hz0, hz1, hz2⟩ := info_parts info_u8
  have h1 := r1.hl
  have h2 := r2.hl
  have h3 := r1.hm
  subst h1 h2
  rcases (show (x1.length ≤ 1000 ∧ x2.length ≤ 1000) ∨ 1000 < x1.length ∨ (x1.length ≤ 1000 ∧ 1000 < x2.length) by omega) with ⟨g1, g2⟩ | g1 | ⟨g1, g2⟩
  · have f1 : (1000 < (x1.length : Int)) = False := eq_false (by omega)
    have f2 : (1000 < (x2.length : Int)) = False := eq_false (by omega)
    have hA : crcI a0 (x1 ++ x2) = crcI (crcI a0 x1) x2 := crcI_append _ _ _
    have hB : crcI 4294967295 (x1 ++ x2) = crcI (crcI 4294967295 x1) x2 := crcI_append _ _ _
    have d1 := crcI_bd (s := a0) b0.1 (by omega) r1.rd.2.2
    have d2 := crcI_bd (s := 4294967295) (by omega) (by omega) r1.rd.2.2
    have d3 := crcI_bd d2.1 d2.2 r2.rd.2.2
    have N1 := next_at (s := a0) b0.1 (by omega) (xs := x1) rfl (by omega) rfl
    have N2 := next_at d1.1 d1.2 (xs := x2) rfl (by omega) rfl
    have N3 := next_at (s := a0) (xs := x1 ++ x2) (len := x1.length + x2.length) b0.1 (by omega) (by simp) (by omega) hA
    have N4 := next_at (s := 4294967295) (by omega) (by omega) (xs := x1) rfl (by omega) rfl
    have N5 := next_at d2.1 d2.2 (xs := x2) rfl (by omega) rfl
    have N6 := sum_at (xs := x1 ++ x2) (len := x1.length + x2.length) (by simp) (by omega) hB
    generalize crcI (crcI a0 x1) x2 = y at *
    generalize crcI (crcI 4294967295 x1) x2 = z at *
    generalize crcI a0 x1 = p at *
    generalize crcI 4294967295 x1 = q at *
    have O1 := OwnI.lit (k := .u8) w w.heap.size 5 [] (Nat.le_refl _) (by decide)
    have hwf : ∀ x ∈ x1 ++ x2, (Lit.int .u8 x).wf = true := by
      intro x hx
      rcases List.mem_append.1 hx with hx | hx
      · exact r1.rd.2.2 x hx
      · exact r2.rd.2.2 x hx
    have hlen : (x1 ++ x2).length = x1.length + x2.length := by simp
    have HL := hid hlen
    clear hlen hA hB d1 d2 b0
    go_enter Try.func6, Try.ntmps6
    go_wp2_with (first  | (at_builtin; refine appN rfl (.tmp 29) (.tmp 30) 28 rfl w.heap.size 5 i0 (.int .u8 0) 1 Try.underlying28 hi hz0 hz1 hz2 rfl .u8 _ _ O1 a1 x1.length c1 x1 (r1.same (below1 _ _)).rd r1.hl rfl rfl (by simp) (by simp; omega) (by simp; omega) ?_; intro v1 w1 o1 g1w hb1; rw [List.nil_append] at o1; replace hb1 := (below1 w _).trans hb1)  | (at_builtin; refine appN rfl (.tmp 31) (.tmp 32) 28 rfl w.heap.size 5 i0 (.int .u8 0) 1 Try.underlying28 hi hz0 hz1 hz2 rfl .u8 _ _ o1 a2 x2.length c2 x2 (r2.same hb1).rd r2.hl rfl rfl hb1.size (by omega) (by omega) ?_; intro v2 w2 o2 g2w hb2; replace hb2 := hb1.trans hb2; obtain ⟨a', cap', rfl, hrow⟩ := o2.row hwf; rw [HL.out] at hrow; have r1' := r1.same hb2; have r2' := r2.same hb2)  | ((with_reducible refine (N1.out _ _ _ r1').mono ?_); rintro e w' ⟨rfl, rfl⟩)  | ((with_reducible refine (N2.out _ _ _ r2').mono ?_); rintro e w' ⟨rfl, rfl⟩)  | ((with_reducible refine (N3.out _ _ _ hrow).mono ?_); rintro e w' ⟨rfl, rfl⟩)  | ((with_reducible refine (N4.out _ _ _ r1').mono ?_); rintro e w' ⟨rfl, rfl⟩)  | ((with_reducible refine (N5.out _ _ _ r2').mono ?_); rintro e w' ⟨rfl, rfl⟩)  | ((with_reducible refine (N6.out _ _ _ hrow).mono ?_); rintro e w' ⟨rfl, rfl⟩)  | ((with_reducible refine (alive_any _).mono ?_); rintro e w' ⟨rfl, hbA⟩))

    go_ret
    exact ⟨rfl, hb2.trans (hbA.mono hb2.size)⟩
  · have f1 : (1000 < (x1.length : Int)) = True := eq_true (by omega)
    go_enter Try.func6, Try.ntmps6
    go_wp2_with ((with_reducible refine (alive_any _).mono ?_); rintro e w' ⟨rfl, hbA⟩)
    go_ret
    exact ⟨rfl, hbA⟩
  · have f1 : (1000 < (x1.length : Int)) = False := eq_false (by omega)
    have f2 : (1000 < (x2.length : Int)) = True := eq_true (by omega)
    go_enter Try.func6, Try.ntmps6
    go_wp2_with ((with_reducible refine (alive_any _).mono ?_); rintro e w' ⟨rfl, hbA⟩)
    go_ret
    exact ⟨rfl, hbA⟩
end Go.Proofs.Ythpopnpmaclncaa.Wk

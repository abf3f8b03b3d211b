/- The law Crc32Table. -/
import Derived.Test.YthpopnpmaclncaaLaw03
namespace Go.Proofs.Ythpopnpmaclncaa.Wk
open Go.RowKit Go.Proofs.Ythpopnpmaclncaa.Kit Go.Proofs.Ythpopnpmaclncaa.M03 Go.Proofs.Ythpopnpmaclncaa.Cr Go.Proofs.Ythpopnpmaclncaa.R03
set_option linter.unusedVariables false

theorem table_way {s x : Int} (h : 0 ≤ s) (h2 : s < 4294967296) (hx : 0 ≤ x) (hx2 : x < 256) :
    ∃ j : Nat, j < 256 ∧ bits .xor .u8 (s % 256) x = (j : Int) ∧ bits .xor .u32 (s / 256) (behI 0 (j : Int)) = behI s x := by
  have hj : (s % 256).toNat ^^^ x.toNat < 2 ^ 8 := Nat.xor_lt_two_pow (by omega) (by omega)
  refine ⟨_, hj, xor_u8 (by omega) (by omega) hx hx2, ?_⟩
  have hb := behI_bd (s := 0) (x := (((s % 256).toNat ^^^ x.toNat : Nat) : Int)) (by omega) (by omega) (by omega) (by omega)
  rw [xor_u32 (by omega) (by omega) hb.1 hb.2]
  unfold behI
  rw [beh_table PO (show x.toNat < 256 by omega), show (s / 256).toNat = s.toNat / 256 by omega, show (s % 256).toNat = s.toNat % 256 by omega]
  simp only [Int.toNat_natCast, beh, Int.toNat_zero, Nat.zero_xor]

set_option maxHeartbeats 4000000 in
theorem crc32Table_walk (a0 : Int) (a1 : Int) (w : World) (b0 : 0 ≤ a0 ∧ a0 ≤ 4294967295) (b1 : 0 ≤ a1 ∧ a1 ≤ 255) :
    Calls Try.prog 8 #[.int .u32 a0, .int .u8 a1] w fun e w' => e = .returned (.bool true) ∧ Below w.heap.size w w' := by
  obtain ⟨j, hj, hx, hv⟩ := table_way b0.1 (by omega) b1.1 (show a1 < 256 by omega)
  have hbd := behI_bd b0.1 (by omega) b1.1 (show a1 < 256 by omega)
  have T := table_any w
  have O2 := fun w' : World => litMark (k := .u8) w' 5 [a1] 1 #[.int .u8 a1] (0, 0) rfl rfl (by simp [maxLen]) (by intro x hx; simp only [List.mem_singleton] at hx; subst hx; simp [Lit.wf, IntKind.min, IntKind.max, IntKind.signed, IntKind.bits]; omega)
  have S2 := fun w' : World => next_any a0 _ _ _ [a1] _ (O2 w') b0.1 (by omega)
  simp only [show nxN a0 [a1] = behI a0 a1 from rfl, show nxE [a1] = 0 from rfl] at S2
  have hjn : ((j : Int)).toNat = j := by omega
  have hjl : ((j : Int) < 256) = True := eq_true (by omega)
  generalize hY : behI 0 (j : Int) = y at *
  generalize behI a0 a1 = z at *
  clear O2
  go_enter Try.func8, Try.ntmps8
  go_wp2_with (first  | ((with_reducible refine T.mono ?_); rintro e w3 ⟨a, rfl, ho, hb⟩; have c0 := ho.cell j (by rw [tbl_length]; exact hj); rw [tbl_get hj, hY] at c0; have g0 := ho.base; clear ho T)  | ((with_reducible refine (S2 _).mono ?_); rintro e w' ⟨rfl, rfl⟩; have cA := (below1 w3 (.cells #[.int .u8 a1] 5)).cell (p := ⟨a, j, none⟩) g0.2; rw [c0] at cA)  | ((with_reducible refine (alive_any _).mono ?_); rintro e w' ⟨rfl, hbA⟩))

  go_ret
  have z1 := hb.size
  exact ⟨rfl, (hb.trans ((below1 w3 _).mono z1)).trans (hbA.mono (by simp; omega))⟩
end Go.Proofs.Ythpopnpmaclncaa.Wk

/- The law Crc64Table. -/
import Derived.Test.YtpbignknpccpkaaLaw04
namespace Go.Proofs.Ytpbignknpccpkaa.Wk
open Go.RowKit Go.Proofs.Ytpbignknpccpkaa.Kit Go.Proofs.Ytpbignknpccpkaa.M04 Go.Proofs.Ytpbignknpccpkaa.Cr6 Go.Proofs.Ytpbignknpccpkaa.R04
open Go.Proofs.Ytpbignknpccpkaa.M03 (xor_u8)
set_option linter.unusedVariables false

theorem table_way {s x : Int} (h : 0 ≤ s) (h2 : s < 18446744073709551616) (hx : 0 ≤ x) (hx2 : x < 256) :
    ∃ j : Nat, j < 256 ∧ bits .xor .u8 (s / 72057594037927936) x = (j : Int) ∧ bits .xor .u64 (IntKind.u64.wrap (256 * s)) (behI 0 (j : Int)) = behI s x := by
  have hj : (s / 72057594037927936).toNat ^^^ x.toNat < 2 ^ 8 := Nat.xor_lt_two_pow (by omega) (by omega)
  refine ⟨_, hj, xor_u8 (by omega) (by omega) hx hx2, ?_⟩
  have hb := behI_bd (s := 0) (x := (((s / 72057594037927936).toNat ^^^ x.toNat : Nat) : Int)) (by omega) (by omega) (by omega) (by omega)
  have hw : IntKind.u64.wrap (256 * s) = (256 * s) % 18446744073709551616 := by rw [IntKind.wrap_u64]
  rw [hw, xor_u64 (by omega) (by omega) hb.1 hb.2]
  unfold behI
  rw [beh_table (show s.toNat < 2 ^ 64 by omega), show (s / 72057594037927936).toNat = s.toNat / 2 ^ 56 by omega, show ((256 * s) % 18446744073709551616).toNat = 2 ^ 8 * (s.toNat % 2 ^ 56) by omega]
  simp only [Int.toNat_natCast, beh, Int.toNat_zero, Nat.zero_xor]

set_option maxHeartbeats 4000000 in
theorem crc64Table_walk (a0 : Int) (a1 : Int) (w : World) (b0 : 0 ≤ a0 ∧ a0 ≤ 18446744073709551615) (b1 : 0 ≤ a1 ∧ a1 ≤ 255) :
    Calls Try.prog 8 #[.int .u64 a0, .int .u8 a1] w fun e w' => e = .returned (.bool true) ∧ Below w.heap.size w w' := by
  obtain ⟨j, hj, hx, hv⟩ := table_way b0.1 (by omega) b1.1 (show a1 < 256 by omega)
  have hbd := behI_bd b0.1 (by omega) b1.1 (show a1 < 256 by omega)
  have T := table_any w
  have O2 := fun w' : World => litMark (k := .u8) w' 5 [a1] 1 #[.int .u8 a1] (0, 0) rfl rfl (by simp [maxLen]) (by intro x hx; simp only [List.mem_singleton] at hx; subst hx; simp [Lit.wf, IntKind.min, IntKind.max, IntKind.signed, IntKind.bits]; omega)
  have S2 := fun w' : World => next_any a0 _ _ _ [a1] _ (O2 w') b0.1 (by omega)
  have S3 := fun w' : World => sum_any _ _ _ [a1] _ (O2 w')
  simp only [show nxN a0 [a1] = behI a0 a1 from rfl, show nxE [a1] = 0 from rfl] at S2
  simp only [show nxN 0 [a1] = behI 0 a1 from rfl, show nxE [a1] = 0 from rfl] at S3
  have hjn : ((j : Int)).toNat = j := by omega
  have hjl : ((j : Int) < 256) = True := eq_true (by omega)
  obtain ⟨n, rfl⟩ : ∃ n : Nat, a1 = n := ⟨a1.toNat, by omega⟩
  have hnl : n < 256 := by omega
  have hnl2 : ((n : Int) < 256) = True := eq_true (by omega)
  generalize hY : behI 0 (j : Int) = y at *
  generalize hY2 : behI 0 (n : Int) = y2 at *
  generalize behI a0 n = z at *
  clear O2
  go_enter Try.func8, Try.ntmps8
  go_wp2_with (first  | ((with_reducible refine T.mono ?_); rintro e w3 ⟨a, rfl, ho, hb⟩; have c0 := ho.cell j (by rw [tbl_length]; exact hj); rw [tbl_get hj, hY] at c0; have d0 := ho.cell n (by rw [tbl_length]; exact hnl); rw [tbl_get hnl, hY2] at d0; have g0 := ho.base; clear ho T)  | ((with_reducible refine (S2 _).mono ?_); rintro e w' ⟨rfl, rfl⟩; have hB := below2 w3 (.cells #[.int .u8 n] 5) (.cells #[.int .u8 n] 5); have cA := hB.cell (p := ⟨a, j, none⟩) g0.2; rw [c0] at cA; have dA := hB.cell (p := ⟨a, n, none⟩) g0.2; rw [d0] at dA; clear c0 d0 S2; have S4 := S3 (w3.alloc (.cells #[.int .u8 n] 5)); simp only [World.size_alloc] at S4; clear S3)  | ((with_reducible refine S4.mono ?_); rintro e w' ⟨rfl, rfl⟩)  | ((with_reducible refine (alive_any _).mono ?_); rintro e w' ⟨rfl, hbA⟩))
  go_ret
  have z1 := hb.size
  exact ⟨rfl, (hb.trans (hB.mono z1)).trans (hbA.mono (by simp; omega))⟩
end Go.Proofs.Ytpbignknpccpkaa.Wk

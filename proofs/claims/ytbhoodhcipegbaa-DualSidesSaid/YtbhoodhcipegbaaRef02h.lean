/- More of what the reference's functions of layer 2 return: numbers put behind bits, and read. -/
import Derived.Test.YtbhoodhcipegbaaRef06
import Derived.Test.YtbhoodhcipegbaaMath07
namespace Go.Proofs.Ytbhoodhcipegbaa.R02
open Go.Proofs Go.RowKit Go.Proofs.Ytbhoodhcipegbaa.Kit Go.Proofs.Ytbhoodhcipegbaa.M01 Go.Proofs.Ytbhoodhcipegbaa.M02 Go.Proofs.Ytbhoodhcipegbaa.M06 Go.Proofs.Ytbhoodhcipegbaa.M07 Go.Proofs.Ytbhoodhcipegbaa.Bt Go.Proofs.Ytbhoodhcipegbaa.R06
set_option linter.unusedVariables false

theorem num_lt {V v n i : Int} (hn : 0 ≤ n) (hi : 0 ≤ i) (h0 : 0 ≤ V) (h1 : V < p2 n) : 0 ≤ V + (v % p2 i) * p2 n ∧ V + (v % p2 i) * p2 n < p2 (n + i) := by
  have hq := p2_pos n
  have hm := emod_bd v i
  have := Int.mul_nonneg hm.1 (show 0 ≤ p2 n by omega)
  exact ⟨by omega, join_lt hn hi h1 hm.2⟩

theorem num_step {V v n i : Int} (hn : 0 ≤ n) (hi : 0 ≤ i) : V + (v % p2 i) * p2 n + (v / p2 i % 2) * p2 (n + i) = V + (v % p2 (i + 1)) * p2 n := by
  rw [mod_p2_succ v hi, p2_add hn hi, Int.add_mul, Int.mul_assoc (v / p2 i % 2), Int.mul_comm (p2 n) (p2 i)]; omega

set_option maxHeartbeats 4000000 in
theorem number_any (a : Option Addr) (len cap base : Nat) (n V v m : Int) (w : World) (hown : OwnI .u8 w base 5 (.slice a len cap) (bl n V)) (hbase : base ≤ w.heap.size) (hn : 0 ≤ n) (hm0 : 0 ≤ m) (hm : m ≤ 64) (hn1 : n ≤ 330000) (h0 : 0 ≤ V) (h1 : V < p2 n) (hv0 : 0 ≤ v) (hv : v ≤ 18446744073709551615) :
    Calls Try.prog 64 #[bv a len cap n, .int .u64 v, .int .i64 m] w fun e w' => ∃ a' len' cap', e = .returned (bv a' len' cap' (n + m)) ∧ OwnI .u8 w' base 5 (.slice a' len' cap') (bl (n + m) (V + (v % p2 m) * p2 n)) ∧ Below base w w' ∧ KeepT 5 w w' := by
  have k0 := blk2a w (.cells #[.slice a len cap, .int .i64 n] 24) (.cells #[.slice none 0 0, .int .i64 0] 24)
  have k1 := blk2 w (.cells #[.slice a len cap, .int .i64 n] 24) (.cells #[.slice none 0 0, .int .i64 0] 24)
  have hbe := below2 w (.cells #[.slice a len cap, .int .i64 n] 24) (.cells #[.slice none 0 0, .int .i64 0] 24)
  have hsz := size2 w (.cells #[.slice a len cap, .int .i64 n] 24) (.cells #[.slice none 0 0, .int .i64 0] 24)
  have o1 := hown.below hbe
  have hbw : Below base w _ := hbe.mono hbase
  have hkw : KeepT 5 w _ := KeepT.of_below hbe
  obtain ⟨B, eB⟩ : ∃ B, w.heap.size = B := ⟨_, rfl⟩
  unfold bv
  rw [eB] at k0 k1 hsz hbase
  go_enter Try.func64, Try.ntmps64
  go_wp2
  clear hown hbe
  generalize ((w.alloc (.cells #[.slice a len cap, .int .i64 n] 24)).alloc (.cells #[.slice none 0 0, .int .i64 0] 24)) = w1 at *
  go_loopw [1, 7] (fun u s wr => ∃ i : Int, 0 ≤ i ∧ i ≤ m ∧ u = .int .u64 (v / p2 i) ∧ s = .int .i64 i ∧ ∃ a' len' cap', wr.heap[B]? = some (.cells #[.slice a' len' cap', .int .i64 (n + i)] 24) ∧ wr.heap[B + 1]? = some (.cells #[.slice none 0 0, .int .i64 0] 24) ∧
    OwnI .u8 wr base 5 (.slice a' len' cap') (bl (n + i) (V + (v % p2 i) * p2 n)) ∧ Below base w wr ∧ KeepT 5 w wr) (fun _ s _ => (m - intOf s).toNat)
  case atStart => exact ⟨0, Int.le_refl _, hm0, by rw [p2_zero, Int.ediv_one], rfl, a, len, cap, by rw [Int.add_zero]; exact k0, k1, by rw [Int.add_zero, p2_zero, Int.emod_one, Int.zero_mul, Int.add_zero]; exact o1, hbw, hkw⟩
  case round =>
    clear k0 k1 o1 hbw hsz hkw
    obtain ⟨i, hi0, him, rfl, rfl, a', len', cap', k0, k1, howN, hbr, hkr⟩ := hrel
    have hsr : B + 1 < wr.heap.size := (Array.getElem?_eq_some_iff.1 k1).1
    obtain ⟨c0, c1, c2, c3⟩ := Box2.of k0
    have hlo := num_lt (v := v) hn hi0 h0 h1
    by_cases hlt : i < m
    · have hnew := num_step (V := V) (v := v) hn hi0
      obtain ⟨W, hW⟩ : ∃ W, V + (v % p2 i) * p2 n = W := ⟨_, rfl⟩
      rw [hW] at howN hnew hlo
      have hpi := p2_pos i
      have hx0 : 0 ≤ v / p2 i := Int.ediv_nonneg hv0 (by omega)
      have hx1 : v / p2 i ≤ v := Int.ediv_le_self _ hv0
      have hd := div_succ v hi0
      obtain ⟨X, hX⟩ : ∃ X, v / p2 i = X := ⟨_, rfl⟩
      obtain ⟨Y, hY⟩ : ∃ X, v / p2 (i + 1) = X := ⟨_, rfl⟩
      rw [hX] at hnew hx0 hx1 hd ⊢
      rw [hY] at hd
      have hAdd := add_any a' len' cap' base (n + i) W (X % 2) wr howN (by omega) (by omega) (by omega) hlo.1 hlo.2 (by omega)
      unfold bv at hAdd
      rw [hnew, show n + i + 1 = n + (i + 1) by omega] at hAdd
      clear hnew hW hlo howN hX
      go_wp2_with (go_at_call 65; refine hAdd.mono ?_; rintro e w6 ⟨a2, len2, cap2, rfl, HO2, hb6, hk6⟩; have K0 := hk6 B _ _ k0 (by decide); have K1 := hk6 (B + 1) _ _ k1 (by decide); obtain ⟨y0, y1, y2, y3⟩ := Box2.of K0)
      go_roundw
      case rel =>
        have q1 := heap_setCell_same w6 B 0 _ _ (.slice a2 len2 cap2) K0
        have q2 := heap_setCell_same _ B 1 _ _ (.int .i64 (n + (i + 1))) q1
        have p1 := (Below.heap_setCell w6 ⟨B, 0, none⟩ (.slice a2 len2 cap2) (B + 1) (by simp)).trans K1
        have p2 := (Below.heap_setCell _ ⟨B, 1, none⟩ (.int .i64 (n + (i + 1))) (B + 1) (by simp)).trans p1
        have hne := own_ne HO2 K0
        exact ⟨i + 1, by omega, by omega, by rw [hY]; go_num, by go_num, a2, len2, cap2, q2, p2, (HO2.other hne).other hne, ((hbr.trans hb6).setCell (by dsimp only; omega) _).setCell (by dsimp only; omega) _, ((hkr.trans hk6).setNew (by omega) _ _).setNew (by omega) _ _⟩
      case measure => simp [intOf]; omega
    · obtain rfl : i = m := by omega
      obtain ⟨r0, r1, r2, r3⟩ := Box2.of k1
      obtain ⟨W, hW⟩ : ∃ W, V + (v % p2 i) * p2 n = W := ⟨_, rfl⟩
      rw [hW] at howN
      have HW := hid hW
      clear hlo hW
      go_wp2
      refine bodyPost_ret_by (v := .agg #[.slice a' len' cap', .int .i64 (n + i)]) (by rw [results_cell1 rfl]; go_simp) rfl ?_
      have hne1 := own_ne howN k1
      rw [HW.out]
      exact ⟨_, _, _, rfl, (howN.other hne1).other hne1, (hbr.setCell (by dsimp only; omega) _).setCell (by dsimp only; omega) _, (hkr.setNew (by omega) _ _).setNew (by omega) _ _⟩

theorem value_step {A p m j : Int} (hp : 0 ≤ p) (hj : 0 ≤ j) (hjm : j < m) : 2 * (A / p2 (p + (j + 1)) % p2 (m - (j + 1))) + A / p2 (p + j) % 2 = A / p2 (p + j) % p2 (m - j) := by
  have h := mod_split (A / p2 (p + j)) (show (0 : Int) ≤ 1 by omega) (show 0 ≤ m - (j + 1) by omega)
  rw [show (1 : Int) + (m - (j + 1)) = m - j by omega, show p2 1 = 2 from rfl, div_succ A (show 0 ≤ p + j by omega), show p + j + 1 = p + (j + 1) by omega] at h
  omega

set_option maxHeartbeats 4000000 in
theorem value_any (a : Option Addr) (len cap : Nat) (xs : List Int) (n p m : Int) (w : World) (hr : RowIn .u8 w a len cap xs) (hp : 0 ≤ p) (hm0 : 0 ≤ m) (hm : m ≤ 64) (hpm : p + m ≤ 8 * len) (hl : len ≤ 50000) :
    Calls Try.prog 67 #[bv a len cap n, .int .i64 p, .int .i64 m] w fun e w' => e = .returned (.int .u64 (val xs / p2 p % p2 m)) ∧ Below w.heap.size w w' := by
  have hA := fun i w' (hb : Below w.heap.size w w') h1 h2 => at_any a len cap xs n i w' (hr.same hb) h1 h2 hl
  have b0 := Box2.of (blk1 w (.cells #[.slice a len cap, .int .i64 n] 24))
  have hbe := below1 w (.cells #[.slice a len cap, .int .i64 n] 24)
  have hsz := size1 w (.cells #[.slice a len cap, .int .i64 n] 24)
  unfold bv at hA ⊢
  go_enter Try.func67, Try.ntmps67
  go_wp2
  generalize w.alloc (.cells #[.slice a len cap, .int .i64 n] 24) = w1 at *
  go_loopw [7, 8] (fun u s wr => ∃ j : Int, 0 ≤ j ∧ j ≤ m ∧ u = .int .u64 (val xs / p2 (p + j) % p2 (m - j)) ∧ s = .int .i64 (j - 1) ∧ Box2 wr w.heap.size (.slice a len cap) (.int .i64 n) ∧ Below w.heap.size w wr ∧ w.heap.size < wr.heap.size) (fun _ s _ => (intOf s + 1).toNat)
  case atStart => exact ⟨m, hm0, Int.le_refl _, by rw [Int.sub_self, p2_zero, Int.emod_one], rfl, b0, hbe, by omega⟩
  case round =>
    obtain ⟨j, hj0, hjm, rfl, rfl, ⟨c0, c1, c2, c3⟩, hbr, hsr⟩ := hrel
    clear b0 hbe hsz
    by_cases hz : j = 0
    · subst hz
      rw [Int.add_zero, Int.sub_zero]
      obtain ⟨R, hR⟩ : ∃ R, val xs / p2 p % p2 m = R := ⟨_, rfl⟩
      rw [hR]
      have HR := hid hR
      clear hA hR
      go_wp2
      go_ret
      exact ⟨by rw [HR.out]; rfl, hbr⟩
    · obtain ⟨i, rfl⟩ : ∃ i, j = i + 1 := ⟨j - 1, by omega⟩
      have hs := value_step (A := val xs) hp (show 0 ≤ i by omega) (show i < m by omega)
      have hcall := hA (p + i) wr hbr (by omega) (by omega)
      have hb1 := emod_bd (val xs / p2 (p + i)) (m - i)
      have hb2 := emod_bd (val xs / p2 (p + (i + 1))) (m - (i + 1))
      have h64 := p2_le64 (show m - i ≤ 64 by omega)
      have hbit : 0 ≤ val xs / p2 (p + i) % 2 ∧ val xs / p2 (p + i) % 2 ≤ 1 := by omega
      obtain ⟨Y, hY⟩ : ∃ Y, val xs / p2 (p + i) % p2 (m - i) = Y := ⟨_, rfl⟩
      obtain ⟨Z, hZ⟩ : ∃ Y, val xs / p2 (p + (i + 1)) % p2 (m - (i + 1)) = Y := ⟨_, rfl⟩
      obtain ⟨β, hβ⟩ : ∃ Y, val xs / p2 (p + i) % 2 = Y := ⟨_, rfl⟩
      rw [hY] at hs hb1
      rw [hZ] at hs hb2 ⊢
      rw [hβ] at hs hcall hbit
      clear hA hβ hZ
      obtain rfl : Y = 2 * Z + β := hs.symm
      rw [show i + 1 - 1 = i by omega]
      go_wp2_with (go_at_call 47; refine hcall.mono ?_; rintro e w6 ⟨rfl, hb6⟩)
      go_roundw
      case rel => exact ⟨i, by omega, by omega, by rw [hY], by go_num, (Box2.mk c0 c1 c2 c3).below hb6 hsr, hbr.trans (hb6.mono hbr.size), Nat.lt_of_lt_of_le hsr hb6.size⟩
      case measure => simp [intOf]; omega
end Go.Proofs.Ytbhoodhcipegbaa.R02

/- More of what the reference's functions of layer 2 return: numbers put behind bits, and read. What the reference's functions of layer 7 return: walks of their Go text. What the reference's Write and Read of layer 7 return: walks of their Go text. -/
import Derived.Test.YtmnhepcnbdbhoaaRef06
import Derived.Test.YtmnhepcnbdbhoaaGM
import Derived.Test.YtmnhepcnbdbhoaaRice
namespace Go.Proofs.Ytmnhepcnbdbhoaa.R02
open Go.Proofs Go.RowKit Go.Proofs.Ytmnhepcnbdbhoaa.Kit Go.Proofs.Ytmnhepcnbdbhoaa.M01 Go.Proofs.Ytmnhepcnbdbhoaa.M02 Go.Proofs.Ytmnhepcnbdbhoaa.M06 Go.Proofs.Ytmnhepcnbdbhoaa.M07 Go.Proofs.Ytmnhepcnbdbhoaa.Bt Go.Proofs.Ytmnhepcnbdbhoaa.R06
set_option linter.unusedVariables false

theorem num_lt {V v n i : Int} (hn : 0 ≤ n) (hi : 0 ≤ i) (h0 : 0 ≤ V) (h1 : V < p2 n) : 0 ≤ V + (v % p2 i) * p2 n ∧ V + (v % p2 i) * p2 n < p2 (n + i) := by
  have hq := p2_pos n
  have hm := emod_bd v i
  have := Int.mul_nonneg hm.1 (show 0 ≤ p2 n by omega)
  exact ⟨by omega, join_lt hn hi h1 hm.2⟩

theorem num_step {V v n i : Int} (hn : 0 ≤ n) (hi : 0 ≤ i) : V + (v % p2 i) * p2 n + (v / p2 i % 2) * p2 (n + i) = V + (v % p2 (i + 1)) * p2 n := by
  rw [mod_p2_succ v hi, p2_add hn hi, Int.add_mul, Int.mul_assoc (v / p2 i % 2), Int.mul_comm (p2 n) (p2 i)]; omega

set_option maxHeartbeats 4000000 in
theorem number_any (a : Option Addr) (len cap base : Nat) (n V v m : Int) (w : World) (hown : OwnI .u8 w base 5 (.slice a len cap) (bl n V)) (hbase : base ≤ w.heap.size) (hn : 0 ≤ n) (hm0 : 0 ≤ m) (hm : m ≤ 64) (hn1 : n ≤ 330000) (h0 : 0 ≤ V) (h1 : V < p2 n) (hv0 : 0 ≤ v) (hv : v ≤ 18446744073709551615) :
    Calls Try.prog 51 #[bv a len cap n, .int .u64 v, .int .i64 m] w fun e w' => ∃ a' len' cap', e = .returned (bv a' len' cap' (n + m)) ∧ OwnI .u8 w' base 5 (.slice a' len' cap') (bl (n + m) (V + (v % p2 m) * p2 n)) ∧ Below base w w' ∧ KeepT 5 w w' := by
  have k0 := blk2a w (.cells #[.slice a len cap, .int .i64 n] 27) (.cells #[.slice none 0 0, .int .i64 0] 27)
  have k1 := blk2 w (.cells #[.slice a len cap, .int .i64 n] 27) (.cells #[.slice none 0 0, .int .i64 0] 27)
  have hbe := below2 w (.cells #[.slice a len cap, .int .i64 n] 27) (.cells #[.slice none 0 0, .int .i64 0] 27)
  have hsz := size2 w (.cells #[.slice a len cap, .int .i64 n] 27) (.cells #[.slice none 0 0, .int .i64 0] 27)
  have o1 := hown.below hbe
  have hbw : Below base w _ := hbe.mono hbase
  have hkw : KeepT 5 w _ := KeepT.of_below hbe
  obtain ⟨B, eB⟩ : ∃ B, w.heap.size = B := ⟨_, rfl⟩
  unfold bv
  rw [eB] at k0 k1 hsz hbase
  go_enter Try.func51, Try.ntmps51
  go_wp2
  clear hown hbe
  generalize ((w.alloc (.cells #[.slice a len cap, .int .i64 n] 27)).alloc (.cells #[.slice none 0 0, .int .i64 0] 27)) = w1 at *
  go_loopw [1, 7] (fun u s wr => ∃ i : Int, 0 ≤ i ∧ i ≤ m ∧ u = .int .u64 (v / p2 i) ∧ s = .int .i64 i ∧ ∃ a' len' cap', wr.heap[B]? = some (.cells #[.slice a' len' cap', .int .i64 (n + i)] 27) ∧ wr.heap[B + 1]? = some (.cells #[.slice none 0 0, .int .i64 0] 27) ∧
    OwnI .u8 wr base 5 (.slice a' len' cap') (bl (n + i) (V + (v % p2 i) * p2 n)) ∧ Below base w wr ∧ KeepT 5 w wr) (fun _ s _ => (m - intOf s).toNat)
  case atStart => exact ⟨0, Int.le_refl _, hm0, by rw [p2_zero, Int.ediv_one], rfl, a, len, cap, by rw [Int.add_zero]; exact k0, k1, by rw [Int.add_zero, p2_zero, Int.emod_one, Int.zero_mul, Int.add_zero]; exact o1, hbw, hkw⟩
  case round =>
    clear k0 k1 o1 hbw hsz hkw
    obtain ⟨i, hi0, him, rfl, rfl, a', len', cap', k0, k1, howN, hbr, hkr⟩ := hrel
    have hsr : B + 1 < wr.heap.size := (Array.getElem?_eq_some_iff.1 k1).1
    obtain ⟨c0, c1, c2, c3⟩ := Box2.of k0
    have hlo := num_lt (v := v) hn hi0 h0 h1
    by_cases hlt : i < m
    · have hnew := num_step (V := V) (v := v) hn hi0
      obtain ⟨W, hW⟩ : ∃ W, V + (v % p2 i) * p2 n = W := ⟨_, rfl⟩
      rw [hW] at howN hnew hlo
      have hpi := p2_pos i
      have hx0 : 0 ≤ v / p2 i := Int.ediv_nonneg hv0 (by omega)
      have hx1 : v / p2 i ≤ v := Int.ediv_le_self _ hv0
      have hd := div_succ v hi0
      obtain ⟨X, hX⟩ : ∃ X, v / p2 i = X := ⟨_, rfl⟩
      obtain ⟨Y, hY⟩ : ∃ X, v / p2 (i + 1) = X := ⟨_, rfl⟩
      rw [hX] at hnew hx0 hx1 hd ⊢
      rw [hY] at hd
      have hAdd := add_any a' len' cap' base (n + i) W (X % 2) wr howN (by omega) (by omega) (by omega) hlo.1 hlo.2 (by omega)
      unfold bv at hAdd
      rw [hnew, show n + i + 1 = n + (i + 1) by omega] at hAdd
      clear hnew hW hlo howN hX
      go_wp2_with (go_at_call 66; refine hAdd.mono ?_; rintro e w6 ⟨a2, len2, cap2, rfl, HO2, hb6, hk6⟩; have K0 := hk6 B _ _ k0 (by decide); have K1 := hk6 (B + 1) _ _ k1 (by decide); obtain ⟨y0, y1, y2, y3⟩ := Box2.of K0)
      go_roundw
      case rel =>
        have q1 := heap_setCell_same w6 B 0 _ _ (.slice a2 len2 cap2) K0
        have q2 := heap_setCell_same _ B 1 _ _ (.int .i64 (n + (i + 1))) q1
        have p1 := (Below.heap_setCell w6 ⟨B, 0, none⟩ (.slice a2 len2 cap2) (B + 1) (by simp)).trans K1
        have p2 := (Below.heap_setCell _ ⟨B, 1, none⟩ (.int .i64 (n + (i + 1))) (B + 1) (by simp)).trans p1
        have hne := own_ne HO2 K0
        exact ⟨i + 1, by omega, by omega, by rw [hY]; go_num, by go_num, a2, len2, cap2, q2, p2, (HO2.other hne).other hne, ((hbr.trans hb6).setCell (by dsimp only; omega) _).setCell (by dsimp only; omega) _, ((hkr.trans hk6).setNew (by omega) _ _).setNew (by omega) _ _⟩
      case measure => simp [intOf]; omega
    · obtain rfl : i = m := by omega
      obtain ⟨r0, r1, r2, r3⟩ := Box2.of k1
      obtain ⟨W, hW⟩ : ∃ W, V + (v % p2 i) * p2 n = W := ⟨_, rfl⟩
      rw [hW] at howN
      have HW := hid hW
      clear hlo hW
      go_wp2
      refine bodyPost_ret_by (v := .agg #[.slice a' len' cap', .int .i64 (n + i)]) (by rw [results_cell1 rfl]; go_simp) rfl ?_
      have hne1 := own_ne howN k1
      rw [HW.out]
      exact ⟨_, _, _, rfl, (howN.other hne1).other hne1, (hbr.setCell (by dsimp only; omega) _).setCell (by dsimp only; omega) _, (hkr.setNew (by omega) _ _).setNew (by omega) _ _⟩

theorem value_step {A p m j : Int} (hp : 0 ≤ p) (hj : 0 ≤ j) (hjm : j < m) : 2 * (A / p2 (p + (j + 1)) % p2 (m - (j + 1))) + A / p2 (p + j) % 2 = A / p2 (p + j) % p2 (m - j) := by
  have h := mod_split (A / p2 (p + j)) (show (0 : Int) ≤ 1 by omega) (show 0 ≤ m - (j + 1) by omega)
  rw [show (1 : Int) + (m - (j + 1)) = m - j by omega, show p2 1 = 2 from rfl, div_succ A (show 0 ≤ p + j by omega), show p + j + 1 = p + (j + 1) by omega] at h
  omega

set_option maxHeartbeats 4000000 in
theorem value_any (a : Option Addr) (len cap : Nat) (xs : List Int) (n p m : Int) (w : World) (hr : RowIn .u8 w a len cap xs) (hp : 0 ≤ p) (hm0 : 0 ≤ m) (hm : m ≤ 64) (hpm : p + m ≤ 8 * len) (hl : len ≤ 50000) :
    Calls Try.prog 56 #[bv a len cap n, .int .i64 p, .int .i64 m] w fun e w' => e = .returned (.int .u64 (val xs / p2 p % p2 m)) ∧ Below w.heap.size w w' := by
  have hA := fun i w' (hb : Below w.heap.size w w') h1 h2 => at_any a len cap xs n i w' (hr.same hb) h1 h2 hl
  have b0 := Box2.of (blk1 w (.cells #[.slice a len cap, .int .i64 n] 27))
  have hbe := below1 w (.cells #[.slice a len cap, .int .i64 n] 27)
  have hsz := size1 w (.cells #[.slice a len cap, .int .i64 n] 27)
  unfold bv at hA ⊢
  go_enter Try.func56, Try.ntmps56
  go_wp2
  generalize w.alloc (.cells #[.slice a len cap, .int .i64 n] 27) = w1 at *
  go_loopw [7, 8] (fun u s wr => ∃ j : Int, 0 ≤ j ∧ j ≤ m ∧ u = .int .u64 (val xs / p2 (p + j) % p2 (m - j)) ∧ s = .int .i64 (j - 1) ∧ Box2 wr w.heap.size (.slice a len cap) (.int .i64 n) ∧ Below w.heap.size w wr ∧ w.heap.size < wr.heap.size) (fun _ s _ => (intOf s + 1).toNat)
  case atStart => exact ⟨m, hm0, Int.le_refl _, by rw [Int.sub_self, p2_zero, Int.emod_one], rfl, b0, hbe, by omega⟩
  case round =>
    obtain ⟨j, hj0, hjm, rfl, rfl, ⟨c0, c1, c2, c3⟩, hbr, hsr⟩ := hrel
    clear b0 hbe hsz
    by_cases hz : j = 0
    · subst hz
      rw [Int.add_zero, Int.sub_zero]
      obtain ⟨R, hR⟩ : ∃ R, val xs / p2 p % p2 m = R := ⟨_, rfl⟩
      rw [hR]
      have HR := hid hR
      clear hA hR
      go_wp2
      go_ret
      exact ⟨by rw [HR.out]; rfl, hbr⟩
    · obtain ⟨i, rfl⟩ : ∃ i, j = i + 1 := ⟨j - 1, by omega⟩
      have hs := value_step (A := val xs) hp (show 0 ≤ i by omega) (show i < m by omega)
      have hcall := hA (p + i) wr hbr (by omega) (by omega)
      have hb1 := emod_bd (val xs / p2 (p + i)) (m - i)
      have hb2 := emod_bd (val xs / p2 (p + (i + 1))) (m - (i + 1))
      have h64 := p2_le64 (show m - i ≤ 64 by omega)
      have hbit : 0 ≤ val xs / p2 (p + i) % 2 ∧ val xs / p2 (p + i) % 2 ≤ 1 := by omega
      obtain ⟨Y, hY⟩ : ∃ Y, val xs / p2 (p + i) % p2 (m - i) = Y := ⟨_, rfl⟩
      obtain ⟨Z, hZ⟩ : ∃ Y, val xs / p2 (p + (i + 1)) % p2 (m - (i + 1)) = Y := ⟨_, rfl⟩
      obtain ⟨β, hβ⟩ : ∃ Y, val xs / p2 (p + i) % 2 = Y := ⟨_, rfl⟩
      rw [hY] at hs hb1
      rw [hZ] at hs hb2 ⊢
      rw [hβ] at hs hcall hbit
      clear hA hβ hZ
      obtain rfl : Y = 2 * Z + β := hs.symm
      rw [show i + 1 - 1 = i by omega]
      go_wp2_with (go_at_call 55; refine hcall.mono ?_; rintro e w6 ⟨rfl, hb6⟩)
      go_roundw
      case rel => exact ⟨i, by omega, by omega, by rw [hY], by go_num, (Box2.mk c0 c1 c2 c3).below hb6 hsr, hbr.trans (hb6.mono hbr.size), Nat.lt_of_lt_of_le hsr hb6.size⟩
      case measure => simp [intOf]; omega
end Go.Proofs.Ytmnhepcnbdbhoaa.R02

namespace Go.Proofs.Ytmnhepcnbdbhoaa.R07
open Go.Proofs Go.RowKit Go.Proofs.Ytmnhepcnbdbhoaa.Kit Go.Proofs.Ytmnhepcnbdbhoaa.M01 Go.Proofs.Ytmnhepcnbdbhoaa.M02 Go.Proofs.Ytmnhepcnbdbhoaa.M06 Go.Proofs.Ytmnhepcnbdbhoaa.M07 Go.Proofs.Ytmnhepcnbdbhoaa.Bt Go.Proofs.Ytmnhepcnbdbhoaa.R02 Go.Proofs.Ytmnhepcnbdbhoaa.Un Go.Proofs.Ytmnhepcnbdbhoaa.R06 Go.Proofs.Ytmnhepcnbdbhoaa.Ri
set_option linter.unusedVariables false

theorem rparam_any (k : Int) (w : World) : Calls Try.prog 54 #[.int .i64 k] w fun e w' => e = .returned (.bool (isK k)) ∧ w = w' := by
  rcases (show k < 0 ∨ (0 ≤ k ∧ 24 < k) ∨ (0 ≤ k ∧ k ≤ 24) by omega) with h | ⟨h, h'⟩ | ⟨h, h'⟩
  · rw [isK_no (.inl h)]
    have f1 : (0 ≤ k) = False := eq_false (by omega)
    go_enter Try.func54, Try.ntmps54
    go_wp2
    go_ret
    exact ⟨rfl, rfl⟩
  · rw [isK_no (.inr h')]
    have f1 : (0 ≤ k) = True := eq_true h
    have f2 : (k ≤ 24) = False := eq_false (by omega)
    go_enter Try.func54, Try.ntmps54
    go_wp2
    go_ret
    exact ⟨rfl, rfl⟩
  · rw [isK_yes h h']
    have f1 : (0 ≤ k) = True := eq_true h
    have f2 : (k ≤ 24) = True := eq_true h'
    go_enter Try.func54, Try.ntmps54
    go_wp2
    go_ret
    exact ⟨rfl, rfl⟩

set_option maxHeartbeats 4000000 in
theorem rpower_any (k : Int) (w : World) (h0 : 0 ≤ k) (h1 : k ≤ 60) : Calls Try.prog 58 #[.int .i64 k] w fun e w' => e = .returned (.int .u64 (p2 k)) ∧ w = w' := by
  go_enter Try.func58, Try.ntmps58
  go_wp2
  go_loop [3, 4] (fun u s => ∃ i : Int, 0 ≤ i ∧ i ≤ k ∧ u = .int .u64 (p2 i) ∧ s = .int .i64 i) (fun _ s => (k - intOf s).toNat)
  case atStart => exact ⟨0, Int.le_refl _, h0, rfl, rfl⟩
  case round =>
    obtain ⟨i, hi0, hik, rfl, rfl⟩ := hrel
    by_cases hlt : i < k
    · have hp := p2_pos i
      have hs : p2 (i + 1) = p2 i * 2 := by rw [p2_add hi0 (by omega), show p2 1 = 2 from rfl]
      have h60 : p2 i ≤ 1152921504606846976 := by rw [← show p2 60 = 1152921504606846976 by decide +kernel]; exact p2_le (by omega)
      obtain ⟨X, hX⟩ : ∃ X, p2 i = X := ⟨_, rfl⟩
      rw [hX] at hp hs h60 ⊢
      clear hX
      go_wp2
      go_round
      case rel => exact ⟨i + 1, by omega, by omega, by rw [hs], by go_num⟩
      case measure => simp [intOf]; omega
    · obtain rfl : i = k := by omega
      go_wp2
      go_ret
      exact ⟨rfl, rfl⟩

set_option maxHeartbeats 4000000 in
theorem rpart_any (v k : Int) (w : World) (hv : isU32 v) (h0 : 0 ≤ k) (h1 : k ≤ 24) : Calls Try.prog 71 #[.int .u32 v, .int .i64 k] w fun e w' => e = .returned (.int .i64 (qP v k)) ∧ w = w' := by
  obtain ⟨v0, v1⟩ := hv
  have hp := p2_pos k
  have hP := fun w' => rpower_any k w' h0 (by omega)
  have hd := Int.ediv_nonneg v0 (show 0 ≤ p2 k by omega)
  have hle : v / p2 k ≤ v := Int.ediv_le_self _ v0
  have hq : qP v k = min 48 (v / p2 k) := rfl
  obtain ⟨P, hPP⟩ : ∃ P, p2 k = P := ⟨_, rfl⟩
  rw [hPP] at hp hd hle hP hq
  have hne : (P = 0) = False := eq_false (by omega)
  by_cases h : v / P < 48
  · have e : qP v k = v / P := by omega
    rw [e]
    have f1 : (v / P < 48) = True := eq_true h
    have f2 : (48 < v / P) = False := eq_false (by omega)
    clear hq e hPP
    go_enter Try.func71, Try.ntmps71
    go_wp2_with (go_at_call 58; (with_reducible refine (hP _).mono ?_); rintro e w1 ⟨rfl, rfl⟩)
    go_ret
    exact ⟨rfl, rfl⟩
  · have e : qP v k = 48 := by omega
    rw [e]
    have f1 : (v / P < 48) = False := eq_false h
    clear hq e hPP
    go_enter Try.func71, Try.ntmps71
    go_wp2_with (go_at_call 58; (with_reducible refine (hP _).mono ?_); rintro e w1 ⟨rfl, rfl⟩)
    go_ret
    exact ⟨rfl, rfl⟩



theorem add7_eq {V v k n : Int} (hv : isU32 v) (hn : 0 ≤ n) : (V + (p2 (qP v k) - 1) * p2 n) + lwP v k * p2 (n + runS (qP v k)) = V + cdV v k * p2 n := by
  obtain ⟨q0, q1⟩ := qP_bd k hv.1
  have hs := runS_bd q0 q1
  unfold cdV
  rw [p2_add hn (by omega), Int.add_mul, Int.mul_assoc, Int.mul_comm (p2 n) (p2 (runS _))]; omega

end Go.Proofs.Ytmnhepcnbdbhoaa.R07

namespace Go.Proofs.Ytmnhepcnbdbhoaa.R07
open Go.Proofs Go.RowKit Go.Proofs.Ytmnhepcnbdbhoaa.Kit Go.Proofs.Ytmnhepcnbdbhoaa.M01 Go.Proofs.Ytmnhepcnbdbhoaa.M02 Go.Proofs.Ytmnhepcnbdbhoaa.M06 Go.Proofs.Ytmnhepcnbdbhoaa.M07 Go.Proofs.Ytmnhepcnbdbhoaa.Bt Go.Proofs.Ytmnhepcnbdbhoaa.R02 Go.Proofs.Ytmnhepcnbdbhoaa.Un Go.Proofs.Ytmnhepcnbdbhoaa.R06 Go.Proofs.Ytmnhepcnbdbhoaa.Ri
set_option linter.unusedVariables false


set_option maxHeartbeats 4000000 in
theorem rgot7_any (a : Option Addr) (len cap : Nat) (xs : List Int) (n p k : Int) (w : World) (hr : RowIn .u8 w a len cap xs) (hok : okB xs n = true) (hp0 : 0 ≤ p) (hp1 : p ≤ 9223372036854775807) (h0 : 0 ≤ k) (h1 : k ≤ 24) :
    Calls Try.prog 57 #[bv a len cap n, .int .i64 p, .int .i64 k] w fun e w' => e = .returned (.tuple #[.int .u32 (rrN xs n p k), .int .i64 (rrX xs n p k), .int .i64 (rrE xs n p k)]) ∧ Below w.heap.size w w' := by
  obtain ⟨hn0, hn1, hxl, hval⟩ := okB_iff.1 hok
  have hll := hr.hl
  have hby := byte_of hr.rd
  have hbe := below1 w (.cells #[.slice a len cap, .int .i64 n] 27)
  have hsz := size1 w (.cells #[.slice a len cap, .int .i64 n] 27)
  obtain ⟨c0, c1, c2, c3⟩ := Box2.of (blk1 w (.cells #[.slice a len cap, .int .i64 n] 27))
  have hK : ¬ (k < 0 ∨ 24 < k) := by omega
  by_cases hpn : n ≤ p
  · have eR : rdE xs n p = 24 := by rw [rdE, if_pos hok, if_neg (by omega), if_pos hpn]
    have eE : rrE xs n p k = 24 := by rw [rrE, if_pos hok, if_neg hK, if_pos (by rw [eR]; decide), eR]
    rw [rrN, rrX, eE, if_neg (by decide), if_neg (by decide)]
    have f1 : (n ≤ p) = True := eq_true hpn
    clear eR eE hok hxl hval
    unfold bv
    go_enter Try.func57, Try.ntmps57
    go_wp2
    go_ret3
    exact ⟨rfl, hbe⟩
  · have f1 : (n ≤ p) = False := eq_false hpn
    have hG := fun w' hb => rgot_any a len cap xs n p w' (hr.same hb) hok hp0 (by omega)
    by_cases hE : rdE xs n p = 0
    · obtain ⟨-, pX, pN, pL⟩ := rd_next hby hok hE
      have hgn : gotN xs n p = cq (val xs / p2 p) := by rw [gotN, if_pos hE, pN]
      simp only [hgn, pX] at hG
      have hcq := cq_bd (val xs / p2 p)
      have hrs := runS_bd hcq.1 hcq.2
      have hbs := bhS_bd (cq (val xs / p2 p)) h0 h1
      have f2 : (cq (val xs / p2 p) < 0) = False := eq_false (by omega)
      by_cases hS : n - (p + runS (cq (val xs / p2 p))) < bhS (cq (val xs / p2 p)) k
      · have eE : rrE xs n p k = 24 := by rw [rrE, if_pos hok, if_neg hK, if_neg (by rw [hE]; simp), if_pos (by rw [pX]; exact hS)]
        rw [rrN, rrX, eE, if_neg (by decide), if_neg (by decide)]
        obtain ⟨Q, hQ⟩ : ∃ Q, cq (val xs / p2 p) = Q := ⟨_, rfl⟩
        clear eE pX pN hE hgn
        simp only [hQ] at hG hcq hrs hbs f2 hS pL
        clear hQ hok hxl hval
        by_cases h48 : Q = 48
        · subst h48
          rw [runS_48] at hS hG
          rw [bhS_48] at hS
          have f3 : (n - (p + 48) < 32) = True := eq_true hS
          unfold bv at hG ⊢
          go_enter Try.func57, Try.ntmps57
          go_wp2_with (go_at_call 70; (with_reducible refine (hG _ hbe).mono ?_); rintro e w2 ⟨rfl, hb2⟩; have hB2 := hbe.trans (hb2.mono (by omega)); have hsz2 := hb2.size; obtain ⟨d0, d1, d2, d3⟩ := (Box2.mk c0 c1 c2 c3).below hb2 (by omega); clear c0 c1 c2 c3)
          go_ret3
          exact ⟨rfl, hB2⟩
        · rw [bhS_lt k (by omega)] at hS
          have f3 : (n - (p + runS Q) < k) = True := eq_true hS
          have f4 : (Q = 48) = False := eq_false h48
          have f5 : (Q == 48) = false := beq_eq_false_iff_ne.2 h48
          obtain ⟨S, hSS⟩ : ∃ S, runS Q = S := ⟨_, rfl⟩
          simp only [hSS] at hG f3 hrs pL
          unfold bv at hG ⊢
          go_enter Try.func57, Try.ntmps57
          go_wp2_with (go_at_call 70; (with_reducible refine (hG _ hbe).mono ?_); rintro e w2 ⟨rfl, hb2⟩; have hB2 := hbe.trans (hb2.mono (by omega)); have hsz2 := hb2.size; obtain ⟨d0, d1, d2, d3⟩ := (Box2.mk c0 c1 c2 c3).below hb2 (by omega); clear c0 c1 c2 c3)
          go_ret3
          exact ⟨rfl, hB2⟩
      · have hV := fun w' hb => value_any a len cap xs n (p + runS (cq (val xs / p2 p))) (bhS (cq (val xs / p2 p)) k) w' (hr.same hb) (by omega) (by omega) (by omega) (by omega) (by omega)
        have hgq : val xs / p2 (p + runS (cq (val xs / p2 p))) % p2 (bhS (cq (val xs / p2 p)) k) = dcG (val xs / p2 p) k := by
          unfold dcG dcM
          rw [p2_add hp0 (by omega), ← Int.ediv_ediv_of_nonneg (by have := p2_pos p; omega)]
        simp only [hgq] at hV
        have hR : ∀ e, (qP (dcN (val xs / p2 p) k) k ≠ cq (val xs / p2 p) → e = 12) → (qP (dcN (val xs / p2 p) k) k = cq (val xs / p2 p) → e = 0) → rrE xs n p k = e := by
          intro e h12 h00
          rw [rrE, if_pos hok, if_neg hK, if_neg (by rw [hE]; simp), if_neg (by rw [pX]; exact hS)]
          by_cases g : qP (dcN (val xs / p2 p) k) k = cq (val xs / p2 p)
          · rw [if_neg (by simp [g]), h00 g]
          · rw [if_pos g, h12 g]
        have hgb := dcG_bd (val xs / p2 p) k
        have hnb := dcN_bd (X := val xs / p2 p) h0 h1
        have hF := fun w' => rpart_any (dcN (val xs / p2 p) k) k w' ⟨hnb.1, hnb.2.1⟩ h0 h1
        have hX : rrX xs n p k = if rrE xs n p k = 0 then p + runS (cq (val xs / p2 p)) + bhS (cq (val xs / p2 p)) k else 0 := by
          unfold rrX dcS dcM; rw [Int.add_assoc]
        have hN : rrN xs n p k = if rrE xs n p k = 0 then dcN (val xs / p2 p) k else 0 := rfl
        have hq := fun g => (dc_q (X := val xs / p2 p) (k := k) g).1
        have hqb := qP_bd k hnb.1
        have hd : dcN (val xs / p2 p) k = if cq (val xs / p2 p) = 48 then dcG (val xs / p2 p) k else cq (val xs / p2 p) * p2 k + dcG (val xs / p2 p) k := rfl
        have hM : dcM (val xs / p2 p) k = bhS (cq (val xs / p2 p)) k := rfl
        have hPw := fun w' => rpower_any k w' h0 (by omega)
        rw [hM] at hgb
        rw [hN, hX]
        clear hgq pX pN hE hN hX hM hgn
        obtain ⟨E, hEE⟩ : ∃ S, rrE xs n p k = S := ⟨_, rfl⟩
        obtain ⟨D, hD⟩ : ∃ S, dcN (val xs / p2 p) k = S := ⟨_, rfl⟩
        obtain ⟨G, hGG⟩ : ∃ S, dcG (val xs / p2 p) k = S := ⟨_, rfl⟩
        obtain ⟨Q, hQ⟩ : ∃ Q, cq (val xs / p2 p) = Q := ⟨_, rfl⟩
        simp only [hEE] at hR ⊢
        simp only [hD] at hR hd hnb hF hq hqb ⊢
        simp only [hGG] at hV hgb hd
        simp only [hQ] at hG hR hd hV hgb hq hnb hcq hrs hbs pL hS f2 ⊢
        clear hEE hD hGG hQ hok hxl hval
        by_cases h48 : Q = 48
        · subst h48
          rw [if_pos rfl] at hd
          subst hd
          simp only [bhS_48, runS_48] at hG hV hS hgb hbs pL hcq hrs ⊢
          rw [p2_32] at hgb
          have f3 : (n - (p + 48) < 32) = False := eq_false hS
          by_cases g : qP D k = 48
          · obtain rfl : E = 0 := hR 0 (fun q => absurd g q) (fun _ => rfl)
            rw [if_pos rfl, if_pos rfl]
            rw [g] at hF
            clear hR hq hnb g hqb
            unfold bv at hG hV ⊢
            go_enter Try.func57, Try.ntmps57
            go_wp2_with (first | (go_at_call 70; (with_reducible refine (hG _ hbe).mono ?_); rintro e w2 ⟨rfl, hb2⟩; have hB2 := hbe.trans (hb2.mono (by omega)); have hsz2 := hb2.size; obtain ⟨d0, d1, d2, d3⟩ := (Box2.mk c0 c1 c2 c3).below hb2 (by omega); clear c0 c1 c2 c3) | (go_at_call 56; (with_reducible refine (hV _ hB2).mono ?_); rintro e w3 ⟨rfl, hb3⟩; have hB3 := hB2.trans (hb3.mono (by omega))) | (go_at_call 71; (with_reducible refine (hF _).mono ?_); rintro e w4 ⟨rfl, rfl⟩))
            go_ret3
            exact ⟨rfl, hB3⟩
          · obtain rfl : E = 12 := hR 12 (fun _ => rfl) (fun q => absurd q g)
            rw [if_neg (by decide), if_neg (by decide)]
            obtain ⟨Z, hZ⟩ : ∃ Z, qP D k = Z := ⟨_, rfl⟩
            rw [hZ] at hF g hqb
            have f4 : (Z < 48) = True := eq_true (by omega)
            clear hR hq hnb g hZ
            unfold bv at hG hV ⊢
            go_enter Try.func57, Try.ntmps57
            go_wp2_with (first | (go_at_call 70; (with_reducible refine (hG _ hbe).mono ?_); rintro e w2 ⟨rfl, hb2⟩; have hB2 := hbe.trans (hb2.mono (by omega)); have hsz2 := hb2.size; obtain ⟨d0, d1, d2, d3⟩ := (Box2.mk c0 c1 c2 c3).below hb2 (by omega); clear c0 c1 c2 c3) | (go_at_call 56; (with_reducible refine (hV _ hB2).mono ?_); rintro e w3 ⟨rfl, hb3⟩; have hB3 := hB2.trans (hb3.mono (by omega))) | (go_at_call 71; (with_reducible refine (hF _).mono ?_); rintro e w4 ⟨rfl, rfl⟩))
            go_ret3
            exact ⟨rfl, hB3⟩
        · rw [if_neg h48] at hd
          have g := hq h48
          obtain rfl : E = 0 := hR 0 (fun q => absurd g q) (fun _ => rfl)
          rw [if_pos rfl, if_pos rfl]
          have hlt : Q < 48 := by omega
          simp only [bhS_lt k hlt] at hV hS hgb hbs pL hcq hrs ⊢
          have hp24 : p2 k ≤ 16777216 := by rw [← p2_24]; exact p2_le h1
          have hp1 := p2_pos k
          have hpr := Int.mul_nonneg hcq.1 (show 0 ≤ p2 k by omega)
          have hpl : Q * p2 k ≤ 47 * p2 k := Int.mul_le_mul_of_nonneg_right (by omega) (by omega)
          have f5 : (Q < 48) = True := eq_true hlt
          have f4 : (Q = 48) = False := eq_false h48
          have f6 : (Q == 48) = false := beq_eq_false_iff_ne.2 h48
          have hD2 : Q * p2 k + G = D := hd.symm
          obtain ⟨S, hSS⟩ : ∃ S, runS Q = S := ⟨_, rfl⟩
          obtain ⟨P, hPP⟩ : ∃ S, p2 k = S := ⟨_, rfl⟩
          simp only [hSS] at hG hV hS hrs pL ⊢
          simp only [hPP] at hPw hp24 hp1 hpr hpl hD2 hgb
          have f3 : (n - (p + S) < k) = False := eq_false hS
          clear hR hq g hlt hd hSS hF hqb hPP
          unfold bv at hG hV ⊢
          go_enter Try.func57, Try.ntmps57
          go_wp2_with (first | (go_at_call 70; (with_reducible refine (hG _ hbe).mono ?_); rintro e w2 ⟨rfl, hb2⟩; have hB2 := hbe.trans (hb2.mono (by omega)); have hsz2 := hb2.size; obtain ⟨d0, d1, d2, d3⟩ := (Box2.mk c0 c1 c2 c3).below hb2 (by omega); clear c0 c1 c2 c3) | (go_at_call 56; (with_reducible refine (hV _ hB2).mono ?_); rintro e w3 ⟨rfl, hb3⟩; have hB3 := hB2.trans (hb3.mono (by omega))) | (go_at_call 58; (with_reducible refine (hPw _).mono ?_); rintro e w4 ⟨rfl, rfl⟩))
          go_ret3
          exact ⟨rfl, hB3⟩
    · have eG : gotN xs n p = -1 := by rw [gotN, if_neg hE]
      have eX : rdX xs n p = 0 := by rw [rdX, if_neg hE]
      have eR : rdE xs n p = 24 := by
        unfold rdE at hE ⊢
        rw [if_pos hok, if_neg (by omega), if_neg (by omega)] at hE ⊢
        split at hE
        · rename_i q; rw [if_pos q]
        · omega
      have eE : rrE xs n p k = 24 := by rw [rrE, if_pos hok, if_neg hK, if_pos hE, eR]
      rw [rrN, rrX, eE, if_neg (by decide), if_neg (by decide)]
      simp only [eG, eX] at hG
      clear eG eX eR eE hok hxl hval hE
      unfold bv at hG ⊢
      go_enter Try.func57, Try.ntmps57
      go_wp2_with (go_at_call 70; (with_reducible refine (hG _ hbe).mono ?_); rintro e w2 ⟨rfl, hb2⟩; have hB2 := hbe.trans (hb2.mono (by omega)); have hsz2 := hb2.size; obtain ⟨d0, d1, d2, d3⟩ := (Box2.mk c0 c1 c2 c3).below hb2 (by omega); clear c0 c1 c2 c3)
      go_ret3
      exact ⟨rfl, hB2⟩

end Go.Proofs.Ytmnhepcnbdbhoaa.R07

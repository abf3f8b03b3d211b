/- The law Crc64Burst. -/
import Derived.Test.YtpbignknpccpkaaLaw04
namespace Go.Proofs.Ytpbignknpccpkaa.Wk
open Go.RowKit Go.Proofs.Ytpbignknpccpkaa.Kit Go.Proofs.Ytpbignknpccpkaa.M04 Go.Proofs.Ytpbignknpccpkaa.Cr6 Go.Proofs.Ytpbignknpccpkaa.R04
open Go.Proofs.Ytpbignknpccpkaa.M03 (xor_u8 mod_bit xor_ne)
set_option linter.unusedVariables false

theorem wraps_u64 (n : Int) (h₀ : 0 ≤ n) (h₁ : n < 2 ^ 64) : IntKind.u64.wrap n = n := by rw [IntKind.wrap_u64]; omega
theorem mask1 (y : Int) (h0 : 0 ≤ y) (h1 : y < 18446744073709551616) : bits .and .u64 y 1 = y % 2 :=
  bits_mask .u64 64 (by decide) wraps_u64 1 (by decide) y h0 h1

/-- One bit more that is changed. -/
theorem burst_bit {xs ys : List Int} {at_ c k : Nat} (hk : k < 64) (hl : ys.length = xs.length) (hin : at_ + k < 8 * xs.length) (hy : ∀ y ∈ ys, (Lit.int .u8 y).wf = true)
    (hv : crcN 0 ys = crcN 0 xs ^^^ sts (8 * xs.length - at_) (rv c k)) (hb : c / 2 ^ k % 2 = 1) {j : Nat} (hj : j = (at_ + k) / 8) {y z : Int} (hz : ys.getD j 0 = y) (hx : ((y.toNat ^^^ 128 / 2 ^ ((at_ + k) % 8) : Nat) : Int) = z) :
    (ys.set j z).length = xs.length ∧ (∀ y ∈ ys.set j z, (Lit.int .u8 y).wf = true) ∧ crcN 0 (ys.set j z) = crcN 0 xs ^^^ sts (8 * xs.length - at_) (rv c (k + 1)) ∧ c % 2 ^ (k + 1) ≠ 0 := by
  have hp : c % 2 ^ k < 2 ^ k := Nat.mod_lt _ (by exact Nat.two_pow_pos k)
  have hm := mod_bit c k
  rw [if_pos hb] at hm
  refine ⟨by rw [List.length_set, hl], ?_, ?_, ?_⟩
  · intro u hu
    rcases List.mem_or_eq_of_mem_set hu with h | rfl
    · exact hy u h
    · have h1 : (Lit.int .u8 y).wf = true := by
        rw [← hz, List.getD_eq_getElem?_getD, List.getElem?_eq_getElem (show j < ys.length by omega)]; exact hy _ (by simp)
      have h2 := Go.Proofs.Ytpbignknpccpkaa.Kit.bd_u8 h1
      have h3 : 128 / 2 ^ ((at_ + k) % 8) ≤ 128 := Nat.div_le_self _ _
      have := Nat.xor_lt_two_pow (n := 8) (show y.toNat < 2 ^ 8 by omega) (show 128 / 2 ^ ((at_ + k) % 8) < 2 ^ 8 by omega)
      rw [← hx]
      simp [Lit.wf, IntKind.min, IntKind.max, IntKind.signed, IntKind.bits]; omega
  · rw [crc_bit (xs := ys) (at_ := at_) (k := k) hk (by omega) hj z (by rw [← hx, hz, Int.toNat_natCast]), hv, hl, Nat.xor_assoc, ← sts_xor]
    congr 2
    show _ = if _ then _ else _
    rw [if_pos hb]
  · rw [hm]; exact xor_ne (by omega)

theorem rv_same {c k : Nat} (h : ¬ c / 2 ^ k % 2 = 1) : rv c (k + 1) = rv c k := by
  show (if _ then _ else _) = _
  rw [if_neg h]

attribute [local irreducible] wpStill

set_option maxHeartbeats 4000000 in
set_option maxRecDepth 100000 in
theorem crc64Burst_walk (a0 : Option Addr) (l0 c0 : Nat) (x0 : List Int) (a1 : Int) (a2 : Int) (w : World) (r0 : RowIn .u8 w a0 l0 c0 x0) (b1 : -9223372036854775808 ≤ a1 ∧ a1 ≤ 9223372036854775807) (b2 : 0 ≤ a2 ∧ a2 ≤ 18446744073709551615) :
    Calls Try.prog 7 #[.slice a0 l0 c0, .int .i64 a1, .int .u64 a2] w fun e w' => e = .returned (.bool true) ∧ Below w.heap.size w w' := by
  obtain ⟨i0, hi, hz0, hz1, hz2⟩ := info_parts info_u8
  have h0 := r0.hl
  have h3 := r0.rd.len
  rcases (show (l0 ≤ 500 ∧ 0 ≤ a1 ∧ a1 < 8 * l0) ∨ 500 < l0 ∨ (l0 ≤ 500 ∧ a1 < 0) ∨ (l0 ≤ 500 ∧ 0 ≤ a1 ∧ 8 * (l0 : Int) ≤ a1) by omega) with ⟨g1, g2, g3⟩ | g1 | ⟨g1, g2⟩ | ⟨g1, g2, g3⟩
  · have f1 : (500 < (l0 : Int)) = False := eq_false (by omega)
    have f2 : (a1 < 0) = False := eq_false (by omega)
    have f3 : (8 * (l0 : Int) ≤ a1) = False := eq_false (by omega)
    obtain ⟨at_, rfl⟩ : ∃ n : Nat, a1 = n := ⟨a1.toNat, by omega⟩
    obtain ⟨c, rfl⟩ : ∃ n : Nat, a2 = n := ⟨a2.toNat, by omega⟩
    have O1 := OwnI.lit (k := .u8) w w.heap.size 5 [] (Nat.le_refl _) (by decide)
    go_enter Try.func7, Try.ntmps7
    go_wp2_with (at_builtin; refine appN rfl _ _ 28 rfl w.heap.size 5 i0 (.int .u8 0) 1 Try.underlying28 hi hz0 hz1 hz2 rfl .u8 _ _ O1 a0 l0 c0 x0 (r0.same (below1 _ _)).rd h0 rfl rfl (by simp) (by simp; omega) (by simp; omega) ?_; intro v' w2 hown hgr hbw; replace hbw := (below1 w _).trans hbw; rw [List.nil_append] at hown; obtain ⟨g, cap', rfl⟩ := hown.form (by intro h; rw [h] at h0; simp at h0; omega); rw [h0] at hown)
    go_loopw [8, 9] (fun d i wr => ∃ k : Nat, k ≤ 64 ∧ i = .int .i64 k ∧ d = .bool (decide (c % 2 ^ k ≠ 0)) ∧ ∃ ys, OwnI .u8 wr w.heap.size 5 (.slice (some ⟨g, 0, none⟩) l0 cap') ys ∧ ys.length = x0.length ∧ (∀ y ∈ ys, (Lit.int .u8 y).wf = true) ∧ crcN 0 ys = crcN 0 x0 ^^^ sts (8 * x0.length - at_) (rv c k) ∧ Below w.heap.size w wr) (fun _ i _ => 64 - (intOf i).toNat)
    case atStart => exact ⟨0, by omega, by go_num, by simp [Nat.mod_one], x0, hown, rfl, r0.rd.2.2, by show _ = _ ^^^ sts _ 0; rw [sts_zero, Nat.xor_zero], hbw⟩
    case round =>
      obtain ⟨k, hk, rfl, rfl, ys, ho, hyl, hyw, hyv, hb⟩ := hrel
      clear hown hgr hbw O1
      by_cases hlt : k < 64 ∧ at_ + k < 8 * l0
      · obtain ⟨hlt1, hlt2⟩ := hlt
        have t1 : ((k : Int) < 64) = True := eq_true (by omega)
        have t2 : ((at_ : Int) + k < 8 * l0) = True := eq_true (by omega)
        have hq0 : 0 ≤ (c : Int) / 2 ^ k := Int.ediv_nonneg (by omega) (by have := Int.pow_pos (n := 2) (m := k) (by omega); omega)
        have hq1 : (c : Int) / 2 ^ k < 18446744073709551616 := Int.lt_of_le_of_lt (Int.ediv_le_self _ (by omega)) (by omega)
        have hm := mask1 _ hq0 hq1
        have hcast : ((c : Int) / 2 ^ k) % 2 = ((c / 2 ^ k % 2 : Nat) : Int) := by simp
        rw [hcast] at hm
        rcases Nat.mod_two_eq_zero_or_one (c / 2 ^ k) with hd | hd
        · replace hm : bits .and .u64 ((c : Int) / 2 ^ k) 1 = 0 := by rw [hm, hd]; rfl
          have hmb := mod_bit c k
          rw [if_neg (by omega)] at hmb
          have hrv := hid (rv_same (c := c) (k := k) (by omega))
          go_wp2
          go_roundw
          case rel => exact ⟨k + 1, by omega, by go_num, by rw [hmb], ys, ho, hyl, hyw, by rw [hrv.out]; exact hyv, hb⟩
          case measure => simp [intOf]; omega
        · replace hm : bits .and .u64 ((c : Int) / 2 ^ k) 1 = 1 := by rw [hm, hd]; rfl
          obtain ⟨j, hj⟩ : ∃ j, j = (at_ + k) / 8 := ⟨_, rfl⟩
          have hjl : j < ys.length := by omega
          have hcell := ho.cell j hjl
          have hfree := ho.free j
          obtain ⟨y, hy⟩ : ∃ y, ys.getD j 0 = y := ⟨_, rfl⟩
          rw [hy] at hcell
          obtain ⟨z, hx⟩ : ∃ z, ((y.toNat ^^^ 128 / 2 ^ ((at_ + k) % 8) : Nat) : Int) = z := ⟨_, rfl⟩
          obtain ⟨n1, n2, n3, n4⟩ := burst_bit hlt1 hyl (show at_ + k < 8 * x0.length by omega) hyw hyv hd hj hy hx
          obtain ⟨T, hT⟩ : ∃ T : Nat, at_ + k = T := ⟨_, rfl⟩
          obtain ⟨r, hr⟩ : ∃ r : Nat, T % 8 = r := ⟨_, rfl⟩
          rw [hT] at hj hx
          rw [hr] at hx
          have e1 : IntKind.i64.wrap ((at_ : Int) + (k : Int)) = (T : Int) := by rw [IntKind.wrap_i64]; omega
          have e5 : ((T : Int) < 8 * (l0 : Int)) = True := eq_true (by omega)
          have e2 : IntKind.i64.wrap ((T : Int) / 8) = (j : Int) := by rw [IntKind.wrap_i64]; omega
          have e3 : ((j : Int) < (l0 : Int)) = True := eq_true (by omega)
          have e4 : (T : Int).tmod 8 = (r : Int) := by rw [Int.tmod_eq_emod_of_nonneg (by omega)]; omega
          have hr8 : r < 8 := by omega
          have e6 : Hid (bits .xor .u8 y (128 / 2 ^ r) = z) := by
            have hy2 : (Lit.int .u8 y).wf = true := by
              rw [← hy, List.getD_eq_getElem?_getD, List.getElem?_eq_getElem hjl]; exact hyw _ (by simp)
            have h2 := Go.Proofs.Ytpbignknpccpkaa.Kit.bd_u8 hy2
            have h3 : 128 / 2 ^ r ≤ 128 := Nat.div_le_self _ _
            have h4 : (128 : Int) / 2 ^ r = ((128 / 2 ^ r : Nat) : Int) := by simp
            rw [h4]
            clear h4
            generalize (128 / 2 ^ r : Nat) = R at *
            rw [xor_u8 h2.1 (by omega) (by omega) (by omega), Int.toNat_natCast]
            exact hid hx
          have HN := hid (And.intro n1 (And.intro n2 (And.intro n3 n4)))
          have H := hid (ho.set j z)
          clear hcast hq0 hq1 hyv hyw n1 n2 n3 n4 hd hy hT hr hj
          go_wp2
          refine region_tail 14 (by kernel_rfl) (by kernel_rfl) (fun K hK => ?_)
          simp only [List.take_succ_cons, List.take_zero, List.drop_succ_cons, List.drop_zero] at hK ⊢
          iterate 14 still_step
          refine wpStill_nil ?_
          refine hK _ ?_
          clear hK K
          go_wp2
          rw [e6.out]
          go_roundw
          case rel => exact ⟨k + 1, by omega, by go_num, by rw [decide_eq_true HN.out.2.2.2], _, H.out.1.below (Below.refl _ _).drew, HN.out.1, HN.out.2.1, HN.out.2.2.1, (hb.trans H.out.2).drew⟩
          case measure => simp [intOf]; omega
      · have ho2 := ho.rowLit hyw
        have r0' := r0.same hb
        have hbu := crc_burst (xs := x0) (ys := ys) (s := 0) (c := c) (k := k) (n := 8 * x0.length - at_) hk hyv
        have hneq : crcI 0 x0 = crcI 0 ys ↔ c % 2 ^ k = 0 := by
          rw [← hbu]; unfold crcI; exact Int.natCast_inj
        have S1 := sum_at (xs := x0) (len := l0) h0 (by omega) rfl
        have S2 := sum_at (xs := ys) (len := l0) (by omega) (by omega) rfl
        generalize hX : crcI 0 x0 = X at *
        generalize hY : crcI 0 ys = Y at *
        clear hbu hyv ho hX hY
        have hE : ((k : Int) < 64) = False ∨ (((k : Int) < 64) = True ∧ ((at_ : Int) + k < 8 * l0) = False) := by
          rcases (show k = 64 ∨ (k < 64 ∧ 8 * l0 ≤ at_ + k) by omega) with h | ⟨h, h'⟩
          · exact .inl (eq_false (by omega))
          · exact .inr ⟨eq_true (by omega), eq_false (by omega)⟩
        clear hlt
        have hC : ((c % 2 ^ k = 0) = True ∧ X = Y) ∨ ((c % 2 ^ k = 0) = False ∧ (X != Y) = true) := by
          by_cases hc : c % 2 ^ k = 0
          · exact .inl ⟨eq_true hc, hneq.2 hc⟩
          · exact .inr ⟨eq_false hc, by rw [bne_iff_ne]; exact fun h => hc (hneq.1 h)⟩
        clear hneq
        rcases hE with t1 | ⟨t1, t2⟩ <;> rcases hC with ⟨fc, rfl⟩ | ⟨fc, fX⟩
        all_goals
          go_wp2_with (first  | ((with_reducible refine (S1.out _ _ _ r0').mono ?_); rintro e w' ⟨rfl, rfl⟩)  | ((with_reducible refine (S2.out _ _ _ ho2).mono ?_); rintro e w' ⟨rfl, rfl⟩)  | ((with_reducible refine (alive_any _).mono ?_); rintro e w' ⟨rfl, hbA⟩))
          go_ret
          exact ⟨rfl, hb.trans (hbA.mono hb.size)⟩
  · have f1 : (500 < (l0 : Int)) = True := eq_true (by omega)
    go_enter Try.func7, Try.ntmps7
    go_wp2_with ((with_reducible refine (alive_any _).mono ?_); rintro e w' ⟨rfl, hbA⟩)
    go_ret
    exact ⟨rfl, hbA⟩
  · have f1 : (500 < (l0 : Int)) = False := eq_false (by omega)
    have f2 : (a1 < 0) = True := eq_true (by omega)
    go_enter Try.func7, Try.ntmps7
    go_wp2_with ((with_reducible refine (alive_any _).mono ?_); rintro e w' ⟨rfl, hbA⟩)
    go_ret
    exact ⟨rfl, hbA⟩
  · have f1 : (500 < (l0 : Int)) = False := eq_false (by omega)
    have f2 : (a1 < 0) = False := eq_false (by omega)
    have f3 : (8 * (l0 : Int) ≤ a1) = True := eq_true (by omega)
    go_enter Try.func7, Try.ntmps7
    go_wp2_with ((with_reducible refine (alive_any _).mono ?_); rintro e w' ⟨rfl, hbA⟩)
    go_ret
    exact ⟨rfl, hbA⟩
end Go.Proofs.Ytpbignknpccpkaa.Wk

/- A law of layer 1: the walk of its Go text, out of the contracts of what it calls. -/
import Derived.Test.YtobbfacpolmcaaaLaw01
import Derived.Deep.QuietTactic
import Derived.BigQuiet
namespace Go.Proofs.Ytobbfacpolmcaaa.Wk
open Go.RowKit Go.Proofs.Ytobbfacpolmcaaa.Kit Go.Proofs.Ytobbfacpolmcaaa.M01
set_option linter.unusedVariables false

theorem info_u8 : (Try.prog.info? 5).map (fun i => (i.zero, i.size, i.bytes)) = some (some (.int .u8 0), 1, 1) := by kernel_rfl

theorem wfz (n : Nat) : ∀ x ∈ List.replicate n (0 : Int), (Lit.int .u8 x).wf = true := by
  intro x hx; rw [List.mem_replicate] at hx; rw [hx.2]; rfl

theorem at_at {xs : List Int} {i x v er : Int} {len : Nat} (hi : i ≤ 9223372036854775807) (hv : atN xs i x = v) (he : atE xs i x = er) :
    Hid (∀ w b c, RowIn .u8 w b len c xs → Calls Try.prog 11 #[.slice b len c, .int .i64 i, .int .i64 x] w fun e w' => e = .returned (.tuple #[.int .u64 v, .int .i64 er]) ∧ w = w') := by
  intro w b c r; subst hv he; exact Le.at_any b len c xs i x w r.rd r.hl r.hc r.hm hi
theorem value_at {xs : List Int} {v er : Int} {len : Nat} (hv : valueN xs = v) (he : valueE xs = er) :
    Hid (∀ w b c, RowIn .u8 w b len c xs → Calls Try.prog 14 #[.slice b len c] w fun e w' => e = .returned (.tuple #[.int .u64 v, .int .i64 er]) ∧ w = w') := by
  intro w b c r; subst hv he; exact Le.value_any b len c xs w r.rd r.hl

theorem atE_20 {W : Int} (h : isW W = true) : atE (List.replicate 20 0) 0 W = 0 := by
  have := isW_of h
  simp only [atE, h, Bool.true_eq_false, if_false, List.length_replicate]
  rw [if_neg (by omega), if_neg (by omega)]

/-- What the ends of each width give. -/
theorem ends {W : Int} (h : isW W = true) (h7 : W ≤ 7) : ∃ p : Int, pw W.toNat = p ∧ 256 ≤ p ∧ p ≤ 72057594037927936 ∧ 2 * (p / 2) = p ∧
    bytesE p W = 16 ∧ bytesE (p - 1) W = 0 ∧ sgnE p W = 16 ∧ sgnE (p - 1) W = 0 ∧ sgnN (p - 1) W = -1 ∧ sgnE (p / 2) W = 0 ∧ sgnN (p / 2) W = -(p / 2) ∧
    unsE (p / 2) W = 16 ∧ unsE (-(p / 2) - 1) W = 16 ∧ unsE (-(p / 2)) W = 0 ∧ unsN (-(p / 2)) W = p / 2 := by
  obtain ⟨h1, h2⟩ := isW_of h
  have h3 := pw_bd7 (show W.toNat ≤ 7 by omega)
  have h4 : 256 ≤ pw W.toNat := by have := pw_le (show 1 ≤ W.toNat by omega); rw [show pw 1 = 256 by decide +kernel] at this; omega
  have hpe : 2 * (pw W.toNat / 2) = pw W.toNat := by
    obtain ⟨j, hj⟩ : ∃ j, W.toNat = j + 1 := ⟨W.toNat - 1, by omega⟩
    rw [hj, pw_succ]; omega
  refine ⟨_, rfl, h4, h3, hpe, ?_⟩
  rw [unsE_eq _ _ h, unsE_eq _ _ h, unsE_eq _ _ h, unsN_eq _ _ h]
  simp only [bytesE, sgnE, sgnN, h, Bool.true_eq_false, if_false]
  clear h
  generalize pw W.toNat = p at *
  refine ⟨?_, ?_, ?_, ?_, ?_, ?_, ?_, ?_, ?_, ?_, ?_⟩
  · rw [if_neg (by omega)]
  · rw [if_pos (by omega)]
  · rw [if_neg (by omega)]
  · rw [if_pos (by omega)]
  · rw [if_pos (by omega), if_pos (by omega)]; omega
  · rw [if_pos (by omega)]
  · rw [if_pos (by omega), if_pos (by omega)]; omega
  · rw [if_neg (by omega)]
  · rw [if_neg (by omega)]
  · rw [if_pos (by omega)]
  · rw [if_pos (by omega), if_pos (by omega)]; omega

set_option maxHeartbeats 4000000 in
set_option maxRecDepth 100000 in
theorem leNames_walk (w : World)  :
    Calls Try.prog 3 #[] w fun e w' => e = .returned (.bool true) ∧ Below w.heap.size w w' := by
  obtain ⟨i0, hi, hz0, hz1, hz2⟩ := info_parts info_u8
  go_enter Try.func3, Try.ntmps3
  go_wp2_with fail
  go_loopw [1] (fun i wr => ∃ W : Int, -1 ≤ W ∧ W ≤ 10 ∧ i = .int .i64 W ∧ Below w.heap.size w wr) (fun i _ => (10 - intOf i).toNat)
  case atStart => exact ⟨-1, by omega, by omega, rfl, Below.refl _ _⟩
  case round =>
    obtain ⟨W, h1, h2, rfl, hb⟩ := hrel
    by_cases hlt : W ≤ 9
    · have hlast : ∀ (er : Int), (isW W = true ∧ er = 0) ∨ (isW W = false ∧ er = 2) → bytesE 0 W = er ∧ atE (List.replicate 20 0) 0 W = er ∧ sgnE 0 W = er ∧ unsE 0 W = er := by
        rintro er (⟨hw, rfl⟩ | ⟨hw, rfl⟩)
        · have := pw_pos W.toNat
          refine ⟨by simp [bytesE, hw]; omega, atE_20 hw, by simp [sgnE, hw]; omega, ?_⟩
          rw [unsE_eq _ _ hw, if_pos (by omega)]
        · simp [bytesE, atE, sgnE, unsE, hw]
      obtain ⟨er, her⟩ : ∃ er : Int, (isW W = true ∧ er = 0) ∨ (isW W = false ∧ er = 2) := by
        cases hw : isW W with
        | true => exact ⟨0, .inl ⟨rfl, rfl⟩⟩
        | false => exact ⟨2, .inr ⟨rfl, rfl⟩⟩
      obtain ⟨f1, f2, f3, f4⟩ := hlast er her
      have B := bytes_at (n := 0) (x := W) (L := bytesL 0 W) (er := er) (len := (bytesL 0 W).length) (by omega) (by omega) rfl f1 rfl
      have A := at_at (xs := List.replicate 20 0) (i := 0) (x := W) (v := atN (List.replicate 20 0) 0 W) (er := er) (len := 20) (by omega) rfl f2
      have S := signed_at (n := 0) (x := W) (v := sgnN 0 W) (er := er) (by omega) (by omega) rfl f3
      have U := unsigned_at (n := 0) (x := W) (v := unsN 0 W) (er := er) (by omega) (by omega) rfl f4
      clear f1 f2 f3 f4 hlast
      have HE := hid her
      have main : (W < 1 ∧ er = 2) ∨ (8 < W ∧ er = 2) ∨ (W = 8 ∧ er = 0) ∨ (1 ≤ W ∧ W ≤ 7 ∧ er = 0) := by
        rcases her with ⟨a, b⟩ | ⟨a, b⟩
        · have := isW_of a; omega
        · have := isW_not a; omega
      clear her
      go_wp2_with fail
      refine (B.out _).mono ?_; rintro e w1 ⟨p1, q1, rfl, hr1, hb1⟩
      go_wp2_with (at_make; refine makeI rfl _ _ 22 rfl w1.heap.size 5 i0 1 .u8 Try.underlying22 hi hz0 hz1 hz2 20 20 rfl rfl rfl (by omega) (by omega) (Nat.le_refl _) ?_; intro w2 hown hgr hb2 hsz)
      refine (A.out _ _ _ (hown.rowLit (wfz 20))).mono ?_; rintro e w' ⟨rfl, rfl⟩
      go_wp2_with fail
      refine (S.out _).mono ?_; rintro e w3 ⟨rfl, k1, rfl⟩
      go_wp2_with fail
      refine (U.out _).mono ?_; rintro e w3 ⟨rfl, k2, rfl⟩
      have hb5 : Below w.heap.size w w2 := (hb.trans (hb1.mono hb.size)).trans (hb2.mono (hb.trans (hb1.mono hb.size)).size)
      clear hown hgr hb1 hb2 hsz hr1 B A S U hb
      rcases main with ⟨g1, rfl⟩ | ⟨g1, rfl⟩ | ⟨rfl, rfl⟩ | ⟨g1, g2, rfl⟩
      · go_wp2_with fail
        go_roundw
        case rel => exact ⟨W + 1, by omega, by omega, rfl, below_drewN hb5 _⟩
        case measure => simp [intOf]; omega
      · go_wp2_with fail
        go_roundw
        case rel => exact ⟨W + 1, by omega, by omega, rfl, below_drewN hb5 _⟩
        case measure => simp [intOf]; omega
      · go_wp2_with fail
        go_roundw
        case rel => exact ⟨9, by omega, by omega, rfl, below_drewN hb5 _⟩
        case measure => simp [intOf]
      · have hwW := isW_mk g1 (show W ≤ 8 by omega)
        obtain ⟨p, ep, e1, e2, e3, q1, q2, q3, q4, q5, q6, q7, q8, q9, q10, q11⟩ := ends hwW g2
        have B1 := bytes_at (n := p) (x := W) (L := bytesL p W) (er := 16) (len := (bytesL p W).length) (by omega) (by omega) rfl q1 rfl
        have B2 := bytes_at (n := p - 1) (x := W) (L := bytesL (p - 1) W) (er := 0) (len := (bytesL (p - 1) W).length) (by omega) (by omega) rfl q2 rfl
        have S1 := signed_at (n := p) (x := W) (v := sgnN p W) (er := 16) (by omega) (by omega) rfl q3
        have S2 := signed_at (n := p - 1) (x := W) (v := -1) (er := 0) (by omega) (by omega) q5 q4
        have S3 := signed_at (n := p / 2) (x := W) (v := -(p / 2)) (er := 0) (by omega) (by omega) q7 q6
        have U1 := unsigned_at (n := p / 2) (x := W) (v := unsN (p / 2) W) (er := 16) (by omega) (by omega) rfl q8
        have U2 := unsigned_at (n := -(p / 2) - 1) (x := W) (v := unsN (-(p / 2) - 1) W) (er := 16) (by omega) (by omega) rfl q9
        have U3 := unsigned_at (n := -(p / 2)) (x := W) (v := p / 2) (er := 0) (by omega) (by omega) q11 q10
        clear q1 q2 q3 q4 q5 q6 q7 q8 q9 q10 q11 hwW
        obtain ⟨m, rfl⟩ := Int.eq_ofNat_of_zero_le (show 0 ≤ W by omega)
        rw [Int.toNat_natCast] at ep
        obtain ⟨p2, ep2⟩ : ∃ p2, p / 2 = p2 := ⟨_, rfl⟩
        have HP := hid ep
        go_wp2_with fail
        obtain ⟨wo, hwo⟩ : ∃ wo : World, wo = w2.drewN (k1 + k2) := ⟨_, rfl⟩
        clear ep ep2
        go_loop [11, 12] (fun pv i => ∃ k : Nat, k ≤ m ∧ i = .int .i64 k ∧ pv = .int .u64 (pw k)) (fun _ i => m - (intOf i).toNat)
        case atStart => exact ⟨0, Nat.zero_le _, rfl, rfl⟩
        case round =>
          obtain ⟨k, hk, rfl, rfl⟩ := hrel
          by_cases hltk : k < m
          · have hp := pw_bd7 (show k + 1 ≤ 7 by omega)
            rw [pw_succ] at hp
            have hp0 := pw_pos k
            go_wp2_with fail
            go_round
            case rel => exact ⟨k + 1, by omega, by go_num, by rw [pw_succ, Int.mul_comm]⟩
            case measure => simp [intOf]; omega
          · obtain rfl : k = m := by omega
            rw [HP.out]
            go_wp2_with fail
            refine (B1.out _).mono ?_; rintro e w4 ⟨r1, t1, rfl, hr1, hb6⟩
            go_wp2_with fail
            refine (B2.out _).mono ?_; rintro e w5 ⟨r2, t2, rfl, hr2, hb7⟩
            go_wp2_with fail
            refine (S1.out _).mono ?_; rintro e w6 ⟨rfl, k3, rfl⟩
            go_wp2_with fail
            refine (S2.out _).mono ?_; rintro e w6 ⟨rfl, k4, rfl⟩
            go_wp2_with fail
            refine (S3.out _).mono ?_; rintro e w6 ⟨rfl, k5, rfl⟩
            go_wp2_with fail
            refine (U1.out _).mono ?_; rintro e w6 ⟨rfl, k6, rfl⟩
            go_wp2_with fail
            refine (U2.out _).mono ?_; rintro e w6 ⟨rfl, k7, rfl⟩
            go_wp2_with fail
            refine (U3.out _).mono ?_; rintro e w6 ⟨rfl, k8, rfl⟩
            go_wp2_with fail
            have hb8 := hb5.trans (((below_drewN (Below.refl w2.heap.size w2) (k1 + k2)).trans (hb6.trans (hb7.mono hb6.size))).mono hb5.size)
            go_roundw
            case rel => exact ⟨(k : Int) + 1, by omega, by omega, rfl, below_drewN hb8 _⟩
            case measure => simp [intOf]; omega
    · obtain rfl : W = 10 := by omega
      have V0 := value_at (xs := []) (v := 0) (er := 2) (len := 0) (by decide +kernel) (by decide +kernel)
      have V9 := value_at (xs := List.replicate 9 0) (v := 0) (er := 2) (len := 9) (by decide +kernel) (by decide +kernel)
      have V8 := value_at (xs := [255, 255, 255, 255, 255, 255, 255, 255]) (v := 18446744073709551615) (er := 0) (len := 8) (by decide +kernel) (by decide +kernel)
      have A1 := at_at (xs := List.replicate 3 0) (i := 2) (x := 2) (v := 0) (er := 24) (len := 3) (by omega) (by decide +kernel) (by decide +kernel)
      have A2 := at_at (xs := List.replicate 3 0) (i := -1) (x := 2) (v := 0) (er := 2) (len := 3) (by omega) (by decide +kernel) (by decide +kernel)
      have A3 := at_at (xs := List.replicate 3 0) (i := 9223372036854775807) (x := 8) (v := 0) (er := 24) (len := 3) (by omega) (by decide +kernel) (by decide +kernel)
      have A4 := at_at (xs := [9, 1, 0]) (i := 1) (x := 2) (v := 1) (er := 0) (len := 3) (by omega) (by decide +kernel) (by decide +kernel)
      have S := signed_at (n := 9223372036854775808) (x := 8) (v := -9223372036854775808) (er := 0) (by omega) (by omega) (by decide +kernel) (by decide +kernel)
      have U := unsigned_at (n := -9223372036854775808) (x := 8) (v := 9223372036854775808) (er := 0) (by omega) (by omega) (by decide +kernel) (by decide +kernel)
      go_wp2_with fail
      refine (V0.out _ _ _ RowIn.nil).mono ?_; rintro e w' ⟨rfl, rfl⟩
      go_wp2_with (at_make; refine makeI rfl _ _ 22 rfl wr.heap.size 5 i0 1 .u8 Try.underlying22 hi hz0 hz1 hz2 9 9 rfl rfl rfl (by omega) (by omega) (Nat.le_refl _) ?_; intro x1 hown1 hgr1 hc1 hsz1)
      replace hb := hb.trans (hc1.mono hb.size)
      refine (V9.out _ _ _ (hown1.rowLit (wfz 9))).mono ?_; rintro e w' ⟨rfl, rfl⟩
      go_wp2_with fail
      have o8 := OwnI.lit (k := .u8) x1 x1.heap.size 5 [255, 255, 255, 255, 255, 255, 255, 255] (Nat.le_refl _) (by simp [maxLen])
      refine (V8.out _ _ _ (o8.rowLit (by decide +kernel))).mono ?_; rintro e w' ⟨rfl, rfl⟩
      replace hb := hb.alloc (by have := hb.size; omega) (.cells #[.int .u8 255, .int .u8 255, .int .u8 255, .int .u8 255, .int .u8 255, .int .u8 255, .int .u8 255, .int .u8 255] 5)
      go_wp2_with (at_make; refine makeI rfl _ _ 22 rfl _ 5 i0 1 .u8 Try.underlying22 hi hz0 hz1 hz2 3 3 rfl rfl rfl (by omega) (by omega) (Nat.le_refl _) ?_; intro x2 hown2 hgr2 hc2 hsz2)
      try simp only [World.size_alloc] at hown2 hc2
      replace hb := hb.trans (hc2.mono (by have := hb.size; (try simp only [World.size_alloc] at this); omega))
      refine (A1.out _ _ _ (hown2.rowLit (wfz 3))).mono ?_; rintro e w' ⟨rfl, rfl⟩
      go_wp2_with (at_make; refine makeI rfl _ _ 22 rfl _ 5 i0 1 .u8 Try.underlying22 hi hz0 hz1 hz2 3 3 rfl rfl rfl (by omega) (by omega) (Nat.le_refl _) ?_; intro x3 hown3 hgr3 hc3 hsz3)
      try simp only [World.size_alloc] at hown3 hc3
      replace hb := hb.trans (hc3.mono (by have := hb.size; (try simp only [World.size_alloc] at this); omega))
      refine (A2.out _ _ _ (hown3.rowLit (wfz 3))).mono ?_; rintro e w' ⟨rfl, rfl⟩
      go_wp2_with (at_make; refine makeI rfl _ _ 22 rfl _ 5 i0 1 .u8 Try.underlying22 hi hz0 hz1 hz2 3 3 rfl rfl rfl (by omega) (by omega) (Nat.le_refl _) ?_; intro x4 hown4 hgr4 hc4 hsz4)
      try simp only [World.size_alloc] at hown4 hc4
      replace hb := hb.trans (hc4.mono (by have := hb.size; (try simp only [World.size_alloc] at this); omega))
      refine (A3.out _ _ _ (hown4.rowLit (wfz 3))).mono ?_; rintro e w' ⟨rfl, rfl⟩
      go_wp2_with fail
      have o9 := OwnI.lit (k := .u8) x4 x4.heap.size 5 [9, 1, 0] (Nat.le_refl _) (by simp [maxLen])
      refine (A4.out _ _ _ (o9.rowLit (by decide +kernel))).mono ?_; rintro e w' ⟨rfl, rfl⟩
      replace hb := hb.alloc (by have := hb.size; omega) (.cells #[.int .u8 9, .int .u8 1, .int .u8 0] 5)
      go_wp2_with fail
      refine (S.out _).mono ?_; rintro e w' ⟨rfl, k1, rfl⟩
      go_wp2_with fail
      refine (U.out _).mono ?_; rintro e w' ⟨rfl, k2, rfl⟩
      go_wp2_with (go_at_call 15; refine (alive_any _).mono ?_; rintro e w' ⟨rfl, hbA⟩)
      go_ret
      exact ⟨rfl, (below_drewN hb _).trans (hbA.mono hb.size)⟩
end Go.Proofs.Ytobbfacpolmcaaa.Wk

/- A law of layer 1: the walk of its Go text, out of the contracts of what it calls. -/
import Derived.Test.YtobbfacpolmcaaaLaw01
namespace Go.Proofs.Ytobbfacpolmcaaa.Wk
open Go.RowKit Go.Proofs.Ytobbfacpolmcaaa.Kit Go.Proofs.Ytobbfacpolmcaaa.M01
set_option linter.unusedVariables false

theorem info_u8 : (Try.prog.info? 5).map (fun i => (i.zero, i.size, i.bytes)) = some (some (.int .u8 0), 1, 1) := by kernel_rfl

set_option maxHeartbeats 1000000 in
theorem leBack_walk (a0 : Int) (a1 : Int) (a2 : Int) (a3 : Option Addr) (l3 c3 : Nat) (x3 : List Int) (a4 : Option Addr) (l4 c4 : Nat) (x4 : List Int) (w : World) (b0 : 0 ≤ a0 ∧ a0 ≤ 18446744073709551615) (b1 : 0 ≤ a1 ∧ a1 ≤ 18446744073709551615) (b2 : -9223372036854775808 ≤ a2 ∧ a2 ≤ 9223372036854775807) (r3 : RowIn .u8 w a3 l3 c3 x3) (r4 : RowIn .u8 w a4 l4 c4 x4) :
    Calls Try.prog 6 #[.int .u64 a0, .int .u64 a1, .int .i64 a2, .slice a3 l3 c3, .slice a4 l4 c4] w fun e w' => e = .returned (.bool true) ∧ Below w.heap.size w w' := by
  have c31 := r3.hc
  have c32 := r3.hm
  have c41 := r4.hc
  have c42 := r4.hm
  by_cases h : isW a2 = true
  · obtain ⟨h1, h2⟩ := isW_of h
    obtain ⟨p, ep⟩ : ∃ p, pw a2.toNat = p := ⟨_, rfl⟩
    have T := top_at h ep
    by_cases hc : p ≤ a0 ∨ p ≤ a1 ∨ 50 < l3 ∨ 50 < l4
    · clear ep
      rcases (show p ≤ a0 ∨ (a0 < p ∧ p ≤ a1) ∨ (a0 < p ∧ a1 < p ∧ 50 < l3) ∨ (a0 < p ∧ a1 < p ∧ ¬ 50 < l3 ∧ 50 < l4) by omega) with g | ⟨g1, g2⟩ | ⟨g1, g2, g3⟩ | ⟨g1, g2, g3, g4⟩
      all_goals
        clear hc
        go_enter Try.func6, Try.ntmps6
        go_wp2_with (first | (go_at_call 21; refine (R01.width_any _ _).mono ?_; rintro e w' ⟨rfl, rfl⟩) | (go_at_call 22; refine (T.out _).mono ?_; rintro e w' ⟨rfl, rfl⟩) | (go_at_call 15; refine (alive_any _).mono ?_; rintro e w' ⟨rfl, hbA⟩))
        go_ret
        exact ⟨rfl, hbA⟩
    · have g1 : a0 < p := by omega
      have g2 : a1 < p := by omega
      have g3 : ¬ 50 < l3 := by omega
      have g4 : ¬ 50 < l4 := by omega
      clear hc
      obtain ⟨m, rfl⟩ := Int.eq_ofNat_of_zero_le (show 0 ≤ a2 by omega)
      rw [Int.toNat_natCast] at ep
      have B1 := bytes_at (n := a0) (x := (m : Int)) (L := digs a0 m) (er := 0) (len := m) b0.1 (by omega) (by simp [bytesL, h, ep, g1]) (by simp [bytesE, h, ep, g1]) (digs_length _ _)
      have B2 := bytes_at (n := a1) (x := (m : Int)) (L := digs a1 m) (er := 0) (len := m) b1.1 (by omega) (by simp [bytesL, h, ep, g2]) (by simp [bytesE, h, ep, g2]) (digs_length _ _)
      obtain ⟨i0, hi, hz0, hz1, hz2⟩ := info_parts info_u8
      go_enter Try.func6, Try.ntmps6
      go_wp2_with (first | (go_at_call 21; refine (R01.width_any _ _).mono ?_; rintro e w' ⟨rfl, rfl⟩) | (go_at_call 22; refine (T.out _).mono ?_; rintro e w' ⟨rfl, rfl⟩))
      refine (B1.out _).mono ?_; rintro e w1 ⟨p1, q1, rfl, hr1, hb1⟩
      go_wp2_with fail
      refine (B2.out _).mono ?_; rintro e w2 ⟨p2, q2, rfl, hr2, hb2⟩
      have hr1' := (hr1.same hb2).rd
      have hb12 : Below w.heap.size w w2 := hb1.trans (hb2.mono hb1.size)
      have r3' := r3.same hb12
      have r4' := r4.same hb12
      have o1 : OwnI .u8 (w2.alloc (.cells #[] 5)) w2.heap.size 5 (.slice (some ⟨w2.heap.size, 0, none⟩) 0 0) [] := OwnI.lit w2 _ _ [] (Nat.le_refl _) (by simp)
      have f1 : Below w2.heap.size w2 (w2.alloc (.cells #[] 5)) := (Below.refl _ _).alloc (Nat.le_refl _) _
      have hlm : (digs a0 m).length = m := digs_length _ _
      have hl3 := r3.hl
      have hl4 := r4.hl
      have HL : Hid (x3.length = l3 ∧ x4.length = l4 ∧ (digs a0 m).length = m) := ⟨hl3, hl4, hlm⟩
      have e3 : valueN (digs a0 m) = a0 := by simp only [valueN, digs_length, h, Bool.true_eq_false, if_false]; exact val_digs_fit _ _ b0.1 (by omega)
      have e4 : valueE (digs a0 m) = 0 := by simp [valueE, digs_length, h]
      have V := Le.value_any p1 m q1 _ w2 hr1' hlm
      rw [e3, e4] at V
      have HV := hid V
      clear hl3 hl4 hlm e3 e4 V
      go_wp2_with (first | (go_at_call 14; refine (HV.out).mono ?_; rintro e w' ⟨rfl, rfl⟩)  | (at_builtin; refine appN rfl (.tmp 63) (.tmp 64) 22 rfl w2.heap.size 5 i0 (.int .u8 0) 1 Try.underlying22 hi hz0 hz1 hz2 rfl .u8 _ _ o1 _ l3 c3 x3 (r3'.same f1).rd r3.hl rfl rfl (by simp) (by simp; omega) (by simp; omega) ?_; intro v3 w3 o3 g3w f3; replace f3 := f1.trans f3)  | (at_builtin; refine appN rfl (.tmp 65) (.tmp 66) 22 rfl w2.heap.size 5 i0 (.int .u8 0) 1 Try.underlying22 hi hz0 hz1 hz2 rfl .u8 _ _ o3 _ m q1 _ (hr1'.same f3) HL.out.2.2 rfl rfl f3.size (by simp [HL.out.1]; omega) (by simp [HL.out.1]; omega) ?_; intro v4 w4 o4 g4w f4; replace f4 := f3.trans f4)  | (at_builtin; refine appN rfl (.tmp 67) (.tmp 68) 22 rfl w2.heap.size 5 i0 (.int .u8 0) 1 Try.underlying22 hi hz0 hz1 hz2 rfl .u8 _ _ o4 _ l4 c4 x4 (r4'.same f4).rd r4.hl rfl rfl f4.size (by simp [HL.out.1, HL.out.2.2]; omega) (by simp [HL.out.1, HL.out.2.2]; omega) ?_; intro v5 w5 o5 g5w f5; replace f5 := f4.trans f5))
      have hwf : ∀ x ∈ [] ++ x3 ++ digs a0 m ++ x4, (Lit.int .u8 x).wf = true := by
        intro x hx
        simp only [List.nil_append, List.mem_append] at hx
        rcases hx with (hx | hx) | hx
        · exact r3.rd.2.2 x hx
        · exact R01.wf_byte (digs_byte _ _) x hx
        · exact r4.rd.2.2 x hx
      obtain ⟨ad, cp, hv5, hr5, hc5, hm5, _⟩ := o5.reads hwf
      subst hv5
      have hlen : ([] ++ x3 ++ digs a0 m ++ x4).length = l3 + m + l4 := by simp [HL.out.1, HL.out.2.1, HL.out.2.2]; omega
      have hN : atN ([] ++ x3 ++ digs a0 m ++ x4) (l3 : Int) (m : Int) = a0 := by
        have e : ((([] ++ x3 ++ digs a0 m ++ x4).drop l3).take m) = digs a0 m := by
          rw [List.nil_append, List.append_assoc, List.drop_left' HL.out.1, List.take_left' HL.out.2.2]
        simp only [atN, h, Bool.true_eq_false, if_false, hlen, Int.toNat_natCast, e]
        rw [if_neg (by omega), if_neg (by omega)]
        exact val_digs_fit _ _ b0.1 (by omega)
      have hE : atE ([] ++ x3 ++ digs a0 m ++ x4) (l3 : Int) (m : Int) = 0 := by
        simp only [atE, h, Bool.true_eq_false, if_false, hlen]
        rw [if_neg (by omega), if_neg (by omega)]
      have A := Le.at_any ad _ cp _ (l3 : Int) (m : Int) w5 hr5 rfl hc5 (by unfold maxLen at hm5; exact hm5) (by omega)
      rw [hN, hE] at A
      have hA := hid A
      have s1 := ((hr1'.same f5).strD (P := Try.prog) m q1 HL.out.2.2 (src := 22) (dst := 9) Try.underlying22 Try.underlying5 Try.underlying9).1
      have s2 := ((hr2.rd.same f5).strD (P := Try.prog) m q2 (digs_length _ _) (src := 22) (dst := 9) Try.underlying22 Try.underlying5 Try.underlying9).1
      have hq : ((bstr (digs a0 m)).toList == (bstr (digs a1 m)).toList) = (a0 == a1) := by
        rw [beq_bstr (R01.wf_byte (digs_byte _ _)) (R01.wf_byte (digs_byte _ _))]
        by_cases e : a0 = a1
        · subst e; simp
        · have : ¬ digs a0 m = digs a1 m := fun hh => e (digs_inj _ _ m b0.1 (by omega) b1.1 (by omega) hh)
          rw [decide_eq_false this]; symm; simpa using e
      clear hN hE A hlen hwf hr5 hc5 hm5 o5 o1 g3w g4w g5w f1
      refine (hA.out).mono ?_; rintro e w' ⟨rfl, rfl⟩
      go_wp2_with (go_at_call 15; refine (alive_any _).mono ?_; rintro e w' ⟨rfl, hbA⟩)
      go_ret
      exact ⟨rfl, (hb12.trans (f5.mono hb12.size)).trans (hbA.mono (hb12.trans (f5.mono hb12.size)).size)⟩
  · have h' : isW a2 = false := by simpa using h
    go_enter Try.func6, Try.ntmps6
    go_wp2_with (first | (go_at_call 21; refine (R01.width_any _ _).mono ?_; rintro e w' ⟨rfl, rfl⟩) | (go_at_call 15; refine (alive_any _).mono ?_; rintro e w' ⟨rfl, hb⟩))
    go_ret
    exact ⟨rfl, hb⟩
end Go.Proofs.Ytobbfacpolmcaaa.Wk

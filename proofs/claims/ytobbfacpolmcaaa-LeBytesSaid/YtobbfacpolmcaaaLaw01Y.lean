/- A law of layer 1: the walk of its Go text, out of the contracts of what it calls. -/
import Derived.Test.YtobbfacpolmcaaaLaw01
import Derived.Deep.QuietTactic
import Derived.BigQuiet
import Derived.StillTailTactics
namespace Go.Proofs.Ytobbfacpolmcaaa.Wk
open Go.RowKit Go.Proofs.Ytobbfacpolmcaaa.Kit Go.Proofs.Ytobbfacpolmcaaa.M01
set_option linter.unusedVariables false
attribute [local irreducible] wpStill


set_option maxHeartbeats 1000000 in
set_option maxRecDepth 100000 in
theorem leBytes_walk (a0 : Option Addr) (l0 c0 : Nat) (x0 : List Int) (a1 : Int) (w : World) (r0 : RowIn .u8 w a0 l0 c0 x0) (b1 : -9223372036854775808 ≤ a1 ∧ a1 ≤ 9223372036854775807) :
    Calls Try.prog 7 #[.slice a0 l0 c0, .int .i64 a1] w fun e w' => e = .returned (.bool true) ∧ Below w.heap.size w w' := by
  have hc0 := r0.hc
  have hm0 := r0.hm
  by_cases h0 : isW (l0 : Int) = true
  · by_cases h : isW a1 = true
    · obtain ⟨h1, h2⟩ := isW_of h
      obtain ⟨h3, h4⟩ := isW_of h0
      obtain ⟨m, rfl⟩ := Int.eq_ofNat_of_zero_le (show 0 ≤ a1 by omega)
      have hby : isByte x0 := R01.byte_of r0.rd
      have hl : x0.length = l0 := r0.hl
      have hlt := val_lt hby
      have hge := val_nonneg hby
      rw [hl] at hlt
      have h64 := pw_bd (show l0 ≤ 8 by omega)
      have V := Le.value_any a0 l0 c0 x0 w r0.rd hl
      have e3 : valueN x0 = val x0 := by simp only [valueN, hl, h0, Bool.true_eq_false, if_false]
      have e4 : valueE x0 = 0 := by simp [valueE, hl, h0]
      rw [e3, e4] at V
      have HV := hid V
      have B1 := bytes_at (n := val x0) (x := (l0 : Int)) (L := x0) (er := 0) (len := l0) hge (by omega) (by simp [bytesL, h0, hlt]; rw [← hl]; exact digs_val _ hby) (by simp [bytesE, h0, hlt]) hl
      obtain ⟨N, eN⟩ : ∃ N, val x0 = N := ⟨_, rfl⟩
      rw [eN] at B1 HV hlt hge
      have HL := hid hl
      have HN := hid eN
      have hN64 : N < 18446744073709551616 := by omega
      clear hl e3 e4 V eN h64
      obtain ⟨b, off, rfl, hcell⟩ := r0.rd.cells (by intro hx; subst hx; have := HL.out; simp at this; omega)
      go_enter Try.func7, Try.ntmps7
      go_wp2_with (first | (go_at_call 21; refine (R01.width_any _ _).mono ?_; rintro e w' ⟨rfl, rfl⟩) | (go_at_call 14; refine (HV.out).mono ?_; rintro e w' ⟨rfl, rfl⟩) | (go_at_call 10; refine (B1.out _).mono ?_; rintro e w1 ⟨p1, q1, rfl, hr1, hb1⟩))
      have hcell1 : ∀ i, i < x0.length → w1.cell? ⟨b, off + i, none⟩ = some (.int .u8 (x0.getD i 0)) := fun i hi => by
        rw [hb1.cell (World.block_lt_of_cell? w _ (hcell i hi))]; exact hcell i hi
      have HC := hid hcell1
      clear hcell1 hcell
      go_loop [9, 10, 11] (fun sm by_ i => ∃ k : Nat, k ≤ l0 ∧ i = .int .i64 k ∧ sm = .int .u64 (val (x0.take k)) ∧ by_ = .int .u64 (IntKind.u64.wrap (pw k))) (fun _ _ i => l0 - (intOf i).toNat)
      case atStart => exact ⟨0, Nat.zero_le _, rfl, by simp [val], by rw [pw_zero]; rfl⟩
      case round =>
        obtain ⟨k, hk, rfl, rfl, rfl⟩ := hrel
        by_cases hltk : k < l0
        · have hkx : k < x0.length := by rw [HL.out]; exact hltk
          have hcj := HC.out k hkx
          have hy := isByte_at hby hkx
          have hd := val_take_succ x0 k hkx
          have hv := val_lt (isByte_take hby (k + 1))
          rw [List.length_take, Nat.min_eq_left (by omega), hd] at hv
          have hv0 := val_nonneg (isByte_take hby k)
          have h64 := pw_bd (show k + 1 ≤ 8 by omega)
          have hpk := pw_pos k
          have hps := pw_succ k
          have ew : IntKind.u64.wrap (pw k) = pw k := by rw [IntKind.wrap_u64]; omega
          rw [ew]
          have hmul : 0 ≤ pw k * x0.getD k 0 := Int.mul_nonneg (by omega) hy.1
          rw [Int.mul_comm] at hd hv
          obtain ⟨y, ey⟩ : ∃ y, x0.getD k 0 = y := ⟨_, rfl⟩
          obtain ⟨S, eS⟩ : ∃ S, val (x0.take k) = S := ⟨_, rfl⟩
          obtain ⟨Q, eQ⟩ : ∃ Q, pw k = Q := ⟨_, rfl⟩
          rw [ey, eQ] at hmul
          rw [ey] at hcj hy
          rw [ey, eS, eQ] at hd hv
          rw [eS] at hv0
          rw [eS, eQ]
          rw [hps, eQ] at hv h64
          rw [eQ] at hpk hps ew
          have HD := hid hd
          have HP := hid hps
          clear hd ey eS eQ hps ew
          go_wp2
          go_round
          case rel => exact ⟨k + 1, by omega, by go_num, by rw [HD.out], by rw [HP.out, Int.mul_comm]⟩
          case measure => simp [intOf]; omega
        · obtain rfl : k = l0 := by omega
          rw [show x0.take k = x0 by rw [← HL.out]; simp, HN.out]
          have s0 := ((r0.same hb1).rd.strD (P := Try.prog) k c0 HL.out (src := 22) (dst := 9) Try.underlying22 Try.underlying5 Try.underlying9).1
          have s1 := (hr1.rd.strD (P := Try.prog) k q1 HL.out (src := 22) (dst := 9) Try.underlying22 Try.underlying5 Try.underlying9).1
          go_wp2_with fail
          by_cases hmk : m < k
          · obtain ⟨OV, eO⟩ : ∃ OV, nz x0 m k = OV := ⟨_, rfl⟩
            have hfz := fits_nz hby m (by rw [HL.out]; omega)
            rw [HL.out, eO, HN.out] at hfz
            have main : ∀ (L : List Int) (er : Int), bytesL N (m : Int) = L → bytesE N (m : Int) = er → ((OV = true ∧ L = [] ∧ er = 16) ∨ (OV = false ∧ L = x0.take m ∧ er = 0)) → True := fun _ _ _ _ _ => trivial
            have B2 := bytes_at (n := N) (x := (m : Int)) (L := bytesL N m) (er := bytesE N m) (len := (bytesL N m).length) hge hN64 rfl rfl rfl
            have hB : (OV = true ∧ bytesL N (m : Int) = [] ∧ bytesE N (m : Int) = 16) ∨ (OV = false ∧ bytesL N (m : Int) = x0.take m ∧ bytesE N (m : Int) = 0) := by
              cases hOV : OV with
              | true =>
                rw [hOV] at hfz
                have : ¬ N < pw m := by simpa using hfz
                left; simp [bytesL, bytesE, h, this]
              | false =>
                rw [hOV] at hfz
                have : N < pw m := by simpa using hfz
                right
                refine ⟨rfl, ?_, by simp [bytesE, h, this]⟩
                rw [← digs_take hby m (by rw [HL.out]; omega), HN.out]
                simp [bytesL, h, this]
            have HO := hid eO
            clear main hfz eO
            rcases hB with ⟨rfl, eL, eE⟩ | ⟨rfl, eL, eE⟩
            · rw [eL, eE] at B2
              clear eL eE
              refine (B2.out _).mono ?_; rintro e w2 ⟨p2, q2, rfl, hr2, hb2⟩
              have hr0w := (r0.same (hb1.trans (hb2.mono hb1.size))).rd
              have HC2 := hid (hr0w.cells (by intro hx; subst hx; have := HL.out; simp at this; omega))
              go_wp2_with fail
              go_loop [14, 15] (fun ov i => ∃ j : Nat, m ≤ j ∧ j ≤ k ∧ i = .int .i64 j ∧ ov = .bool (nz x0 m j)) (fun _ i => k - (intOf i).toNat)
              case atStart => exact ⟨m, Nat.le_refl _, by omega, rfl, by rw [nz_start]⟩
              case round =>
                obtain ⟨j, hmj, hjk, rfl, rfl⟩ := hrel
                by_cases hlj : j < k
                · have hjx : j < x0.length := by rw [HL.out]; exact hlj
                  obtain ⟨b', off', eb, hcc⟩ := HC2.out
                  cases eb
                  have hcj := hcc j hjx
                  have hst := nz_step hby m j hmj hjx
                  obtain ⟨y, ey⟩ : ∃ y, x0.getD j 0 = y := ⟨_, rfl⟩
                  rw [ey] at hcj hst
                  have HS := hid hst
                  clear hst ey hcc
                  by_cases hov : nz x0 m j = true
                  · rw [hov]
                    rw [hov] at HS
                    go_wp2
                    go_round
                    case rel => exact ⟨j + 1, by omega, by omega, by go_num, by rw [HS.out]; rfl⟩
                    case measure => simp [intOf]; omega
                  · have hov' : nz x0 m j = false := by simpa using hov
                    rw [hov']
                    rw [hov'] at HS
                    clear hov
                    go_wp2
                    go_round
                    case rel => exact ⟨j + 1, by omega, by omega, by go_num, by rw [HS.out]; simp⟩
                    case measure => simp [intOf]; omega
                · obtain rfl : j = k := by omega
                  rw [HO.out]
                  go_wp2_with fail
                  have hbw : Below w.heap.size w w2 := hb1.trans (hb2.mono hb1.size)
                  clear HC2 HC HV B1 B2 r0 hr1 hr2 hb1 hb2 hr0w hby HN HL HO hlj hjk hmj
                  refine region_tail 17 (by kernel_rfl) (by kernel_rfl) (fun K hK => ?_)
                  simp only [List.take_succ_cons, List.take_zero, List.drop_succ_cons, List.drop_zero] at hK ⊢
                  iterate 17 still_step
                  refine wpStill_nil ?_
                  refine hK _ ?_
                  clear hK K
                  go_wp2_with (go_at_call 15; refine (alive_any _).mono ?_; rintro e w' ⟨rfl, hbA⟩)
                  go_ret
                  exact ⟨rfl, (hbw.drew).trans (hbA.mono hbw.size)⟩
            · rw [eL, eE] at B2
              clear eL eE
              have hlm : (x0.take m).length = m := by rw [List.length_take, HL.out]; omega
              rw [hlm] at B2
              refine (B2.out _).mono ?_; rintro e w2 ⟨p2, q2, rfl, hr2, hb2⟩
              have HLM := hid hlm
              clear hlm
              have hr0w := (r0.same (hb1.trans (hb2.mono hb1.size))).rd
              have HC2 := hid (hr0w.cells (by intro hx; subst hx; have := HL.out; simp at this; omega))
              go_wp2_with fail
              go_loop [14, 15] (fun ov i => ∃ j : Nat, m ≤ j ∧ j ≤ k ∧ i = .int .i64 j ∧ ov = .bool (nz x0 m j)) (fun _ i => k - (intOf i).toNat)
              case atStart => exact ⟨m, Nat.le_refl _, by omega, rfl, by rw [nz_start]⟩
              case round =>
                obtain ⟨j, hmj, hjk, rfl, rfl⟩ := hrel
                by_cases hlj : j < k
                · have hjx : j < x0.length := by rw [HL.out]; exact hlj
                  obtain ⟨b', off', eb, hcc⟩ := HC2.out
                  cases eb
                  have hcj := hcc j hjx
                  have hst := nz_step hby m j hmj hjx
                  obtain ⟨y, ey⟩ : ∃ y, x0.getD j 0 = y := ⟨_, rfl⟩
                  rw [ey] at hcj hst
                  have HS := hid hst
                  clear hst ey hcc
                  by_cases hov : nz x0 m j = true
                  · rw [hov]
                    rw [hov] at HS
                    go_wp2
                    go_round
                    case rel => exact ⟨j + 1, by omega, by omega, by go_num, by rw [HS.out]; rfl⟩
                    case measure => simp [intOf]; omega
                  · have hov' : nz x0 m j = false := by simpa using hov
                    rw [hov']
                    rw [hov'] at HS
                    clear hov
                    go_wp2
                    go_round
                    case rel => exact ⟨j + 1, by omega, by omega, by go_num, by rw [HS.out]; simp⟩
                    case measure => simp [intOf]; omega
                · obtain rfl : j = k := by omega
                  rw [HO.out]
                  have s3 := ((hr2.rd.drew).strD (P := Try.prog) m q2 HLM.out (src := 22) (dst := 9) Try.underlying22 Try.underlying5 Try.underlying9).1
                  have hmc : m ≤ c0 := by omega
                  have s4 := (((hr0w.take m).drew).strD (P := Try.prog) m c0 HLM.out (src := 22) (dst := 9) Try.underlying22 Try.underlying5 Try.underlying9).1
                  go_wp2_with fail
                  have hbw : Below w.heap.size w w2 := hb1.trans (hb2.mono hb1.size)
                  clear HC2 HC HV B1 B2 r0 hr1 hr2 hb1 hb2 hr0w hby HN HL HO HLM hlj hjk hmj
                  refine region_tail 17 (by kernel_rfl) (by kernel_rfl) (fun K hK => ?_)
                  simp only [List.take_succ_cons, List.take_zero, List.drop_succ_cons, List.drop_zero] at hK ⊢
                  iterate 17 still_step
                  refine wpStill_nil ?_
                  refine hK _ ?_
                  clear hK K
                  go_wp2_with (go_at_call 15; refine (alive_any _).mono ?_; rintro e w' ⟨rfl, hbA⟩)
                  go_ret
                  exact ⟨rfl, (hbw.drew).trans (hbA.mono hbw.size)⟩
          · have hbm := bytesL N (m : Int)
            have eL : bytesL N (m : Int) = x0 ++ List.replicate (m - k) 0 := by
              rw [← digs_more hby (m - k), HL.out, HN.out, show k + (m - k) = m by omega]
              have : N < pw m := by have := pw_le (show k ≤ m by omega); omega
              simp [bytesL, h, this]
            have eE : bytesE N (m : Int) = 0 := by
              have : N < pw m := by have := pw_le (show k ≤ m by omega); omega
              simp [bytesE, h, this]
            have hlm : (x0 ++ List.replicate (m - k) (0 : Int)).length = m := by rw [List.length_append, HL.out, List.length_replicate]; omega
            have B2 := bytes_at (n := N) (x := (m : Int)) (er := 0) (len := m) hge hN64 eL eE hlm
            have HLM := hid hlm
            clear hbm eL eE hlm
            refine (B2.out _).mono ?_; rintro e w2 ⟨p2, q2, rfl, hr2, hb2⟩
            have hr0w := (r0.same (hb1.trans (hb2.mono hb1.size))).rd
            have hbw : Below w.heap.size w w2 := hb1.trans (hb2.mono hb1.size)
            obtain ⟨b2, off2, rfl, hcell2⟩ := hr2.rd.cells (by intro hx; have h9 := HLM.out; rw [hx] at h9; simp at h9; omega)
            have e7 : (x0 ++ List.replicate (m - k) (0 : Int)).take k = x0 := List.take_left' HL.out
            have hr7 := hr2.rd.take k
            rw [e7] at hr7
            have s3 := (hr7.strD (P := Try.prog) k q2 HL.out (src := 22) (dst := 9) Try.underlying22 Try.underlying5 Try.underlying9).2
            have s4 := (hr0w.strD (P := Try.prog) k c0 HL.out (src := 22) (dst := 9) Try.underlying22 Try.underlying5 Try.underlying9).2
            have hz : ∀ i, k ≤ i → i < m → w2.cell? ⟨b2, off2 + i, none⟩ = some (.int .u8 0) := by
              intro i h5 h6
              rw [hcell2 i (by rw [HLM.out]; exact h6), List.getD_eq_getElem?_getD, List.getElem?_append_right (by rw [HL.out]; exact h5), List.getElem?_replicate, if_pos (by rw [HL.out]; omega)]
              rfl
            have HZ := hid hz
            have hmm : m ≤ q2 := hr2.hc
            clear hz HC HV B1 B2 r0 hr1 hr2 hb1 hb2 hr0w hby HN HL e7 hr7 hcell2 HLM
            go_wp2_with fail
            go_quiet (fail)
            go_wp2_with fail
            go_loop [16] (fun i => ∃ j : Nat, k ≤ j ∧ j ≤ m ∧ i = .int .i64 j) (fun i => m - (intOf i).toNat)
            case atStart => exact ⟨k, Nat.le_refl _, by omega, rfl⟩
            case round =>
              obtain ⟨j, hj1, hj2, rfl⟩ := hrel
              by_cases hlj : j < m
              · have hcj := HZ.out j hj1 hlj
                go_wp2
                go_round
                case rel => exact ⟨j + 1, by omega, by omega, by go_num⟩
                case measure => simp [intOf]; omega
              · obtain rfl : j = m := by omega
                go_wp2_with (go_at_call 15; refine (alive_any _).mono ?_; rintro e w' ⟨rfl, hbA⟩)
                go_ret
                exact ⟨rfl, (below_drewN hbw _).trans (hbA.mono hbw.size)⟩
    · have h' : isW a1 = false := by simpa using h
      go_enter Try.func7, Try.ntmps7
      go_wp2_with (first | (go_at_call 21; refine (R01.width_any _ _).mono ?_; rintro e w' ⟨rfl, rfl⟩) | (go_at_call 15; refine (alive_any _).mono ?_; rintro e w' ⟨rfl, hb⟩))
      go_ret
      exact ⟨rfl, hb⟩
  · have h' : isW (l0 : Int) = false := by simpa using h0
    go_enter Try.func7, Try.ntmps7
    go_wp2_with (first | (go_at_call 21; refine (R01.width_any _ _).mono ?_; rintro e w' ⟨rfl, rfl⟩) | (go_at_call 15; refine (alive_any _).mono ?_; rintro e w' ⟨rfl, hb⟩))
    go_ret
    exact ⟨rfl, hb⟩
end Go.Proofs.Ytobbfacpolmcaaa.Wk

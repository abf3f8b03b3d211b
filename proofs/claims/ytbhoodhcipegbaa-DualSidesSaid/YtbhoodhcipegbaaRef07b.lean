/- What the reference's Write and Read of layer 7 return: walks of their Go text. -/
import Derived.Test.YtbhoodhcipegbaaRef07
namespace Go.Proofs.Ytbhoodhcipegbaa.R07
open Go.Proofs Go.RowKit Go.Proofs.Ytbhoodhcipegbaa.Kit Go.Proofs.Ytbhoodhcipegbaa.M01 Go.Proofs.Ytbhoodhcipegbaa.M02 Go.Proofs.Ytbhoodhcipegbaa.M06 Go.Proofs.Ytbhoodhcipegbaa.M07 Go.Proofs.Ytbhoodhcipegbaa.Bt Go.Proofs.Ytbhoodhcipegbaa.R02 Go.Proofs.Ytbhoodhcipegbaa.Un Go.Proofs.Ytbhoodhcipegbaa.R06 Go.Proofs.Ytbhoodhcipegbaa.Ri
set_option linter.unusedVariables false


set_option maxHeartbeats 4000000 in
theorem rgot7_any (a : Option Addr) (len cap : Nat) (xs : List Int) (n p k : Int) (w : World) (hr : RowIn .u8 w a len cap xs) (hok : okB xs n = true) (hp0 : 0 ≤ p) (hp1 : p ≤ 9223372036854775807) (h0 : 0 ≤ k) (h1 : k ≤ 24) :
    Calls Try.prog 68 #[bv a len cap n, .int .i64 p, .int .i64 k] w fun e w' => e = .returned (.tuple #[.int .u32 (rrN xs n p k), .int .i64 (rrX xs n p k), .int .i64 (rrE xs n p k)]) ∧ Below w.heap.size w w' := by
  obtain ⟨hn0, hn1, hxl, hval⟩ := okB_iff.1 hok
  have hll := hr.hl
  have hby := byte_of hr.rd
  have hbe := below1 w (.cells #[.slice a len cap, .int .i64 n] 24)
  have hsz := size1 w (.cells #[.slice a len cap, .int .i64 n] 24)
  obtain ⟨c0, c1, c2, c3⟩ := Box2.of (blk1 w (.cells #[.slice a len cap, .int .i64 n] 24))
  have hK : ¬ (k < 0 ∨ 24 < k) := by omega
  by_cases hpn : n ≤ p
  · have eR : rdE xs n p = 24 := by rw [rdE, if_pos hok, if_neg (by omega), if_pos hpn]
    have eE : rrE xs n p k = 24 := by rw [rrE, if_pos hok, if_neg hK, if_pos (by rw [eR]; decide), eR]
    rw [rrN, rrX, eE, if_neg (by decide), if_neg (by decide)]
    have f1 : (n ≤ p) = True := eq_true hpn
    clear eR eE hok hxl hval
    unfold bv
    go_enter Try.func68, Try.ntmps68
    go_wp2
    go_ret3
    exact ⟨rfl, hbe⟩
  · have f1 : (n ≤ p) = False := eq_false hpn
    have hG := fun w' hb => rgot_any a len cap xs n p w' (hr.same hb) hok hp0 (by omega)
    by_cases hE : rdE xs n p = 0
    · obtain ⟨-, pX, pN, pL⟩ := rd_next hby hok hE
      have hgn : gotN xs n p = cq (val xs / p2 p) := by rw [gotN, if_pos hE, pN]
      simp only [hgn, pX] at hG
      have hcq := cq_bd (val xs / p2 p)
      have hrs := runS_bd hcq.1 hcq.2
      have hbs := bhS_bd (cq (val xs / p2 p)) h0 h1
      have f2 : (cq (val xs / p2 p) < 0) = False := eq_false (by omega)
      by_cases hS : n - (p + runS (cq (val xs / p2 p))) < bhS (cq (val xs / p2 p)) k
      · have eE : rrE xs n p k = 24 := by rw [rrE, if_pos hok, if_neg hK, if_neg (by rw [hE]; simp), if_pos (by rw [pX]; exact hS)]
        rw [rrN, rrX, eE, if_neg (by decide), if_neg (by decide)]
        obtain ⟨Q, hQ⟩ : ∃ Q, cq (val xs / p2 p) = Q := ⟨_, rfl⟩
        clear eE pX pN hE hgn
        simp only [hQ] at hG hcq hrs hbs f2 hS pL
        clear hQ hok hxl hval
        by_cases h48 : Q = 48
        · subst h48
          rw [runS_48] at hS hG
          rw [bhS_48] at hS
          have f3 : (n - (p + 48) < 32) = True := eq_true hS
          unfold bv at hG ⊢
          go_enter Try.func68, Try.ntmps68
          go_wp2_with (go_at_call 75; (with_reducible refine (hG _ hbe).mono ?_); rintro e w2 ⟨rfl, hb2⟩; have hB2 := hbe.trans (hb2.mono (by omega)); have hsz2 := hb2.size; obtain ⟨d0, d1, d2, d3⟩ := (Box2.mk c0 c1 c2 c3).below hb2 (by omega); clear c0 c1 c2 c3)
          go_ret3
          exact ⟨rfl, hB2⟩
        · rw [bhS_lt k (by omega)] at hS
          have f3 : (n - (p + runS Q) < k) = True := eq_true hS
          have f4 : (Q = 48) = False := eq_false h48
          have f5 : (Q == 48) = false := beq_eq_false_iff_ne.2 h48
          obtain ⟨S, hSS⟩ : ∃ S, runS Q = S := ⟨_, rfl⟩
          simp only [hSS] at hG f3 hrs pL
          unfold bv at hG ⊢
          go_enter Try.func68, Try.ntmps68
          go_wp2_with (go_at_call 75; (with_reducible refine (hG _ hbe).mono ?_); rintro e w2 ⟨rfl, hb2⟩; have hB2 := hbe.trans (hb2.mono (by omega)); have hsz2 := hb2.size; obtain ⟨d0, d1, d2, d3⟩ := (Box2.mk c0 c1 c2 c3).below hb2 (by omega); clear c0 c1 c2 c3)
          go_ret3
          exact ⟨rfl, hB2⟩
      · have hV := fun w' hb => value_any a len cap xs n (p + runS (cq (val xs / p2 p))) (bhS (cq (val xs / p2 p)) k) w' (hr.same hb) (by omega) (by omega) (by omega) (by omega) (by omega)
        have hgq : val xs / p2 (p + runS (cq (val xs / p2 p))) % p2 (bhS (cq (val xs / p2 p)) k) = dcG (val xs / p2 p) k := by
          unfold dcG dcM
          rw [p2_add hp0 (by omega), ← Int.ediv_ediv_of_nonneg (by have := p2_pos p; omega)]
        simp only [hgq] at hV
        have hR : ∀ e, (qP (dcN (val xs / p2 p) k) k ≠ cq (val xs / p2 p) → e = 12) → (qP (dcN (val xs / p2 p) k) k = cq (val xs / p2 p) → e = 0) → rrE xs n p k = e := by
          intro e h12 h00
          rw [rrE, if_pos hok, if_neg hK, if_neg (by rw [hE]; simp), if_neg (by rw [pX]; exact hS)]
          by_cases g : qP (dcN (val xs / p2 p) k) k = cq (val xs / p2 p)
          · rw [if_neg (by simp [g]), h00 g]
          · rw [if_pos g, h12 g]
        have hgb := dcG_bd (val xs / p2 p) k
        have hnb := dcN_bd (X := val xs / p2 p) h0 h1
        have hF := fun w' => rpart_any (dcN (val xs / p2 p) k) k w' ⟨hnb.1, hnb.2.1⟩ h0 h1
        have hX : rrX xs n p k = if rrE xs n p k = 0 then p + runS (cq (val xs / p2 p)) + bhS (cq (val xs / p2 p)) k else 0 := by
          unfold rrX dcS dcM; rw [Int.add_assoc]
        have hN : rrN xs n p k = if rrE xs n p k = 0 then dcN (val xs / p2 p) k else 0 := rfl
        have hq := fun g => (dc_q (X := val xs / p2 p) (k := k) g).1
        have hqb := qP_bd k hnb.1
        have hd : dcN (val xs / p2 p) k = if cq (val xs / p2 p) = 48 then dcG (val xs / p2 p) k else cq (val xs / p2 p) * p2 k + dcG (val xs / p2 p) k := rfl
        have hM : dcM (val xs / p2 p) k = bhS (cq (val xs / p2 p)) k := rfl
        have hPw := fun w' => rpower_any k w' h0 (by omega)
        rw [hM] at hgb
        rw [hN, hX]
        clear hgq pX pN hE hN hX hM hgn
        obtain ⟨E, hEE⟩ : ∃ S, rrE xs n p k = S := ⟨_, rfl⟩
        obtain ⟨D, hD⟩ : ∃ S, dcN (val xs / p2 p) k = S := ⟨_, rfl⟩
        obtain ⟨G, hGG⟩ : ∃ S, dcG (val xs / p2 p) k = S := ⟨_, rfl⟩
        obtain ⟨Q, hQ⟩ : ∃ Q, cq (val xs / p2 p) = Q := ⟨_, rfl⟩
        simp only [hEE] at hR ⊢
        simp only [hD] at hR hd hnb hF hq hqb ⊢
        simp only [hGG] at hV hgb hd
        simp only [hQ] at hG hR hd hV hgb hq hnb hcq hrs hbs pL hS f2 ⊢
        clear hEE hD hGG hQ hok hxl hval
        by_cases h48 : Q = 48
        · subst h48
          rw [if_pos rfl] at hd
          subst hd
          simp only [bhS_48, runS_48] at hG hV hS hgb hbs pL hcq hrs ⊢
          rw [p2_32] at hgb
          have f3 : (n - (p + 48) < 32) = False := eq_false hS
          by_cases g : qP D k = 48
          · obtain rfl : E = 0 := hR 0 (fun q => absurd g q) (fun _ => rfl)
            rw [if_pos rfl, if_pos rfl]
            rw [g] at hF
            clear hR hq hnb g hqb
            unfold bv at hG hV ⊢
            go_enter Try.func68, Try.ntmps68
            go_wp2_with (first | (go_at_call 75; (with_reducible refine (hG _ hbe).mono ?_); rintro e w2 ⟨rfl, hb2⟩; have hB2 := hbe.trans (hb2.mono (by omega)); have hsz2 := hb2.size; obtain ⟨d0, d1, d2, d3⟩ := (Box2.mk c0 c1 c2 c3).below hb2 (by omega); clear c0 c1 c2 c3) | (go_at_call 67; (with_reducible refine (hV _ hB2).mono ?_); rintro e w3 ⟨rfl, hb3⟩; have hB3 := hB2.trans (hb3.mono (by omega))) | (go_at_call 73; (with_reducible refine (hF _).mono ?_); rintro e w4 ⟨rfl, rfl⟩))
            go_ret3
            exact ⟨rfl, hB3⟩
          · obtain rfl : E = 12 := hR 12 (fun _ => rfl) (fun q => absurd q g)
            rw [if_neg (by decide), if_neg (by decide)]
            obtain ⟨Z, hZ⟩ : ∃ Z, qP D k = Z := ⟨_, rfl⟩
            rw [hZ] at hF g hqb
            have f4 : (Z < 48) = True := eq_true (by omega)
            clear hR hq hnb g hZ
            unfold bv at hG hV ⊢
            go_enter Try.func68, Try.ntmps68
            go_wp2_with (first | (go_at_call 75; (with_reducible refine (hG _ hbe).mono ?_); rintro e w2 ⟨rfl, hb2⟩; have hB2 := hbe.trans (hb2.mono (by omega)); have hsz2 := hb2.size; obtain ⟨d0, d1, d2, d3⟩ := (Box2.mk c0 c1 c2 c3).below hb2 (by omega); clear c0 c1 c2 c3) | (go_at_call 67; (with_reducible refine (hV _ hB2).mono ?_); rintro e w3 ⟨rfl, hb3⟩; have hB3 := hB2.trans (hb3.mono (by omega))) | (go_at_call 73; (with_reducible refine (hF _).mono ?_); rintro e w4 ⟨rfl, rfl⟩))
            go_ret3
            exact ⟨rfl, hB3⟩
        · rw [if_neg h48] at hd
          have g := hq h48
          obtain rfl : E = 0 := hR 0 (fun q => absurd g q) (fun _ => rfl)
          rw [if_pos rfl, if_pos rfl]
          have hlt : Q < 48 := by omega
          simp only [bhS_lt k hlt] at hV hS hgb hbs pL hcq hrs ⊢
          have hp24 : p2 k ≤ 16777216 := by rw [← p2_24]; exact p2_le h1
          have hp1 := p2_pos k
          have hpr := Int.mul_nonneg hcq.1 (show 0 ≤ p2 k by omega)
          have hpl : Q * p2 k ≤ 47 * p2 k := Int.mul_le_mul_of_nonneg_right (by omega) (by omega)
          have f5 : (Q < 48) = True := eq_true hlt
          have f4 : (Q = 48) = False := eq_false h48
          have f6 : (Q == 48) = false := beq_eq_false_iff_ne.2 h48
          have hD2 : Q * p2 k + G = D := hd.symm
          obtain ⟨S, hSS⟩ : ∃ S, runS Q = S := ⟨_, rfl⟩
          obtain ⟨P, hPP⟩ : ∃ S, p2 k = S := ⟨_, rfl⟩
          simp only [hSS] at hG hV hS hrs pL ⊢
          simp only [hPP] at hPw hp24 hp1 hpr hpl hD2 hgb
          have f3 : (n - (p + S) < k) = False := eq_false hS
          clear hR hq g hlt hd hSS hF hqb hPP
          unfold bv at hG hV ⊢
          go_enter Try.func68, Try.ntmps68
          go_wp2_with (first | (go_at_call 75; (with_reducible refine (hG _ hbe).mono ?_); rintro e w2 ⟨rfl, hb2⟩; have hB2 := hbe.trans (hb2.mono (by omega)); have hsz2 := hb2.size; obtain ⟨d0, d1, d2, d3⟩ := (Box2.mk c0 c1 c2 c3).below hb2 (by omega); clear c0 c1 c2 c3) | (go_at_call 67; (with_reducible refine (hV _ hB2).mono ?_); rintro e w3 ⟨rfl, hb3⟩; have hB3 := hB2.trans (hb3.mono (by omega))) | (go_at_call 69; (with_reducible refine (hPw _).mono ?_); rintro e w4 ⟨rfl, rfl⟩))
          go_ret3
          exact ⟨rfl, hB3⟩
    · have eG : gotN xs n p = -1 := by rw [gotN, if_neg hE]
      have eX : rdX xs n p = 0 := by rw [rdX, if_neg hE]
      have eR : rdE xs n p = 24 := by
        unfold rdE at hE ⊢
        rw [if_pos hok, if_neg (by omega), if_neg (by omega)] at hE ⊢
        split at hE
        · rename_i q; rw [if_pos q]
        · omega
      have eE : rrE xs n p k = 24 := by rw [rrE, if_pos hok, if_neg hK, if_pos hE, eR]
      rw [rrN, rrX, eE, if_neg (by decide), if_neg (by decide)]
      simp only [eG, eX] at hG
      clear eG eX eR eE hok hxl hval hE
      unfold bv at hG ⊢
      go_enter Try.func68, Try.ntmps68
      go_wp2_with (go_at_call 75; (with_reducible refine (hG _ hbe).mono ?_); rintro e w2 ⟨rfl, hb2⟩; have hB2 := hbe.trans (hb2.mono (by omega)); have hsz2 := hb2.size; obtain ⟨d0, d1, d2, d3⟩ := (Box2.mk c0 c1 c2 c3).below hb2 (by omega); clear c0 c1 c2 c3)
      go_ret3
      exact ⟨rfl, hB2⟩

end Go.Proofs.Ytbhoodhcipegbaa.R07

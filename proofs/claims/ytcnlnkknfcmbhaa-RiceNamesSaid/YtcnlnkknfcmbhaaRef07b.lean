/- What the reference's Write and Read of layer 7 return: walks of their Go text. -/
import Derived.Test.YtcnlnkknfcmbhaaRef07
namespace Go.Proofs.Ytcnlnkknfcmbhaa.R07
open Go.Proofs Go.RowKit Go.Proofs.Ytcnlnkknfcmbhaa.Kit Go.Proofs.Ytcnlnkknfcmbhaa.M01 Go.Proofs.Ytcnlnkknfcmbhaa.M02 Go.Proofs.Ytcnlnkknfcmbhaa.M06 Go.Proofs.Ytcnlnkknfcmbhaa.M07 Go.Proofs.Ytcnlnkknfcmbhaa.Bt Go.Proofs.Ytcnlnkknfcmbhaa.R02 Go.Proofs.Ytcnlnkknfcmbhaa.Un Go.Proofs.Ytcnlnkknfcmbhaa.R06 Go.Proofs.Ytcnlnkknfcmbhaa.Ri
set_option linter.unusedVariables false

set_option maxHeartbeats 4000000 in
theorem rwrite7_any (a : Option Addr) (len cap : Nat) (xs : List Int) (n v k : Int) (w : World) (hr : RowIn .u8 w a len cap xs) (hn : isInt n) (hv : isU32 v) :
    Calls Try.prog 18 #[bv a len cap n, .int .u32 v, .int .i64 k] w fun e w' => ∃ a' cap', e = .returned (.tuple #[bv a' (rwL xs n v k).length cap' (rwN xs n v k), .int .i64 (rwE xs n v k)]) ∧ RowIn .u8 w' a' (rwL xs n v k).length cap' (rwL xs n v k) ∧ Below w.heap.size w w' := by
  have hC := fun w' hb => rcheck_any a len cap xs n w' (hr.same hb) hn
  have hI := fun w' => rparam_any k w'
  by_cases hok : okB xs n = true
  · have e1 : chkE xs n = 0 := by simp [chkE, hok]
    rw [e1] at hC
    clear e1
    by_cases h : k < 0 ∨ 24 < k
    · rw [isK_no h] at hI
      have eE : rwE xs n v k = 2 := by rw [rwE, if_pos hok, if_pos h]
      have eL : rwL xs n v k = [] := by rw [rwL, if_neg (by rw [eE]; decide)]
      have eN : rwN xs n v k = 0 := by rw [rwN, if_neg (by rw [eE]; decide)]
      rw [eE, eL, eN]
      clear eE eL eN hok
      unfold bv at hC ⊢
      go_enter Try.func18, Try.ntmps18
      go_wp2_with (first | (go_at_call 21; refine (hC _ (below2 _ _ _)).mono ?_; rintro e w1 ⟨rfl, hb1⟩; rw [size2] at hb1; have hB1 := (below2 w _ _).trans (hb1.mono (by omega)); have hsz := hb1.size; rw [size2] at hsz; obtain ⟨c0, c1, c2, c3⟩ := (Box2.of (blk2a w _ _)).below hb1 (by omega); obtain ⟨r0, r1, r2, r3⟩ := (Box2.of (blk2 w _ _)).below hb1 (by omega)) | (go_at_call 36; (with_reducible refine (hI _).mono ?_); rintro e w2 ⟨rfl, rfl⟩))
      refine bodyPost_ret_by (v := .tuple #[.agg #[.slice none 0 0, .int .i64 0], .int .i64 2]) (by rw [results_cell_tmp rfl]; go_simp) rfl ?_
      exact ⟨none, 0, rfl, RowIn.nil, (hB1.setCell (by dsimp only; omega) _).setCell (by dsimp only; omega) _⟩
    · have h0 : 0 ≤ k := by omega
      have h1 : k ≤ 24 := by omega
      rw [isK_yes h0 h1] at hI
      obtain ⟨hn0, hn1, hxl, hval⟩ := okB_iff.1 hok
      have hb := cdS_bd hv.1 h0 h1
      have hL := fun w' => rlong7_any v k w' hv h0 h1
      by_cases h3 : 330000 < n + cdS v k
      · have eE : rwE xs n v k = 18 := by rw [rwE, if_pos hok, if_neg h, if_pos h3]
        have eL : rwL xs n v k = [] := by rw [rwL, if_neg (by rw [eE]; decide)]
        have eN : rwN xs n v k = 0 := by rw [rwN, if_neg (by rw [eE]; decide)]
        rw [eE, eL, eN]
        obtain ⟨S, hS⟩ : ∃ S, cdS v k = S := ⟨_, rfl⟩
        rw [hS] at h3 hb
        simp only [hS] at hL
        have f3 : (330000 < n + S) = True := eq_true h3
        clear eE eL eN hok hxl hval hS
        unfold bv at hC ⊢
        go_enter Try.func18, Try.ntmps18
        go_wp2_with (first | (go_at_call 21; refine (hC _ (below2 _ _ _)).mono ?_; rintro e w1 ⟨rfl, hb1⟩; rw [size2] at hb1; have hB1 := (below2 w _ _).trans (hb1.mono (by omega)); have hsz := hb1.size; rw [size2] at hsz; obtain ⟨c0, c1, c2, c3⟩ := (Box2.of (blk2a w _ _)).below hb1 (by omega); obtain ⟨r0, r1, r2, r3⟩ := (Box2.of (blk2 w _ _)).below hb1 (by omega)) | (go_at_call 36; (with_reducible refine (hI _).mono ?_); rintro e w2 ⟨rfl, rfl⟩))
        go_quiet ((go_at_call 37; exact Calls.quiet_of_same ((hL _).mono (fun _ _ q => ⟨q.1, q.2.symm⟩))))
        go_wp2
        refine bodyPost_ret_by (v := .tuple #[.agg #[.slice none 0 0, .int .i64 0], .int .i64 18]) (by rw [results_cell_tmp rfl]; go_simp) rfl ?_
        exact ⟨none, 0, rfl, RowIn.nil, ((below_drewN hB1 _).setCell (by dsimp only; omega) _).setCell (by dsimp only; omega) _⟩
      · have eE : rwE xs n v k = 0 := by rw [rwE, if_pos hok, if_neg h, if_neg h3]
        have eL : rwL xs n v k = bl (n + cdS v k) (val xs + cdV v k * p2 n) := by rw [rwL, if_pos eE]
        have eN : rwN xs n v k = n + cdS v k := by rw [rwN, if_pos eE]
        rw [eE, eL, eN]
        have hll := hr.hl
        have hby := byte_of hr.rd
        have hx0 := val_nonneg hby
        have hwf := hr.rd.2.2
        have hT := fun w' hb => twin_any a len cap xs n w' (hr.same hb) (by omega)
        have HX := hid (ok_eq hby hok)
        have hwfR := wf_byte (bl_byte (n + cdS v k) (val xs + cdV v k * p2 n))
        have hA := fun w' base a' cap' (ho : OwnI .u8 w' base 5 (.slice a' len cap') (bl n (val xs))) (hbs : base ≤ w'.heap.size) => radd7_any a' len cap' base n (val xs) v k w' ho hbs hn0 hv h0 h1 (by omega) hx0 hval
        obtain ⟨S, hS⟩ : ∃ S, cdS v k = S := ⟨_, rfl⟩
        simp only [hS] at h3 hb hL hA hwfR ⊢
        obtain ⟨R, hR⟩ : ∃ R, bl (n + S) (val xs + cdV v k * p2 n) = R := ⟨_, rfl⟩
        simp only [hR] at hA hwfR ⊢
        have f3 : (330000 < n + S) = False := eq_false h3
        clear eE eL eN hok hxl hval hS hR hx0
        unfold bv at hC hT hA ⊢
        go_enter Try.func18, Try.ntmps18
        go_wp2_with (first | (go_at_call 21; refine (hC _ (below2 _ _ _)).mono ?_; rintro e w1 ⟨rfl, hb1⟩; rw [size2] at hb1; have hB1 := (below2 w _ _).trans (hb1.mono (by omega)); have hsz := hb1.size; rw [size2] at hsz; obtain ⟨c0, c1, c2, c3⟩ := (Box2.of (blk2a w _ _)).below hb1 (by omega); have R1 := (Box2.of (blk2 w _ _)).below hb1 (by omega)) | (go_at_call 36; (with_reducible refine (hI _).mono ?_); rintro e w2 ⟨rfl, rfl⟩))
        go_quiet ((go_at_call 37; exact Calls.quiet_of_same ((hL _).mono (fun _ _ q => ⟨q.1, q.2.symm⟩))))
        have hBq := below_drewN hB1 nq
        have d0 : (w1.drewN nq).cell? ⟨w.heap.size, 0, none⟩ = some (.slice a len cap) := c0
        have d1 : (w1.drewN nq).cell? ⟨w.heap.size, 1, none⟩ = some (.int .i64 n) := c1
        have R2 := Box2.below (w' := w1.drewN nq) R1 (below_drewN (Below.refl w1.heap.size w1) nq) (by omega)
        have hsq : w1.heap.size = (w1.drewN nq).heap.size := by simp
        clear c0 c1 c2 c3 hb1 hB1 R1
        generalize w1.drewN nq = w2 at *
        go_wp2_with (first  | (go_at_call 16; refine (hT _ hBq).mono ?_; rintro e w3 ⟨v, rfl, hown, hb3⟩; obtain ⟨a', cap', rfl, hrow⟩ := hown.row hwf; rw [hll] at hown; rw [HX.out] at hown; have hs3 : w2.heap.size ≤ w3.heap.size := hb3.size; have hB3 := hBq.trans (hb3.mono (by omega)); have R3 := R2.below hb3 (by omega); have hA' := hA w3 w2.heap.size a' cap' hown hs3)  | (go_at_call 38; refine hA'.mono ?_; rintro e w4 ⟨a2, len2, cap2, rfl, ho4, hb4, -⟩; have hB4 := hB3.trans (hb4.mono (by omega)); obtain ⟨r0, r1, r2, r3⟩ := R3.below hb4 (by omega)))
        obtain ⟨a4, cap4, hv4, hrow4⟩ := ho4.row hwfR
        cases hv4
        refine bodyPost_ret_by (v := .tuple #[.agg #[.slice a2 R.length cap2, .int .i64 (n + S)], .int .i64 0]) (by rw [results_cell_tmp rfl]; go_simp) rfl ?_
        have hfar : (Value.slice a2 R.length cap2).ownBlock ≠ some (w.heap.size + 1) := ho4.far (by omega)
        obtain ⟨a5, cap5, hv5, hrow5⟩ := ((ho4.other (i := 0) (u := .slice a2 R.length cap2) hfar).other (i := 1) (u := .int .i64 (n + S)) hfar).row hwfR
        cases hv5
        exact ⟨_, _, rfl, hrow5, (hB4.setCell (by dsimp only; omega) _).setCell (by dsimp only; omega) _⟩
  · have e1 : chkE xs n = 8 := by simp [chkE, hok]
    rw [e1] at hC
    clear e1
    have eE : rwE xs n v k = 8 := by rw [rwE, if_neg hok]
    have eL : rwL xs n v k = [] := by rw [rwL, if_neg (by rw [eE]; decide)]
    have eN : rwN xs n v k = 0 := by rw [rwN, if_neg (by rw [eE]; decide)]
    rw [eE, eL, eN]
    clear eE eL eN
    unfold bv at hC ⊢
    go_enter Try.func18, Try.ntmps18
    go_wp2_with (go_at_call 21; refine (hC _ (below2 _ _ _)).mono ?_; rintro e w1 ⟨rfl, hb1⟩; rw [size2] at hb1; have hB1 := (below2 w _ _).trans (hb1.mono (by omega)); have hsz := hb1.size; rw [size2] at hsz; obtain ⟨c0, c1, c2, c3⟩ := (Box2.of (blk2a w _ _)).below hb1 (by omega); obtain ⟨r0, r1, r2, r3⟩ := (Box2.of (blk2 w _ _)).below hb1 (by omega))
    refine bodyPost_ret_by (v := .tuple #[.agg #[.slice none 0 0, .int .i64 0], .int .i64 8]) (by rw [results_cell_tmp rfl]; go_simp) rfl ?_
    exact ⟨none, 0, rfl, RowIn.nil, (hB1.setCell (by dsimp only; omega) _).setCell (by dsimp only; omega) _⟩

set_option maxHeartbeats 4000000 in
theorem rgot7_any (a : Option Addr) (len cap : Nat) (xs : List Int) (n p k : Int) (w : World) (hr : RowIn .u8 w a len cap xs) (hok : okB xs n = true) (hp0 : 0 ≤ p) (hp1 : p ≤ 9223372036854775807) (h0 : 0 ≤ k) (h1 : k ≤ 24) :
    Calls Try.prog 39 #[bv a len cap n, .int .i64 p, .int .i64 k] w fun e w' => e = .returned (.tuple #[.int .u32 (rrN xs n p k), .int .i64 (rrX xs n p k), .int .i64 (rrE xs n p k)]) ∧ Below w.heap.size w w' := by
  obtain ⟨hn0, hn1, hxl, hval⟩ := okB_iff.1 hok
  have hll := hr.hl
  have hby := byte_of hr.rd
  have hbe := below1 w (.cells #[.slice a len cap, .int .i64 n] 28)
  have hsz := size1 w (.cells #[.slice a len cap, .int .i64 n] 28)
  obtain ⟨c0, c1, c2, c3⟩ := Box2.of (blk1 w (.cells #[.slice a len cap, .int .i64 n] 28))
  have hK : ¬ (k < 0 ∨ 24 < k) := by omega
  by_cases hpn : n ≤ p
  · have eR : rdE xs n p = 24 := by rw [rdE, if_pos hok, if_neg (by omega), if_pos hpn]
    have eE : rrE xs n p k = 24 := by rw [rrE, if_pos hok, if_neg hK, if_pos (by rw [eR]; decide), eR]
    rw [rrN, rrX, eE, if_neg (by decide), if_neg (by decide)]
    have f1 : (n ≤ p) = True := eq_true hpn
    clear eR eE hok hxl hval
    unfold bv
    go_enter Try.func39, Try.ntmps39
    go_wp2
    go_ret3
    exact ⟨rfl, hbe⟩
  · have f1 : (n ≤ p) = False := eq_false hpn
    have hG := fun w' hb => rgot_any a len cap xs n p w' (hr.same hb) hok hp0 (by omega)
    by_cases hE : rdE xs n p = 0
    · obtain ⟨-, pX, pN, pL⟩ := rd_next hby hok hE
      have hgn : gotN xs n p = cq (val xs / p2 p) := by rw [gotN, if_pos hE, pN]
      simp only [hgn, pX] at hG
      have hcq := cq_bd (val xs / p2 p)
      have hrs := runS_bd hcq.1 hcq.2
      have hbs := bhS_bd (cq (val xs / p2 p)) h0 h1
      have f2 : (cq (val xs / p2 p) < 0) = False := eq_false (by omega)
      by_cases hS : n - (p + runS (cq (val xs / p2 p))) < bhS (cq (val xs / p2 p)) k
      · have eE : rrE xs n p k = 24 := by rw [rrE, if_pos hok, if_neg hK, if_neg (by rw [hE]; simp), if_pos (by rw [pX]; exact hS)]
        rw [rrN, rrX, eE, if_neg (by decide), if_neg (by decide)]
        obtain ⟨Q, hQ⟩ : ∃ Q, cq (val xs / p2 p) = Q := ⟨_, rfl⟩
        clear eE pX pN hE hgn
        simp only [hQ] at hG hcq hrs hbs f2 hS pL
        clear hQ hok hxl hval
        by_cases h48 : Q = 48
        · subst h48
          rw [runS_48] at hS hG
          rw [bhS_48] at hS
          have f3 : (n - (p + 48) < 32) = True := eq_true hS
          unfold bv at hG ⊢
          go_enter Try.func39, Try.ntmps39
          go_wp2_with (go_at_call 51; (with_reducible refine (hG _ hbe).mono ?_); rintro e w2 ⟨rfl, hb2⟩; have hB2 := hbe.trans (hb2.mono (by omega)); have hsz2 := hb2.size; obtain ⟨d0, d1, d2, d3⟩ := (Box2.mk c0 c1 c2 c3).below hb2 (by omega); clear c0 c1 c2 c3)
          go_ret3
          exact ⟨rfl, hB2⟩
        · rw [bhS_lt k (by omega)] at hS
          have f3 : (n - (p + runS Q) < k) = True := eq_true hS
          have f4 : (Q = 48) = False := eq_false h48
          have f5 : (Q == 48) = false := beq_eq_false_iff_ne.2 h48
          obtain ⟨S, hSS⟩ : ∃ S, runS Q = S := ⟨_, rfl⟩
          simp only [hSS] at hG f3 hrs pL
          unfold bv at hG ⊢
          go_enter Try.func39, Try.ntmps39
          go_wp2_with (go_at_call 51; (with_reducible refine (hG _ hbe).mono ?_); rintro e w2 ⟨rfl, hb2⟩; have hB2 := hbe.trans (hb2.mono (by omega)); have hsz2 := hb2.size; obtain ⟨d0, d1, d2, d3⟩ := (Box2.mk c0 c1 c2 c3).below hb2 (by omega); clear c0 c1 c2 c3)
          go_ret3
          exact ⟨rfl, hB2⟩
      · have hV := fun w' hb => value_any a len cap xs n (p + runS (cq (val xs / p2 p))) (bhS (cq (val xs / p2 p)) k) w' (hr.same hb) (by omega) (by omega) (by omega) (by omega) (by omega)
        have hgq : val xs / p2 (p + runS (cq (val xs / p2 p))) % p2 (bhS (cq (val xs / p2 p)) k) = dcG (val xs / p2 p) k := by
          unfold dcG dcM
          rw [p2_add hp0 (by omega), ← Int.ediv_ediv_of_nonneg (by have := p2_pos p; omega)]
        simp only [hgq] at hV
        have hR : ∀ e, (qP (dcN (val xs / p2 p) k) k ≠ cq (val xs / p2 p) → e = 12) → (qP (dcN (val xs / p2 p) k) k = cq (val xs / p2 p) → e = 0) → rrE xs n p k = e := by
          intro e h12 h00
          rw [rrE, if_pos hok, if_neg hK, if_neg (by rw [hE]; simp), if_neg (by rw [pX]; exact hS)]
          by_cases g : qP (dcN (val xs / p2 p) k) k = cq (val xs / p2 p)
          · rw [if_neg (by simp [g]), h00 g]
          · rw [if_pos g, h12 g]
        have hgb := dcG_bd (val xs / p2 p) k
        have hnb := dcN_bd (X := val xs / p2 p) h0 h1
        have hF := fun w' => rpart_any (dcN (val xs / p2 p) k) k w' ⟨hnb.1, hnb.2.1⟩ h0 h1
        have hX : rrX xs n p k = if rrE xs n p k = 0 then p + runS (cq (val xs / p2 p)) + bhS (cq (val xs / p2 p)) k else 0 := by
          unfold rrX dcS dcM; rw [Int.add_assoc]
        have hN : rrN xs n p k = if rrE xs n p k = 0 then dcN (val xs / p2 p) k else 0 := rfl
        have hq := fun g => (dc_q (X := val xs / p2 p) (k := k) g).1
        have hqb := qP_bd k hnb.1
        have hd : dcN (val xs / p2 p) k = if cq (val xs / p2 p) = 48 then dcG (val xs / p2 p) k else cq (val xs / p2 p) * p2 k + dcG (val xs / p2 p) k := rfl
        have hM : dcM (val xs / p2 p) k = bhS (cq (val xs / p2 p)) k := rfl
        have hPw := fun w' => rpower_any k w' h0 (by omega)
        rw [hM] at hgb
        rw [hN, hX]
        clear hgq pX pN hE hN hX hM hgn
        obtain ⟨E, hEE⟩ : ∃ S, rrE xs n p k = S := ⟨_, rfl⟩
        obtain ⟨D, hD⟩ : ∃ S, dcN (val xs / p2 p) k = S := ⟨_, rfl⟩
        obtain ⟨G, hGG⟩ : ∃ S, dcG (val xs / p2 p) k = S := ⟨_, rfl⟩
        obtain ⟨Q, hQ⟩ : ∃ Q, cq (val xs / p2 p) = Q := ⟨_, rfl⟩
        simp only [hEE] at hR ⊢
        simp only [hD] at hR hd hnb hF hq hqb ⊢
        simp only [hGG] at hV hgb hd
        simp only [hQ] at hG hR hd hV hgb hq hnb hcq hrs hbs pL hS f2 ⊢
        clear hEE hD hGG hQ hok hxl hval
        by_cases h48 : Q = 48
        · subst h48
          rw [if_pos rfl] at hd
          subst hd
          simp only [bhS_48, runS_48] at hG hV hS hgb hbs pL hcq hrs ⊢
          rw [p2_32] at hgb
          have f3 : (n - (p + 48) < 32) = False := eq_false hS
          by_cases g : qP D k = 48
          · obtain rfl : E = 0 := hR 0 (fun q => absurd g q) (fun _ => rfl)
            rw [if_pos rfl, if_pos rfl]
            rw [g] at hF
            clear hR hq hnb g hqb
            unfold bv at hG hV ⊢
            go_enter Try.func39, Try.ntmps39
            go_wp2_with (first | (go_at_call 51; (with_reducible refine (hG _ hbe).mono ?_); rintro e w2 ⟨rfl, hb2⟩; have hB2 := hbe.trans (hb2.mono (by omega)); have hsz2 := hb2.size; obtain ⟨d0, d1, d2, d3⟩ := (Box2.mk c0 c1 c2 c3).below hb2 (by omega); clear c0 c1 c2 c3) | (go_at_call 52; (with_reducible refine (hV _ hB2).mono ?_); rintro e w3 ⟨rfl, hb3⟩; have hB3 := hB2.trans (hb3.mono (by omega))) | (go_at_call 47; (with_reducible refine (hF _).mono ?_); rintro e w4 ⟨rfl, rfl⟩))
            go_ret3
            exact ⟨rfl, hB3⟩
          · obtain rfl : E = 12 := hR 12 (fun _ => rfl) (fun q => absurd q g)
            rw [if_neg (by decide), if_neg (by decide)]
            obtain ⟨Z, hZ⟩ : ∃ Z, qP D k = Z := ⟨_, rfl⟩
            rw [hZ] at hF g hqb
            have f4 : (Z < 48) = True := eq_true (by omega)
            clear hR hq hnb g hZ
            unfold bv at hG hV ⊢
            go_enter Try.func39, Try.ntmps39
            go_wp2_with (first | (go_at_call 51; (with_reducible refine (hG _ hbe).mono ?_); rintro e w2 ⟨rfl, hb2⟩; have hB2 := hbe.trans (hb2.mono (by omega)); have hsz2 := hb2.size; obtain ⟨d0, d1, d2, d3⟩ := (Box2.mk c0 c1 c2 c3).below hb2 (by omega); clear c0 c1 c2 c3) | (go_at_call 52; (with_reducible refine (hV _ hB2).mono ?_); rintro e w3 ⟨rfl, hb3⟩; have hB3 := hB2.trans (hb3.mono (by omega))) | (go_at_call 47; (with_reducible refine (hF _).mono ?_); rintro e w4 ⟨rfl, rfl⟩))
            go_ret3
            exact ⟨rfl, hB3⟩
        · rw [if_neg h48] at hd
          have g := hq h48
          obtain rfl : E = 0 := hR 0 (fun q => absurd g q) (fun _ => rfl)
          rw [if_pos rfl, if_pos rfl]
          have hlt : Q < 48 := by omega
          simp only [bhS_lt k hlt] at hV hS hgb hbs pL hcq hrs ⊢
          have hp24 : p2 k ≤ 16777216 := by rw [← p2_24]; exact p2_le h1
          have hp1 := p2_pos k
          have hpr := Int.mul_nonneg hcq.1 (show 0 ≤ p2 k by omega)
          have hpl : Q * p2 k ≤ 47 * p2 k := Int.mul_le_mul_of_nonneg_right (by omega) (by omega)
          have f5 : (Q < 48) = True := eq_true hlt
          have f4 : (Q = 48) = False := eq_false h48
          have f6 : (Q == 48) = false := beq_eq_false_iff_ne.2 h48
          have hD2 : Q * p2 k + G = D := hd.symm
          obtain ⟨S, hSS⟩ : ∃ S, runS Q = S := ⟨_, rfl⟩
          obtain ⟨P, hPP⟩ : ∃ S, p2 k = S := ⟨_, rfl⟩
          simp only [hSS] at hG hV hS hrs pL ⊢
          simp only [hPP] at hPw hp24 hp1 hpr hpl hD2 hgb
          have f3 : (n - (p + S) < k) = False := eq_false hS
          clear hR hq g hlt hd hSS hF hqb hPP
          unfold bv at hG hV ⊢
          go_enter Try.func39, Try.ntmps39
          go_wp2_with (first | (go_at_call 51; (with_reducible refine (hG _ hbe).mono ?_); rintro e w2 ⟨rfl, hb2⟩; have hB2 := hbe.trans (hb2.mono (by omega)); have hsz2 := hb2.size; obtain ⟨d0, d1, d2, d3⟩ := (Box2.mk c0 c1 c2 c3).below hb2 (by omega); clear c0 c1 c2 c3) | (go_at_call 52; (with_reducible refine (hV _ hB2).mono ?_); rintro e w3 ⟨rfl, hb3⟩; have hB3 := hB2.trans (hb3.mono (by omega))) | (go_at_call 50; (with_reducible refine (hPw _).mono ?_); rintro e w4 ⟨rfl, rfl⟩))
          go_ret3
          exact ⟨rfl, hB3⟩
    · have eG : gotN xs n p = -1 := by rw [gotN, if_neg hE]
      have eX : rdX xs n p = 0 := by rw [rdX, if_neg hE]
      have eR : rdE xs n p = 24 := by
        unfold rdE at hE ⊢
        rw [if_pos hok, if_neg (by omega), if_neg (by omega)] at hE ⊢
        split at hE
        · rename_i q; rw [if_pos q]
        · omega
      have eE : rrE xs n p k = 24 := by rw [rrE, if_pos hok, if_neg hK, if_pos hE, eR]
      rw [rrN, rrX, eE, if_neg (by decide), if_neg (by decide)]
      simp only [eG, eX] at hG
      clear eG eX eR eE hok hxl hval hE
      unfold bv at hG ⊢
      go_enter Try.func39, Try.ntmps39
      go_wp2_with (go_at_call 51; (with_reducible refine (hG _ hbe).mono ?_); rintro e w2 ⟨rfl, hb2⟩; have hB2 := hbe.trans (hb2.mono (by omega)); have hsz2 := hb2.size; obtain ⟨d0, d1, d2, d3⟩ := (Box2.mk c0 c1 c2 c3).below hb2 (by omega); clear c0 c1 c2 c3)
      go_ret3
      exact ⟨rfl, hB2⟩

set_option maxHeartbeats 4000000 in
theorem rread7_any (a : Option Addr) (len cap : Nat) (xs : List Int) (n p k : Int) (w : World) (hr : RowIn .u8 w a len cap xs) (hn : isInt n) (hp : isInt p) :
    Calls Try.prog 19 #[bv a len cap n, .int .i64 p, .int .i64 k] w fun e w' => e = .returned (.tuple #[.int .u32 (rrN xs n p k), .int .i64 (rrX xs n p k), .int .i64 (rrE xs n p k)]) ∧ Below w.heap.size w w' := by
  have hC := rcheck_any a len cap xs n _ (hr.same (below1 w (.cells #[.slice a len cap, .int .i64 n] 28))) hn
  have hb0 := Box2.of (blk1 w (.cells #[.slice a len cap, .int .i64 n] 28))
  have hbe := below1 w (.cells #[.slice a len cap, .int .i64 n] 28)
  have hsz := size1 w (.cells #[.slice a len cap, .int .i64 n] 28)
  have hI := fun w' => rparam_any k w'
  obtain ⟨hp1, hp2⟩ := hp
  by_cases hok : okB xs n = true
  · have e1 : chkE xs n = 0 := by simp [chkE, hok]
    rw [e1] at hC
    clear e1
    by_cases h : k < 0 ∨ 24 < k
    · have eE : rrE xs n p k = 2 := by rw [rrE, if_pos hok, if_pos h]
      rw [rrN, rrX, eE, if_neg (by decide), if_neg (by decide)]
      rw [isK_no h] at hI
      clear eE hok
      unfold bv at hC ⊢
      go_enter Try.func19, Try.ntmps19
      go_wp2_with (first | (go_at_call 21; refine hC.mono ?_; rintro e w1 ⟨rfl, hb1⟩; have hB1 := hbe.trans (hb1.mono (by omega)); obtain ⟨c0, c1, c2, c3⟩ := hb0.below hb1 (by omega)) | (go_at_call 36; (with_reducible refine (hI _).mono ?_); rintro e w2 ⟨rfl, rfl⟩))
      go_ret3
      exact ⟨rfl, hB1⟩
    · rw [isK_yes (by omega) (by omega)] at hI
      by_cases hneg : p < 0
      · have eR : rdE xs n p = 2 := by rw [rdE, if_pos hok, if_pos hneg]
        have eE : rrE xs n p k = 2 := by rw [rrE, if_pos hok, if_neg h, if_pos (by rw [eR]; decide), eR]
        rw [rrN, rrX, eE, if_neg (by decide), if_neg (by decide)]
        have f1 : (p < 0) = True := eq_true hneg
        clear eR eE hok
        unfold bv at hC ⊢
        go_enter Try.func19, Try.ntmps19
        go_wp2_with (first | (go_at_call 21; refine hC.mono ?_; rintro e w1 ⟨rfl, hb1⟩; have hB1 := hbe.trans (hb1.mono (by omega)); obtain ⟨c0, c1, c2, c3⟩ := hb0.below hb1 (by omega)) | (go_at_call 36; (with_reducible refine (hI _).mono ?_); rintro e w2 ⟨rfl, rfl⟩))
        go_ret3
        exact ⟨rfl, hB1⟩
      · have hG := fun w' hb => rgot7_any a len cap xs n p k w' (hr.same hb) hok (by omega) hp2 (by omega) (by omega)
        have f1 : (p < 0) = False := eq_false hneg
        obtain ⟨E, eE⟩ : ∃ N, rrE xs n p k = N := ⟨_, rfl⟩
        obtain ⟨N, eN⟩ : ∃ N, rrN xs n p k = N := ⟨_, rfl⟩
        obtain ⟨X, eX⟩ : ∃ N, rrX xs n p k = N := ⟨_, rfl⟩
        simp only [eE, eN, eX] at hG ⊢
        clear eE eN eX hok
        unfold bv at hC hG ⊢
        go_enter Try.func19, Try.ntmps19
        go_wp2_with (first | (go_at_call 21; refine hC.mono ?_; rintro e w1 ⟨rfl, hb1⟩; have hB1 := hbe.trans (hb1.mono (by omega)); obtain ⟨c0, c1, c2, c3⟩ := hb0.below hb1 (by omega)) | (go_at_call 36; (with_reducible refine (hI _).mono ?_); rintro e w2 ⟨rfl, rfl⟩) | (go_at_call 39; (with_reducible refine (hG _ hB1).mono ?_); rintro e w2 ⟨rfl, hb2⟩))
        go_ret3
        exact ⟨rfl, hB1.trans (hb2.mono hB1.size)⟩
  · have e1 : chkE xs n = 8 := by simp [chkE, hok]
    rw [e1] at hC
    have eE : rrE xs n p k = 8 := by rw [rrE, if_neg hok]
    rw [rrN, rrX, eE, if_neg (by decide), if_neg (by decide)]
    unfold bv at hC ⊢
    clear eE hok e1
    go_enter Try.func19, Try.ntmps19
    go_wp2_with (go_at_call 21; refine hC.mono ?_; rintro e w1 ⟨rfl, hb1⟩; have hB1 := hbe.trans (hb1.mono (by omega)); obtain ⟨c0, c1, c2, c3⟩ := hb0.below hb1 (by omega))
    go_ret3
    exact ⟨rfl, hB1⟩
end Go.Proofs.Ytcnlnkknfcmbhaa.R07

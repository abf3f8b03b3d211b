/- The law UnaryBack. -/
import Derived.Test.YtdblcfajejhbaaaMath06b
import Derived.Test.YtdblcfajejhbaaaLaw06
namespace Go.Proofs.Ytdblcfajejhbaaa.Wk
open Go.Proofs Go.RowKit Go.Proofs.Ytdblcfajejhbaaa.Kit Go.Proofs.Ytdblcfajejhbaaa.M01 Go.Proofs.Ytdblcfajejhbaaa.M02 Go.Proofs.Ytdblcfajejhbaaa.M06 Go.Proofs.Ytdblcfajejhbaaa.Bt Go.Proofs.Ytdblcfajejhbaaa.R02 Go.Proofs.Ytdblcfajejhbaaa.Un Go.Proofs.Ytdblcfajejhbaaa.R06
set_option linter.unusedVariables false

theorem getD_wf {xs : List Int} {k : IntKind} (h : ∀ x ∈ xs, (Lit.int k x).wf = true) {i : Nat} (hi : i < xs.length) : (Lit.int k (xs.getD i 0)).wf = true := by
  rw [List.getD_eq_getElem?_getD, List.getElem?_eq_getElem hi]; exact h _ (List.getElem_mem hi)

set_option maxRecDepth 100000 in
set_option maxHeartbeats 16000000 in
theorem unaryBack_walk (a00 : Option Addr) (l00 c00 : Nat) (x00 : List Int) (n01 : Int) (a1 : Option Addr) (l1 c1 : Nat) (x1 : List Int) (w : World) (r00 : RowIn .u8 w a00 l00 c00 x00) (b01 : -9223372036854775808 ≤ n01 ∧ n01 ≤ 9223372036854775807) (r1 : RowIn .i64 w a1 l1 c1 x1) :
    Calls Try.prog 5 #[.agg #[.slice a00 l00 c00, .int .i64 n01], .slice a1 l1 c1] w fun e w' => e = .returned (.bool true) ∧ Below w.heap.size w w' := by
  have hC := fun w' (r : RowIn .u8 w' a00 l00 c00 x00) => rcheck_any a00 l00 c00 x00 n01 w' r b01
  unfold bv at hC
  have hl1 := r1.rd.len
  rw [r1.hl] at hl1
  by_cases hok : okB x00 n01 = true
  · have e1 : chkE x00 n01 = 0 := by simp [chkE, hok]
    simp only [e1] at hC
    obtain ⟨hn0, hn1, hxl, hval⟩ := okB_iff.1 hok
    have hby := byte_of r00.rd
    have hv0 := val_nonneg hby
    have hll := r00.hl
    clear e1
    by_cases t0 : 500 < n01
    · have f0 : (500 < n01) = True := eq_true t0
      go_enter Try.func5, Try.ntmps5
      go_wp2_with (first | ((with_reducible refine (hC _ (r00.same (below1 w _))).mono ?_); rintro e w1 ⟨rfl, hb1⟩; rw [size1] at hb1; have hB1 := (below1 w _).trans (hb1.mono (by omega)); have z1 := hb1.size; rw [size1] at z1; have Xb_1 := (Box2.of (blk1 w _)).below hb1 (by omega); have cb0_1 := Xb_1.c0; have cb1_1 := Xb_1.c1; have lb_1 : w.heap.size < w1.heap.size := (by omega)) | (go_at_call 15; (with_reducible refine (alive_any _).mono ?_); rintro e wA ⟨rfl, hbA⟩))
      go_ret
      exact ⟨rfl, hB1.trans (hbA.mono hB1.size)⟩
    have f0 : (500 < n01) = False := eq_false t0
    by_cases t1 : 20 < (l1 : Int)
    · have f1 : (20 < (l1 : Int)) = True := eq_true t1
      go_enter Try.func5, Try.ntmps5
      go_wp2_with (first | ((with_reducible refine (hC _ (r00.same (below1 w _))).mono ?_); rintro e w1 ⟨rfl, hb1⟩; rw [size1] at hb1; have hB1 := (below1 w _).trans (hb1.mono (by omega)); have z1 := hb1.size; rw [size1] at z1; have Xb_1 := (Box2.of (blk1 w _)).below hb1 (by omega); have cb0_1 := Xb_1.c0; have cb1_1 := Xb_1.c1; have lb_1 : w.heap.size < w1.heap.size := (by omega)) | (go_at_call 15; (with_reducible refine (alive_any _).mono ?_); rintro e wA ⟨rfl, hbA⟩))
      go_ret
      exact ⟨rfl, hB1.trans (hbA.mono hB1.size)⟩
    have f1 : (20 < (l1 : Int)) = False := eq_false t1
    have hxe := ok_eq hby hok
    obtain ⟨V, hV⟩ : ∃ V, val x00 = V := ⟨_, rfl⟩
    rw [hV] at hval hv0 hxe
    have hsz : l00 = sz n01 := by rw [← hll, hxe, bl_length]
    have HX := hid hxe
    have HZ := hid hsz
    have hlen1 := r1.hl
    have HL1 := hid hlen1
    have hll1 : x1.length ≤ 20 := by omega
    clear hV hxl hby hok hxe hsz hlen1
    go_enter Try.func5, Try.ntmps5
    go_wp2_with (first | ((with_reducible refine (hC _ (r00.same (below1 w _))).mono ?_); rintro e w1 ⟨rfl, hb1⟩; rw [size1] at hb1; have hB1 := (below1 w _).trans (hb1.mono (by omega)); have z1 := hb1.size; rw [size1] at z1; have Xb_1 := (Box2.of (blk1 w _)).below hb1 (by omega); have cb0_1 := Xb_1.c0; have cb1_1 := Xb_1.c1; have lb_1 : w.heap.size < w1.heap.size := (by omega)))
    have hG0 := Box2.of (blk1 w1 (.cells #[.slice a00 l00 c00, .int .i64 n01] 27))
    have hbe := below1 w1 (.cells #[.slice a00 l00 c00, .int .i64 n01] 27)
    have hsz1 := size1 w1 (.cells #[.slice a00 l00 c00, .int .i64 n01] 27)
    have hB2 := hB1.trans (hbe.mono hB1.size)
    have Xb_2 := Xb_1.below hbe lb_1
    obtain ⟨G, hG⟩ : ∃ G, w1.heap.size = G := ⟨_, rfl⟩
    rw [hG] at hG0 hsz1 lb_1 ⊢
    have hGw : w.heap.size < G := lb_1
    clear lb_1
    generalize w1.alloc (.cells #[.slice a00 l00 c00, .int .i64 n01] 27) = w2 at *
    clear hbe Xb_1 hB1 cb0_1 cb1_1 z1 hb1 hC
    go_loopw [6] (fun t wr => ∃ i : Nat, i ≤ l1 ∧ t = .int .i64 i ∧ runOK (x1.take i) ∧ Box2 wr w.heap.size (.slice a00 l00 c00) (.int .i64 n01) ∧ Below w.heap.size w wr ∧ G < wr.heap.size ∧
      ∃ N L a' cap' len', N = bkN n01 (x1.take i) ∧ L = bl N (bkV V n01 (x1.take i)) ∧ Box2 wr G (.slice a' len' cap') (.int .i64 N) ∧ RowIn .u8 wr a' len' cap' L) (fun t _ => l1 - (intOf t).toNat)
    case atStart =>
      refine ⟨0, by omega, by go_num, by intro x hx; simp at hx, Xb_2, hB2, by omega, n01, x00, a00, c00, l00, ?_, ?_, hG0, r00.same hB2⟩
      · simp [bkN, runsS]
      · rw [HX.out]; simp [bkV, runsV]
    case round =>
      obtain ⟨i, hi, rfl, hrun, Xb, hBr, hsr, N, L, a', cap', len', eN, eL, ⟨g0, g1, g2, g3⟩, hrow⟩ := hrel
      clear Xb_2 hB2 hG0 hsz1
      have hNb := bk_bd hn0 hv0 hval hrun
      rw [← eN] at hNb
      have hti : (x1.take i).length ≤ 20 := by rw [List.length_take]; omega
      have hNi : n01 ≤ N ∧ N ≤ 2000 := by omega
      by_cases hlt : i < l1
      · obtain ⟨b, off, rfl, cc⟩ := r1.rd.cells (by intro h; have := HL1.out; rw [h] at this; simp at this; omega)
        have hix : i < x1.length := by rw [HL1.out]; exact hlt
        have d1 := cc i hix
        have hsn := take_snoc hix
        obtain ⟨m, hm⟩ : ∃ m, x1.getD i 0 = m := ⟨_, rfl⟩
        have hmb := bd_i64 (getD_wf r1.rd.2.2 hix)
        rw [hm] at d1 hmb hsn
        have d1 : wr.cell? ⟨b, off + i, none⟩ = some (.int .i64 m) := by rw [hBr.cell (World.block_lt_of_cell? w _ d1)]; exact d1
        have HSN := hid hsn
        clear cc hm hsn
        rcases (show m < 0 ∨ 48 < m ∨ (0 ≤ m ∧ m ≤ 48) by omega) with hm | hm | ⟨hm0, hm1⟩
        · have f5 : (m < 0) = True := eq_true hm
          clear hm eN eL
          go_wp2_with ((go_at_call 15; (with_reducible refine (alive_any _).mono ?_); rintro e wA ⟨rfl, hbA⟩))
          go_ret
          exact ⟨rfl, hBr.trans (hbA.mono hBr.size)⟩
        · have f5 : (m < 0) = False := eq_false (by omega)
          have f6 : (48 < m) = True := eq_true hm
          clear hm eN eL
          go_wp2_with ((go_at_call 15; (with_reducible refine (alive_any _).mono ?_); rintro e wA ⟨rfl, hbA⟩))
          go_ret
          exact ⟨rfl, hBr.trans (hbA.mono hBr.size)⟩
        · have f5 : (m < 0) = False := eq_false (by omega)
          have f6 : (48 < m) = False := eq_false (by omega)
          obtain ⟨wE, wL, wN, wS⟩ := bk_write hn0 (by omega) hv0 hval hrun (by omega) hm0 hm1
          rw [← eN, ← eL] at wE wL wN
          rw [← eN] at wS
          have hok' := runOK_snoc hrun hm0 hm1
          rw [← HSN.out] at hok' wL wN wS
          have hW := fun w' hb => write_any a' len' cap' L N m w' (hrow.same (w' := w') hb) (isInt_small (by omega) (by omega)) hmb
          have hL := fun w' => length_any m w' hmb
          have kE : lenE m = 0 := by rw [lenE, if_neg (by omega)]
          have kN : lenN m = runS m := by rw [lenN, if_neg (by omega)]
          simp only [kE, kN] at hL
          simp only [wE, wL, wN] at hW
          obtain ⟨L2, hL2⟩ : ∃ x, bl (bkN n01 (x1.take (i + 1))) (bkV V n01 (x1.take (i + 1))) = x := ⟨_, rfl⟩
          obtain ⟨N2, hN2⟩ : ∃ x, bkN n01 (x1.take (i + 1)) = x := ⟨_, rfl⟩
          have hrb := runS_bd hm0 hm1
          obtain ⟨S, hS⟩ : ∃ x, runS m = x := ⟨_, rfl⟩
          simp only [hL2] at hW
          simp only [hN2] at hW wS hL2
          simp only [hS] at hL wS hrb
          subst wS
          have HE := hid (And.intro hL2 hN2)
          have HO := hid hok'
          unfold bv at hW
          clear wE wL wN kE kN hL2 hN2 hS eN eL hok' hm0 hm1 hNb
          have hlb : b < wr.heap.size := World.block_lt_of_cell? wr _ d1
          go_wp2
          go_region_with (go_at_call 11; first | (refine (hW _ (Below.refl wr.heap.size wr).drew).mono ?_; rintro e w3 ⟨a3, q3, rfl, hro, hb3, hfr⟩) | (refine (hW _ (below1 wr _).drew).mono ?_; rintro e w3 ⟨a3, q3, rfl, hro, hb3, hfr⟩; have X3 := Box2.of (blk1 wr (.cells #[.slice none 0 0, .int .i64 0] 27)); obtain ⟨y0, y1, y2, y3⟩ := Box2.below (w := (wr.alloc (.cells #[.slice none 0 0, .int .i64 0] 27)).drew) ⟨X3.c0, X3.c1, X3.f0, X3.f1⟩ hb3 (by show wr.heap.size < (wr.alloc _).heap.size; rw [size1]; omega)))
          all_goals
            first
              | (obtain ⟨W, hWe⟩ : ∃ W, ((w3.setCell ⟨wr.heap.size, 0, none⟩ (.slice a3 L2.length q3)).setCell ⟨wr.heap.size, 1, none⟩ (.int .i64 (N + S))) = W := ⟨_, rfl⟩
                 have hz3 : wr.heap.size + 1 ≤ w3.heap.size := Nat.le_trans (Nat.le_of_eq (size1 wr _).symm) hb3.size
                 have hBW : Below wr.heap.size wr W := by
                   rw [← hWe]
                   exact ((((below1 wr _).drew).trans (hb3.mono (show wr.heap.size ≤ (wr.alloc _).heap.size by rw [size1]; omega))).setCell (Nat.le_refl _) _).setCell (Nat.le_refl _) _
                 have hne := hfr.ne (g := wr.heap.size) (show wr.heap.size < (wr.alloc _).heap.size by rw [size1]; omega)
                 have hBox : Box2 W wr.heap.size (.slice a3 L2.length q3) (.int .i64 (N + S)) := by rw [← hWe]; exact Box2.put ⟨y0, y1, y2, y3⟩ _ _
                 have hRW : RowIn .u8 W a3 L2.length q3 L2 := by rw [← hWe]; exact (hro.set hne).set hne
                 have hF : Fresh wr a3 := hfr.lift (show wr.heap.size ≤ (wr.alloc _).heap.size by rw [size1]; omega)
                 have hHs : wr.heap.size ≤ wr.heap.size := Nat.le_refl _
                 have hHW : wr.heap.size < W.heap.size := by rw [← hWe]; simp only [World.size_setCell]; omega
                 rw [hWe]
                 clear hWe hb3 hro hfr y0 y1 y2 y3 X3 hne hz3)
              | (obtain ⟨W, hWe⟩ : ∃ W, (w3.alloc (.cells #[.slice a3 L2.length q3, .int .i64 (N + S)] 27)) = W := ⟨_, rfl⟩
                 have hz3 : wr.heap.size ≤ w3.heap.size := hb3.size
                 have hBW : Below wr.heap.size wr W := by
                   rw [← hWe]
                   exact (((Below.refl wr.heap.size wr).drew).trans (hb3.mono (Nat.le_refl _))).alloc hz3 _
                 have hBox : Box2 W w3.heap.size (.slice a3 L2.length q3) (.int .i64 (N + S)) := by rw [← hWe]; exact Box2.of (blk1 w3 _)
                 have hRW : RowIn .u8 W a3 L2.length q3 L2 := by rw [← hWe]; exact hro.same (below1 w3 _)
                 have hF : Fresh wr a3 := hfr.lift (Nat.le_refl _)
                 have hHs : wr.heap.size ≤ w3.heap.size := hz3
                 have hHW : w3.heap.size < W.heap.size := by rw [← hWe, size1]; omega
                 rw [hWe]
                 clear hWe hb3 hro hfr hz3)
            obtain ⟨k0, k1, k2, k3⟩ := hBox
            have d2 : W.cell? ⟨b, off + i, none⟩ = some (.int .i64 m) := by rw [hBW.cell hlb]; exact d1
            have XG := (Box2.mk g0 g1 g2 g3).below hBW hsr
            have XbW := Xb.below hBW (Nat.lt_trans hGw hsr)
            clear d1 g0 g1 g2 g3 Xb
            obtain ⟨g0, g1, g2, g3⟩ := XG
            go_wp2_with (go_at_call 10; refine (hL _).mono ?_; rintro e w4 ⟨rfl, rfl⟩)
            go_roundw
            case rel =>
              have hne := hF.ne hsr
              have hBN := hBr.trans (hBW.mono hBr.size)
              exact ⟨i + 1, by omega, by go_num, HO.out, (XbW.set (by omega)).set (by omega), (hBN.setCell (by dsimp only; omega) _).setCell (by dsimp only; omega) _, by simp only [World.size_setCell]; omega,
                N + S, L2, a3, q3, L2.length, HE.out.2.symm, HE.out.1.symm, Box2.put ⟨g0, g1, g2, g3⟩ _ _, (hRW.set hne).set hne⟩
            case measure => simp [intOf]; omega
      · obtain rfl : i = l1 := by omega
        have htk : x1.take i = x1 := List.take_of_length_le (by rw [HL1.out]; omega)
        rw [htk] at eN eL hrun
        clear htk hNb hti
        obtain ⟨w5, e5⟩ : ∃ x, x = wr := ⟨_, rfl⟩
        subst e5
        obtain ⟨b0, b1', b2, b3⟩ := Xb
        have hbsz : w.heap.size < w5.heap.size := Nat.lt_trans hGw hsr
        obtain ⟨kE, kL, kN⟩ := bk_cut hn0 (by omega) hv0 hval hrun (by omega)
        rw [← eN, ← eL, ← HX.out] at kL
        rw [← eN, ← eL] at kE kN
        have hK := fun w' hb => cut_any a' len' cap' L N 0 n01 w' (hrow.same (w' := w') hb) (isInt_small (by omega) (by omega)) (isInt_small (by omega) (by omega)) b01
        simp only [kE, kL, kN, hll] at hK
        have hS := fun a q w' (r : RowIn .u8 w' a l00 q x00) hb => same_any a l00 q x00 n01 a00 l00 c00 x00 n01 w' r ((r00.same hBr).same (w' := w') hb)
        have es : sameB x00 n01 x00 n01 = true := by simp [sameB]
        simp only [es] at hS
        have hread := fun (j : Nat) (hj : j < x1.length) => bk_read (l := x1) (i := j) hn0 (show n01 ≤ 500 by omega) hv0 hval hrun (by omega) hj
        rw [← eN, ← eL] at hread
        have hRd := fun P w' hb hP => read_any a' len' cap' L N P w' (hrow.same (w' := w') hb) (isInt_small (by omega) (by omega)) hP
        have HN := hid eN
        unfold bv at hK hS hRd
        clear kE kL kN es eN eL hll
        go_wp2
        go_loopw [12, 13] (fun s t w6 => ∃ j : Nat, j ≤ i ∧ t = .int .i64 j ∧ s = .int .i64 (bkN n01 (x1.take j)) ∧ Below w5.heap.size w5 w6) (fun _ t _ => i - (intOf t).toNat)
        case atStart => exact ⟨0, by omega, by go_num, by simp [bkN, runsS], Below.refl _ _⟩
        case round =>
          obtain ⟨j, hj, rfl, rfl, hB6⟩ := hrel
          obtain ⟨w6, e6⟩ : ∃ x, x = wr := ⟨_, rfl⟩
          subst e6
          have XB := (Box2.mk b0 b1' b2 b3).below hB6 hbsz
          have XG := (Box2.mk g0 g1 g2 g3).below hB6 hsr
          have hs6 := hB6.size
          clear b0 b1' b2 b3 g0 g1 g2 g3
          obtain ⟨b0, b1', b2, b3⟩ := XB
          obtain ⟨g0, g1, g2, g3⟩ := XG
          obtain ⟨P, hP⟩ : ∃ x, bkN n01 (x1.take j) = x := ⟨_, rfl⟩
          by_cases hlt : j < i
          · obtain ⟨b, off, rfl, cc⟩ := r1.rd.cells (by intro h; have := HL1.out; rw [h] at this; simp at this; omega)
            have hix : j < x1.length := by rw [HL1.out]; exact hlt
            have d1 := cc j hix
            have d1 : w6.cell? ⟨b, off + j, none⟩ = some (.int .i64 (x1.getD j 0)) := by rw [(hBr.trans (hB6.mono hBr.size)).cell (World.block_lt_of_cell? w _ d1)]; exact d1
            obtain ⟨rE, rN, rX, rlt, rlt2⟩ := hread j hix
            obtain ⟨m, hm⟩ : ∃ m, x1.getD j 0 = m := ⟨_, rfl⟩
            obtain ⟨Q, hQ⟩ : ∃ x, bkN n01 (x1.take (j + 1)) = x := ⟨_, rfl⟩
            have hb0 := (bk_bd hn0 hv0 hval (runOK_take hrun j)).1
            rw [hP] at rE rN rX rlt rlt2 hb0 ⊢
            rw [hQ] at rX rlt
            rw [hm] at rN d1
            have hR := hRd P w6 hB6 (isInt_small (by omega) (by omega))
            rw [rE, rN, rX] at hR
            have HQ := hid hQ
            have t2 : (Q ≤ P) = False := eq_false (by omega)
            have hlb : b < w6.heap.size := World.block_lt_of_cell? w6 _ d1
            clear rE rN rX rlt rlt2 hread hRd hK hS cc hm hQ hP hb0
            go_wp2_with (go_at_call 12; refine hR.mono ?_; rintro e w7 ⟨rfl, hb7⟩; have d2 : w7.cell? ⟨b, off + j, none⟩ = some (.int .i64 m) := (by rw [hb7.cell hlb]; exact d1))
            go_roundw
            case rel => exact ⟨j + 1, by omega, by go_num, by rw [HQ.out], hB6.trans (hb7.mono hs6)⟩
            case measure => simp [intOf]; omega
          · obtain rfl : j = i := by omega
            have hPN : P = N := by rw [← hP, List.take_of_length_le (by rw [HL1.out]; omega), ← HN.out]
            rw [hP, hPN]
            have hK6 := hK w6 hB6
            clear hread hRd hK hP hPN HN
            go_wp2_with (first  | (go_at_call 23; refine hK6.mono ?_; rintro e w7 ⟨a7, q7, rfl, h7, hb7, -⟩; have hB7 := hB6.trans (hb7.mono hs6); have hB8 := hB7.trans ((below1 w7 (.cells #[.slice a7 l00 q7, .int .i64 n01] 27)).mono hB7.size); have z7 := hb7.size;  have XB7 := (Box2.mk b0 b1' b2 b3).below hb7 (by omega); have XG7 := (Box2.mk g0 g1 g2 g3).below hb7 (by omega); clear b0 b1' b2 b3 g0 g1 g2 g3; obtain ⟨b0, b1', b2, b3⟩ := XB7; obtain ⟨g0, g1, g2, g3⟩ := XG7; have hS7 := hS a7 q7 _ (h7.same (below1 w7 (.cells #[.slice a7 l00 q7, .int .i64 n01] 27))) hB8; have lb7 : w.heap.size < w7.heap.size := (by omega); have lg7 : G < w7.heap.size := (by omega))  | (go_at_call 21; refine hS7.mono ?_; rintro e w8 ⟨rfl, hb8⟩; have hB9 := hB8.trans (hb8.mono hB8.size))  | (go_at_call 15; (with_reducible refine (alive_any _).mono ?_); rintro e wA ⟨rfl, hbA⟩))
            go_ret
            have hBB := hBr.trans (hB9.mono hBr.size)
            exact ⟨rfl, hBB.trans (hbA.mono hBB.size)⟩
  · have e1 : chkE x00 n01 = 8 := by simp [chkE, hok]
    simp only [e1] at hC
    go_enter Try.func5, Try.ntmps5
    go_wp2_with (first | ((with_reducible refine (hC _ (r00.same (below1 w _))).mono ?_); rintro e w1 ⟨rfl, hb1⟩; rw [size1] at hb1; have hB1 := (below1 w _).trans (hb1.mono (by omega)); have z1 := hb1.size; rw [size1] at z1; have Xb_1 := (Box2.of (blk1 w _)).below hb1 (by omega); have cb0_1 := Xb_1.c0; have cb1_1 := Xb_1.c1; have lb_1 : w.heap.size < w1.heap.size := (by omega)) | (go_at_call 15; (with_reducible refine (alive_any _).mono ?_); rintro e wA ⟨rfl, hbA⟩))
    go_ret
    exact ⟨rfl, hB1.trans (hbA.mono hB1.size)⟩
end Go.Proofs.Ytdblcfajejhbaaa.Wk

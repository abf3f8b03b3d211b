/- The law RiceBack. -/
import Derived.Test.YtcnlnkknfcmbhaaMath07b
import Derived.Deep.RegionHeld3
import Derived.Test.YtcnlnkknfcmbhaaLaw07
namespace Go.Proofs.Ytcnlnkknfcmbhaa.Wk
open Go.Proofs Go.RowKit Go.Proofs.Ytcnlnkknfcmbhaa.Kit Go.Proofs.Ytcnlnkknfcmbhaa.M01 Go.Proofs.Ytcnlnkknfcmbhaa.M02 Go.Proofs.Ytcnlnkknfcmbhaa.M06 Go.Proofs.Ytcnlnkknfcmbhaa.M07 Go.Proofs.Ytcnlnkknfcmbhaa.Bt Go.Proofs.Ytcnlnkknfcmbhaa.R02 Go.Proofs.Ytcnlnkknfcmbhaa.Un Go.Proofs.Ytcnlnkknfcmbhaa.R06 Go.Proofs.Ytcnlnkknfcmbhaa.Ri Go.Proofs.Ytcnlnkknfcmbhaa.R07
set_option linter.unusedVariables false

open Go.Proofs.Ytcnlnkknfcmbhaa.MP
theorem getD_wf7 {xs : List Int} {k : IntKind} (h : ∀ x ∈ xs, (Lit.int k x).wf = true) {i : Nat} (hi : i < xs.length) : (Lit.int k (xs.getD i 0)).wf = true := by
  rw [List.getD_eq_getElem?_getD, List.getElem?_eq_getElem hi]; exact h _ (List.getElem_mem hi)
theorem cell_below {w w' : World} {B : Nat} {a : Addr} {u : Value} (h : w.cell? a = some u) (hb : Below B w w') (hl : a.block < B) : w'.cell? a = some u := by rw [hb.cell hl]; exact h
theorem cell_set2 {w : World} {a : Addr} {u v x : Value} {g i j : Nat} (h : w.cell? a = some u) (hne : a.block ≠ g) : ((w.setCell ⟨g, i, none⟩ v).setCell ⟨g, j, none⟩ x).cell? a = some u := by
  have e1 := Below.heap_setCell w ⟨g, i, none⟩ v a.block hne
  have e2 := Below.heap_setCell (w.setCell ⟨g, i, none⟩ v) ⟨g, j, none⟩ x a.block hne
  rw [World.cell?_of_block e2, World.cell?_of_block e1]; exact h
theorem okU_of {xs : List Int} (h : ∀ x ∈ xs, (Lit.int .u32 x).wf = true) : okU xs := fun x hx => bd_u32 (h x hx)
theorem okK_zero (ks : List Int) : okK ks 0 := fun j hj => absurd hj (Nat.not_lt_zero j)
theorem okK_succ {ks : List Int} {i : Nat} (h : okK ks i) (h0 : 0 ≤ ks.getD i 0) (h1 : ks.getD i 0 ≤ 24) : okK ks (i + 1) := fun j hj => by
  rcases (show j < i ∨ j = i by omega) with g | g
  · exact h j g
  · subst g; exact ⟨h0, h1⟩

set_option maxRecDepth 100000 in
set_option maxHeartbeats 16000000 in
theorem riceBack_walk (a00 : Option Addr) (l00 c00 : Nat) (x00 : List Int) (n01 : Int) (a1 : Option Addr) (l1 c1 : Nat) (x1 : List Int) (a2 : Option Addr) (l2 c2 : Nat) (x2 : List Int) (w : World) (r00 : RowIn .u8 w a00 l00 c00 x00) (b01 : -9223372036854775808 ≤ n01 ∧ n01 ≤ 9223372036854775807) (r1 : RowIn .u32 w a1 l1 c1 x1) (r2 : RowIn .i64 w a2 l2 c2 x2) :
    Calls Try.prog 5 #[.agg #[.slice a00 l00 c00, .int .i64 n01], .slice a1 l1 c1, .slice a2 l2 c2] w fun e w' => e = .returned (.bool true) ∧ Below w.heap.size w w' := by
  have hC := fun w' (r : RowIn .u8 w' a00 l00 c00 x00) => rcheck_any a00 l00 c00 x00 n01 w' r b01
  unfold bv at hC
  have hl1 := r1.rd.len
  rw [r1.hl] at hl1
  have hl2 := r2.rd.len
  rw [r2.hl] at hl2
  by_cases hok : okB x00 n01 = true
  · have e1 : chkE x00 n01 = 0 := by simp [chkE, hok]
    simp only [e1] at hC
    obtain ⟨hn0, hn1, hxl, hval⟩ := okB_iff.1 hok
    have hby := byte_of r00.rd
    have hv0 := val_nonneg hby
    have hll := r00.hl
    clear e1
    by_cases t0 : 500 < n01
    · have f0 : (500 < n01) = True := eq_true t0
      go_enter Try.func5, Try.ntmps5
      go_wp2_with (first | ((with_reducible refine (hC _ (r00.same (below1 w _))).mono ?_); rintro e w1 ⟨rfl, hb1⟩; rw [size1] at hb1; have hB1 := (below1 w _).trans (hb1.mono (by omega)); have z1 := hb1.size; rw [size1] at z1; have Xb_1 := (Box2.of (blk1 w _)).below hb1 (by omega); have cb0_1 := Xb_1.c0; have cb1_1 := Xb_1.c1; have lb_1 : w.heap.size < w1.heap.size := (by omega)) | (go_at_call 14; (with_reducible refine (alive7_any _).mono ?_); rintro e wA ⟨rfl, hbA⟩))
      go_ret
      exact ⟨rfl, hB1.trans (hbA.mono hB1.size)⟩
    have f0 : (500 < n01) = False := eq_false t0
    by_cases t1 : 12 < (l1 : Int)
    · have f1 : (12 < (l1 : Int)) = True := eq_true t1
      go_enter Try.func5, Try.ntmps5
      go_wp2_with (first | ((with_reducible refine (hC _ (r00.same (below1 w _))).mono ?_); rintro e w1 ⟨rfl, hb1⟩; rw [size1] at hb1; have hB1 := (below1 w _).trans (hb1.mono (by omega)); have z1 := hb1.size; rw [size1] at z1; have Xb_1 := (Box2.of (blk1 w _)).below hb1 (by omega); have cb0_1 := Xb_1.c0; have cb1_1 := Xb_1.c1; have lb_1 : w.heap.size < w1.heap.size := (by omega)) | (go_at_call 14; (with_reducible refine (alive7_any _).mono ?_); rintro e wA ⟨rfl, hbA⟩))
      go_ret
      exact ⟨rfl, hB1.trans (hbA.mono hB1.size)⟩
    have f1 : (12 < (l1 : Int)) = False := eq_false t1
    by_cases t2 : l2 = l1
    rotate_left
    · have f2 : ((l2 : Int) == (l1 : Int)) = false := beq_eq_false_iff_ne.2 (by omega)
      have f3 : (l2 = l1) = False := eq_false t2
      have f4 : (l2 == l1) = false := beq_eq_false_iff_ne.2 t2
      go_enter Try.func5, Try.ntmps5
      go_wp2_with (first | ((with_reducible refine (hC _ (r00.same (below1 w _))).mono ?_); rintro e w1 ⟨rfl, hb1⟩; rw [size1] at hb1; have hB1 := (below1 w _).trans (hb1.mono (by omega)); have z1 := hb1.size; rw [size1] at z1; have Xb_1 := (Box2.of (blk1 w _)).below hb1 (by omega); have cb0_1 := Xb_1.c0; have cb1_1 := Xb_1.c1; have lb_1 : w.heap.size < w1.heap.size := (by omega)) | (go_at_call 14; (with_reducible refine (alive7_any _).mono ?_); rintro e wA ⟨rfl, hbA⟩))
      go_ret
      exact ⟨rfl, hB1.trans (hbA.mono hB1.size)⟩
    subst t2
    have hxe := ok_eq hby hok
    obtain ⟨V, hV⟩ : ∃ V, val x00 = V := ⟨_, rfl⟩
    rw [hV] at hval hv0 hxe
    have HX := hid hxe
    have hlen1 := r1.hl
    have hlen2 := r2.hl
    have HL1 := hid hlen1
    have HL2 := hid hlen2
    have HLL : Hid (x2.length = x1.length) := hid (by omega)
    have hll1 : x1.length ≤ 12 := by omega
    have hU := okU_of r1.rd.2.2
    clear hV hxl hby hok hxe hlen1 hlen2
    go_enter Try.func5, Try.ntmps5
    go_wp2_with (first | ((with_reducible refine (hC _ (r00.same (below1 w _))).mono ?_); rintro e w1 ⟨rfl, hb1⟩; rw [size1] at hb1; have hB1 := (below1 w _).trans (hb1.mono (by omega)); have z1 := hb1.size; rw [size1] at z1; have Xb_1 := (Box2.of (blk1 w _)).below hb1 (by omega); have cb0_1 := Xb_1.c0; have cb1_1 := Xb_1.c1; have lb_1 : w.heap.size < w1.heap.size := (by omega)))
    have hG0 := Box2.of (blk1 w1 (.cells #[.slice a00 l00 c00, .int .i64 n01] 28))
    have hbe := below1 w1 (.cells #[.slice a00 l00 c00, .int .i64 n01] 28)
    have hsz1 := size1 w1 (.cells #[.slice a00 l00 c00, .int .i64 n01] 28)
    have hB2 := hB1.trans (hbe.mono hB1.size)
    have Xb_2 := Xb_1.below hbe lb_1
    obtain ⟨G, hG⟩ : ∃ G, w1.heap.size = G := ⟨_, rfl⟩
    rw [hG] at hG0 hsz1 lb_1 ⊢
    have hGw : w.heap.size < G := lb_1
    clear lb_1
    generalize w1.alloc (.cells #[.slice a00 l00 c00, .int .i64 n01] 28) = w2 at *
    clear hbe Xb_1 hB1 cb0_1 cb1_1 z1 hb1 hC
    go_loopw [8] (fun t wr => ∃ i : Nat, i ≤ l2 ∧ t = .int .i64 i ∧ okK x2 i ∧ Box2 wr w.heap.size (.slice a00 l00 c00) (.int .i64 n01) ∧ Below w.heap.size w wr ∧ G < wr.heap.size ∧
      ∃ N L a' cap' len', N = jN n01 ((pcs x1 x2).take i) ∧ L = bl N (jV V n01 ((pcs x1 x2).take i)) ∧ Box2 wr G (.slice a' len' cap') (.int .i64 N) ∧ RowIn .u8 wr a' len' cap' L) (fun t _ => l2 - (intOf t).toNat)
    case atStart =>
      refine ⟨0, by omega, by go_num, okK_zero _, Xb_2, hB2, by omega, n01, x00, a00, c00, l00, ?_, ?_, hG0, r00.same hB2⟩
      · rw [List.take_zero, (j_nil V n01).1]
      · rw [List.take_zero, (j_nil V n01).2]; exact HX.out
    case round =>
      obtain ⟨i, hi, rfl, hkk, Xb, hBr, hsr, N, L, a', cap', len', eN, eL, ⟨g0, g1, g2, g3⟩, hrow⟩ := hrel
      clear Xb_2 hB2 hG0 hsz1
      have hpo := pcs_ok HLL.out hU (i := i) (by rw [HL1.out]; exact hi) hkk
      have hNb := j_bd (by omega) hn0 hv0 hval hpo
      have hti : ((pcs x1 x2).take i).length ≤ 12 := by rw [List.length_take, pcs_len HLL.out]; omega
      rw [← eN] at hNb
      have hNi : n01 ≤ N ∧ N ≤ 2000 := by omega
      by_cases hlt : i < l2
      · obtain ⟨b, off, rfl, cc⟩ := r1.rd.cells (by intro h; have := HL1.out; rw [h] at this; simp at this; omega)
        obtain ⟨b2', off2, rfl, cc2⟩ := r2.rd.cells (by intro h; have := HL2.out; rw [h] at this; simp at this; omega)
        have hix : i < x1.length := by rw [HL1.out]; exact hlt
        have hix2 : i < x2.length := by rw [HL2.out]; exact hlt
        have d1 := cc i hix
        have e1 := cc2 i hix2
        have hsn := pcs_snoc HLL.out hix
        have hvb := bd_u32 (getD_wf7 r1.rd.2.2 hix)
        have hkb := bd_i64 (getD_wf7 r2.rd.2.2 hix2)
        have hks := okK_succ (i := i) hkk
        obtain ⟨v, hv⟩ : ∃ m, x1.getD i 0 = m := ⟨_, rfl⟩
        obtain ⟨k, hk⟩ : ∃ m, x2.getD i 0 = m := ⟨_, rfl⟩
        rw [hv] at d1 hvb hsn
        rw [hk] at e1 hkb hsn hks
        have d1 : wr.cell? ⟨b, off + i, none⟩ = some (.int .u32 v) := by rw [hBr.cell (World.block_lt_of_cell? w _ d1)]; exact d1
        have e1 : wr.cell? ⟨b2', off2 + i, none⟩ = some (.int .i64 k) := by rw [hBr.cell (World.block_lt_of_cell? w _ e1)]; exact e1
        have HSN := hid hsn
        clear cc cc2 hv hk hsn
        rcases (show k < 0 ∨ 24 < k ∨ (0 ≤ k ∧ k ≤ 24) by omega) with hm | hm | ⟨hm0, hm1⟩
        · have f5 : (k < 0) = True := eq_true hm
          clear hm eN eL
          go_wp2_with ((go_at_call 14; (with_reducible refine (alive7_any _).mono ?_); rintro e wA ⟨rfl, hbA⟩))
          go_ret
          exact ⟨rfl, hBr.trans (hbA.mono hBr.size)⟩
        · have f5 : (k < 0) = False := eq_false (by omega)
          have f6 : (24 < k) = True := eq_true hm
          clear hm eN eL
          go_wp2_with ((go_at_call 14; (with_reducible refine (alive7_any _).mono ?_); rintro e wA ⟨rfl, hbA⟩))
          go_ret
          exact ⟨rfl, hBr.trans (hbA.mono hBr.size)⟩
        · have f5 : (k < 0) = False := eq_false (by omega)
          have f6 : (24 < k) = False := eq_false (by omega)
          obtain ⟨wE, wL, wN⟩ := pk_write (v := v) (k := k) hn0 (by omega) hv0 hval hpo (by omega) hvb.1 hm0 hm1
          have wS := (j_snoc (A := V) (by omega) hn0 hpo (cdS v k, cdV v k)).1
          simp only at wS
          rw [← eN, ← eL] at wE wL wN
          rw [← eN] at wS
          have hok' := hks hm0 hm1
          rw [← HSN.out] at wL wN wS
          have hW := fun w' hb => rwr_any a' len' cap' L N v k w' (hrow.same (w' := w') hb) (isInt_small (by omega) (by omega)) hvb hkb
          have hL := fun w' => rlen_any v k w' hvb hkb
          have kE : rlE k = 0 := by rw [rlE, if_neg (by omega)]
          have kN : rlN v k = cdS v k := by rw [rlN, if_neg (by omega)]
          simp only [kE, kN] at hL
          simp only [wE, wL, wN] at hW
          obtain ⟨L2, hL2⟩ : ∃ x, bl (jN n01 ((pcs x1 x2).take (i + 1))) (jV V n01 ((pcs x1 x2).take (i + 1))) = x := ⟨_, rfl⟩
          obtain ⟨N2, hN2⟩ : ∃ x, jN n01 ((pcs x1 x2).take (i + 1)) = x := ⟨_, rfl⟩
          have hrb := cdS_bd hvb.1 hm0 hm1
          obtain ⟨S, hS⟩ : ∃ x, cdS v k = x := ⟨_, rfl⟩
          simp only [hL2] at hW
          simp only [hN2] at hW wS hL2
          simp only [hS] at hL wS hrb
          subst wS
          have HE := hid (And.intro hL2 hN2)
          have HO := hid hok'
          have h1 : (S < k + 1) = False := eq_false (by omega)
          have h2 : (80 < S) = False := eq_false (by omega)
          unfold bv at hW
          clear wE wL wN kE kN hL2 hN2 hS eN eL hok' hm0 hm1 hNb hpo hks hkk
          have hlb : b < wr.heap.size := World.block_lt_of_cell? wr _ d1
          have hlb2 : b2' < wr.heap.size := World.block_lt_of_cell? wr _ e1
          go_wp2
          have hn1 : G ≠ wr.heap.size := Nat.ne_of_lt hsr
          have hn2 : b ≠ wr.heap.size := Nat.ne_of_lt hlb
          have hn3 : b2' ≠ wr.heap.size := Nat.ne_of_lt hlb2
          go_region_held3 (fun w' => w'.cell? ⟨G, 0, none⟩ = some (.slice a' len' cap') ∧ w'.cell? ⟨G, 1, none⟩ = some (.int .i64 N) ∧ w'.cell? ⟨b, off + i, none⟩ = some (.int .u32 v) ∧ w'.cell? ⟨b2', off2 + i, none⟩ = some (.int .i64 k)) (first | go_keep | exact ⟨s0, s1, s2, s3⟩ | exact ⟨cell_set2 s0 hn1, cell_set2 s1 hn1, cell_set2 s2 hn2, cell_set2 s3 hn3⟩)  (first  | (go_at_call 10; (with_reducible refine (hW _ (Below.refl wr.heap.size wr).drew).mono ?_); rintro e w3 ⟨a3, q3, rfl, hro, hb3, hfr⟩; have hbW : Below wr.heap.size wr w3 := ((Below.refl wr.heap.size wr).drew).trans (hb3.mono (Nat.le_refl _)); have s0 := cell_below g0 hbW hsr; have s1 := cell_below g1 hbW hsr; have s2 := cell_below d1 hbW hlb; have s3 := cell_below e1 hbW hlb2)  | (go_at_call 10; (with_reducible refine (hW _ (below1 wr _).drew).mono ?_); rintro e w3 ⟨a3, q3, rfl, hro, hb3, hfr⟩; have hbW : Below wr.heap.size wr w3 := ((below1 wr _).drew).trans (hb3.mono (show wr.heap.size ≤ (wr.alloc _).heap.size by rw [size1]; omega)); have s0 := cell_below g0 hbW hsr; have s1 := cell_below g1 hbW hsr; have s2 := cell_below d1 hbW hlb; have s3 := cell_below e1 hbW hlb2; have X3 := Box2.of (blk1 wr (.cells #[.slice none 0 0, .int .i64 0] 28)); obtain ⟨y0, y1, y2, y3⟩ := Box2.below (w := (wr.alloc (.cells #[.slice none 0 0, .int .i64 0] 28)).drew) ⟨X3.c0, X3.c1, X3.f0, X3.f1⟩ hb3 (by show wr.heap.size < (wr.alloc _).heap.size; rw [size1]; omega)))
          all_goals
            first
              | (obtain ⟨W, hWe⟩ : ∃ W, ((w3.setCell ⟨wr.heap.size, 0, none⟩ (.slice a3 L2.length q3)).setCell ⟨wr.heap.size, 1, none⟩ (.int .i64 (N + S))) = W := ⟨_, rfl⟩
                 have hz3 : wr.heap.size + 1 ≤ w3.heap.size := Nat.le_trans (Nat.le_of_eq (size1 wr _).symm) hb3.size
                 have hBW : Below wr.heap.size wr W := by
                   rw [← hWe]
                   exact (hbW.setCell (Nat.le_refl _) _).setCell (Nat.le_refl _) _
                 have hne := hfr.ne (g := wr.heap.size) (show wr.heap.size < (wr.alloc _).heap.size by rw [size1]; omega)
                 have hBox : Box2 W wr.heap.size (.slice a3 L2.length q3) (.int .i64 (N + S)) := by rw [← hWe]; exact Box2.put ⟨y0, y1, y2, y3⟩ _ _
                 have hRW : RowIn .u8 W a3 L2.length q3 L2 := by rw [← hWe]; exact (hro.set hne).set hne
                 have hF : Fresh wr a3 := hfr.lift (show wr.heap.size ≤ (wr.alloc _).heap.size by rw [size1]; omega)
                 have hHs : wr.heap.size ≤ wr.heap.size := Nat.le_refl _
                 have hHW : wr.heap.size < W.heap.size := by rw [← hWe]; simp only [World.size_setCell]; omega
                 rw [hWe]
                 clear hWe hb3 hro hfr y0 y1 y2 y3 X3 hne hz3 hbW s0 s1 s2 s3)
              | (obtain ⟨W, hWe⟩ : ∃ W, (w3.alloc (.cells #[.slice a3 L2.length q3, .int .i64 (N + S)] 28)) = W := ⟨_, rfl⟩
                 have hz3 : wr.heap.size ≤ w3.heap.size := hb3.size
                 have hBW : Below wr.heap.size wr W := by
                   rw [← hWe]
                   exact hbW.alloc hz3 _
                 have hBox : Box2 W w3.heap.size (.slice a3 L2.length q3) (.int .i64 (N + S)) := by rw [← hWe]; exact Box2.of (blk1 w3 _)
                 have hRW : RowIn .u8 W a3 L2.length q3 L2 := by rw [← hWe]; exact hro.same (below1 w3 _)
                 have hF : Fresh wr a3 := hfr.lift (Nat.le_refl _)
                 have hHs : wr.heap.size ≤ w3.heap.size := hz3
                 have hHW : w3.heap.size < W.heap.size := by rw [← hWe, size1]; omega
                 rw [hWe]
                 clear hWe hb3 hro hfr hz3 hbW s0 s1 s2 s3)
            have z2 := cell_below d1 hBW hlb
            have z3 := cell_below e1 hBW hlb2
            go_wp2
            go_quiet ((go_at_call 9; exact Calls.quiet_of_same ((hL _).mono (fun _ _ q => ⟨q.1, q.2.symm⟩))))
            have hq := below_drewN (Below.refl W.heap.size W) nq
            have hBW := below_drewN hBW nq
            have hsW : W.heap.size = (W.drewN nq).heap.size := by simp
            obtain ⟨k0, k1, k2, k3⟩ := hBox.below hq hHW
            have d2 := cell_below d1 hBW hlb
            have e2 := cell_below e1 hBW hlb2
            have XG := (Box2.mk g0 g1 g2 g3).below hBW hsr
            have XbW := Xb.below hBW (Nat.lt_trans hGw hsr)
            have hRW := hRW.same hq
            rw [hsW] at hHW
            clear d1 e1 g0 g1 g2 g3 Xb z2 z3 hBox hsW hq
            generalize W.drewN nq = W2 at *
            obtain ⟨g0, g1, g2, g3⟩ := XG
            go_wp2
            go_roundw
            case rel =>
              have hne := hF.ne hsr
              have hBN := hBr.trans (hBW.mono hBr.size)
              exact ⟨i + 1, by omega, by go_num, HO.out, (XbW.set (by omega)).set (by omega), (hBN.setCell (by dsimp only; omega) _).setCell (by dsimp only; omega) _, by simp only [World.size_setCell]; omega,
                N + S, L2, a3, q3, L2.length, HE.out.2.symm, HE.out.1.symm, Box2.put ⟨g0, g1, g2, g3⟩ _ _, (hRW.set hne).set hne⟩
            case measure => simp [intOf]; omega
      · obtain rfl : i = l2 := by omega
        have hpl : (pcs x1 x2).length = i := by rw [pcs_len HLL.out]; exact HL1.out
        have hi12 : (pcs x1 x2).length ≤ 12 := by rw [pcs_len HLL.out]; exact hll1
        have htk : (pcs x1 x2).take i = pcs x1 x2 := List.take_of_length_le (by omega)
        rw [htk] at eN eL hpo
        clear htk hNb hti
        obtain ⟨w5, e5⟩ : ∃ x, x = wr := ⟨_, rfl⟩
        subst e5
        obtain ⟨b0, b1', b2, b3⟩ := Xb
        have hbsz : w.heap.size < w5.heap.size := Nat.lt_trans hGw hsr
        have hread := fun (j : Nat) (hj : j < x1.length) (hv0' : 0 ≤ x1.getD j 0) (hv1' : x1.getD j 0 ≤ 4294967295) => pk_read (v := x1.getD j 0) (k := x2.getD j 0) (l := pcs x1 x2) (i := j) hn0 (by omega) hv0 hval hpo (Nat.le_trans hi12 (by decide)) (by rw [pcs_len HLL.out]; exact hj) (pcs_at HLL.out hj) hv0' hv1' (hkk j (by have := HL1.out; omega)).1 (hkk j (by have := HL1.out; omega)).2
        have hstep := fun (j : Nat) (hj : j < x1.length) => j_at (i := j) (m := 80) (by omega) hn0 hv0 hval hpo (by rw [pcs_len HLL.out]; exact hj) (pcs_at HLL.out hj)
        rw [← eN, ← eL] at hread
        rw [← eN] at hstep
        have hRd := fun P k w' hb hP hk => rrd_any a' len' cap' L N P k w' (hrow.same (w' := w') hb) (isInt_small (by omega) (by omega)) hP hk
        have HN := hid eN
        have HK := hkk
        unfold bv at hRd
        clear eN eL hll hkk hpo
        go_wp2
        go_loopw [14, 15] (fun s t w6 => ∃ j : Nat, j ≤ i ∧ t = .int .i64 j ∧ s = .int .i64 (jN n01 ((pcs x1 x2).take j)) ∧ Below w5.heap.size w5 w6) (fun _ t _ => i - (intOf t).toNat)
        case atStart => exact ⟨0, by omega, by go_num, by rw [List.take_zero, (j_nil V n01).1], Below.refl _ _⟩
        case round =>
          obtain ⟨j, hj, rfl, rfl, hB6⟩ := hrel
          obtain ⟨w6, e6⟩ : ∃ x, x = wr := ⟨_, rfl⟩
          subst e6
          have XB := (Box2.mk b0 b1' b2 b3).below hB6 hbsz
          have XG := (Box2.mk g0 g1 g2 g3).below hB6 hsr
          have hs6 := hB6.size
          clear b0 b1' b2 b3 g0 g1 g2 g3
          obtain ⟨b0, b1', b2, b3⟩ := XB
          obtain ⟨g0, g1, g2, g3⟩ := XG
          obtain ⟨P, hP⟩ : ∃ x, jN n01 ((pcs x1 x2).take j) = x := ⟨_, rfl⟩
          by_cases hlt : j < i
          · obtain ⟨b, off, rfl, cc⟩ := r1.rd.cells (by intro h; have := HL1.out; rw [h] at this; simp at this; omega)
            obtain ⟨b2', off2, rfl, cc2⟩ := r2.rd.cells (by intro h; have := HL2.out; rw [h] at this; simp at this; omega)
            have hix : j < x1.length := by rw [HL1.out]; exact hlt
            have hix2 : j < x2.length := by rw [HL2.out]; exact hlt
            have hBw6 := hBr.trans (hB6.mono hBr.size)
            have d1 := cc j hix
            have d1 := cell_below d1 hBw6 (World.block_lt_of_cell? w _ d1)
            have e1 := cc2 j hix2
            have e1 := cell_below e1 hBw6 (World.block_lt_of_cell? w _ e1)
            have hvb := bd_u32 (getD_wf7 r1.rd.2.2 hix)
            have hkb := bd_i64 (getD_wf7 r2.rd.2.2 hix2)
            obtain ⟨rE, rN, rX⟩ := hread j hix hvb.1 hvb.2
            obtain ⟨-, rs, rle, rge⟩ := hstep j hix
            obtain ⟨v, hv⟩ : ∃ m, x1.getD j 0 = m := ⟨_, rfl⟩
            obtain ⟨k, hk⟩ : ∃ m, x2.getD j 0 = m := ⟨_, rfl⟩
            obtain ⟨Q, hQ⟩ : ∃ x, jN n01 ((pcs x1 x2).take (j + 1)) = x := ⟨_, rfl⟩
            rw [hk] at rE rN rX e1 hkb
            rw [hv] at rN d1
            rw [hP] at rE rN rX rge ⊢
            rw [hQ] at rX rle
            have hPb : P ≤ N := by
              have h1 := (hstep j hix).2.1
              have h2 := cdS_bd (v := x1.getD j 0) (k := x2.getD j 0) hvb.1
              rw [hP, hQ] at h1
              rw [hk] at h1 h2
              try simp only at h1
              by_cases q : 0 ≤ k ∧ k ≤ 24
              · have := h2 q.1 q.2; omega
              · exfalso; have := HK j (by have := HL1.out; omega); rw [hk] at this; exact q this
            have hR := hRd P k w6.drew hB6.drew (isInt_small (by omega) (by omega)) hkb
            rw [rE, rN, rX] at hR
            have HQ := hid hQ
            have hlb : b < w6.heap.size := World.block_lt_of_cell? w6 _ d1
            clear rE rN rX rle rge rs hread hRd hstep cc cc2 hv hk hQ hP
            go_wp2
            go_region_with (go_at_call 11; (with_reducible refine hR.mono ?_); rintro e w7 ⟨rfl, hb7⟩; have hbW : Below w6.heap.size w6 w7 := ((Below.refl w6.heap.size w6).drew).trans (hb7.mono (Nat.le_refl _)); have d2 := cell_below d1 hbW hlb)
            all_goals
              go_wp2
              go_roundw
              case rel => exact ⟨j + 1, by omega, by go_num, by rw [HQ.out], hB6.trans (hbW.mono hs6)⟩
              case measure => simp [intOf]; omega
          · obtain rfl : j = i := by omega
            have hPN : P = N := by rw [← hP, List.take_of_length_le (by omega), ← HN.out]
            rw [hP, hPN]
            clear hread hRd hstep hP hPN HN
            go_wp2_with (go_at_call 14; (with_reducible refine (alive7_any _).mono ?_); rintro e wA ⟨rfl, hbA⟩)
            go_ret
            have hBB := hBr.trans (hB6.mono hBr.size)
            exact ⟨rfl, hBB.trans (hbA.mono hBB.size)⟩
  · have e1 : chkE x00 n01 = 8 := by simp [chkE, hok]
    simp only [e1] at hC
    go_enter Try.func5, Try.ntmps5
    go_wp2_with (first | ((with_reducible refine (hC _ (r00.same (below1 w _))).mono ?_); rintro e w1 ⟨rfl, hb1⟩; rw [size1] at hb1; have hB1 := (below1 w _).trans (hb1.mono (by omega)); have z1 := hb1.size; rw [size1] at z1; have Xb_1 := (Box2.of (blk1 w _)).below hb1 (by omega); have cb0_1 := Xb_1.c0; have cb1_1 := Xb_1.c1; have lb_1 : w.heap.size < w1.heap.size := (by omega)) | (go_at_call 14; (with_reducible refine (alive7_any _).mono ?_); rintro e wA ⟨rfl, hbA⟩))
    go_ret
    exact ⟨rfl, hB1.trans (hbA.mono hB1.size)⟩
end Go.Proofs.Ytcnlnkknfcmbhaa.Wk

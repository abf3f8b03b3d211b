/- The theorem TopBits. -/
import Derived.Test.YtdblcfajejhbaaaRef06
import Derived.Test.YtdblcfajejhbaaaMath06t
import Derived.Test.YtdblcfajejhbaaaLe
import Derived.Test.YtdblcfajejhbaaaCrc
import Derived.Test.YtdblcfajejhbaaaCrc6
import Derived.Test.YtdblcfajejhbaaaFold
namespace Go.Proofs.Ytdblcfajejhbaaa.Wk
open Go.Proofs Go.RowKit Go.Proofs.Ytdblcfajejhbaaa.Kit Go.Proofs.Ytdblcfajejhbaaa.M01 Go.Proofs.Ytdblcfajejhbaaa.M02 Go.Proofs.Ytdblcfajejhbaaa.M06 Go.Proofs.Ytdblcfajejhbaaa.Bt Go.Proofs.Ytdblcfajejhbaaa.R02 Go.Proofs.Ytdblcfajejhbaaa.Un
open Go.Proofs.Ytdblcfajejhbaaa.M05 (foldI backI foldI_bd back_fold getD_wf)
set_option linter.unusedVariables false

theorem isInt_top {n : Int} (h0 : -1000000 ≤ n) (h1 : n ≤ 1000000) : isInt n := by unfold isInt; omega

set_option maxHeartbeats 4000000 in
theorem alive06_any (w : World) : Calls Try.prog 26 #[] w fun e w' => e = .returned (.bool true) ∧ Below w.heap.size w w' := by
  have hF := fun w' => Fo.fold_any (-3) w' (by decide) (by decide)
  rw [show foldI (-3) = 5 by decide] at hF
  have hW := fun w' => write_any none 0 0 [] 0 5 w' RowIn.nil (isInt_top (by decide) (by decide)) (isInt_top (by decide) (by decide))
  simp only [show wrE [] 0 5 = 0 by decide +kernel, show wrL [] 0 5 = [31] by decide +kernel, show wrN [] 0 5 = 6 by decide +kernel, List.length_cons, List.length_nil, Nat.zero_add] at hW
  have hR := fun a q w' (r : RowIn .u8 w' a 1 q [31]) => read_any a 1 q [31] 6 0 w' r (isInt_top (by decide) (by decide)) (isInt_top (by decide) (by decide))
  simp only [show rdE [31] 6 0 = 0 by decide +kernel, show rdN [31] 6 0 = 5 by decide +kernel, show rdX [31] 6 0 = 6 by decide +kernel] at hR
  have hB := fun w' => Fo.back_any 5 w' (by decide) (by decide)
  rw [show backI 5 = -3 by decide] at hB
  unfold bv at hW hR
  go_enter Try.func26, Try.ntmps26
  go_wp2_with (first  | (go_at_call 27; (with_reducible refine (hF _).mono ?_); rintro e wz ⟨rfl, rfl⟩)  | (go_at_call 11; (with_reducible refine (hW _).mono ?_); rintro e w1 ⟨a1, q1, rfl, h1, hb1, -⟩; have hB1 := hb1.trans ((below1 w1 (.cells #[.slice a1 1 q1, .int .i64 6] 27)).mono hb1.size); have hR1 := hR _ _ _ (h1.same (below1 w1 (.cells #[.slice a1 1 q1, .int .i64 6] 27))))  | (go_at_call 12; (with_reducible refine hR1.mono ?_); rintro e w2 ⟨rfl, hb2⟩; have hB2 := hB1.trans (hb2.mono hB1.size))  | (go_at_call 35; (with_reducible refine (hB _).mono ?_); rintro e wz ⟨rfl, rfl⟩))
  go_ret
  exact ⟨rfl, hB2⟩

/-- What the numbers are, folded. -/
theorem fold_u32 {xs : List Int} (h : ∀ x ∈ xs, (Lit.int .i32 x).wf = true) : u32s (xs.map foldI) := by
  intro n hn
  rw [List.mem_map] at hn
  obtain ⟨x, hx, rfl⟩ := hn
  have h1 := bd_i32 (h x hx)
  have h2 := foldI_bd h1.1 h1.2
  omega
theorem take_getD {l : List Int} {i : Nat} (h : i < l.length) : l.take (i + 1) = l.take i ++ [l.getD i 0] := by
  rw [List.take_add_one, List.getElem?_eq_getElem h, List.getD_eq_getElem?_getD, List.getElem?_eq_getElem h]; rfl
theorem map_getD {f : Int → Int} {l : List Int} {i : Nat} (h : i < l.length) : (l.map f).getD i 0 = f (l.getD i 0) := by
  rw [List.getD_eq_getElem?_getD, List.getD_eq_getElem?_getD, List.getElem?_map, List.getElem?_eq_getElem h]; rfl
theorem u32s_take {l : List Int} (h : u32s l) (i : Nat) : u32s (l.take i) := fun x hx => h x (List.mem_of_mem_take hx)
theorem runOK_take' {l : List Int} (h : runOK l) (i : Nat) : runOK (l.take i) := fun x hx => h x (List.mem_of_mem_take hx)
theorem catB_wf (l : List Int) : ∀ x ∈ catB l, (Lit.int .u8 x).wf = true := wf_byte (catB_byte l)
theorem nil_row {w : World} {l : List Int} (h : l = []) : RowIn .u8 w none 0 0 l := by subst h; exact RowIn.nil

set_option maxRecDepth 100000 in
set_option maxHeartbeats 16000000 in
theorem topBits_walk (a0 : Option Addr) (l0 c0 : Nat) (x0 : List Int) (w : World) (r0 : RowIn .i32 w a0 l0 c0 x0) :
    Calls Try.prog 9 #[.slice a0 l0 c0] w fun e w' => e = .returned (.bool true) ∧ Below w.heap.size w w' := by
  have hl0 := r0.rd.len
  rw [r0.hl] at hl0
  by_cases hbig : 40 < l0
  · have f1 : (40 < (l0 : Int)) = True := eq_true (by omega)
    go_enter Try.func9, Try.ntmps9
    go_wp2_with ((with_reducible refine (alive06_any _).mono ?_); rintro e w1 ⟨rfl, hb1⟩)
    go_ret
    exact ⟨rfl, hb1⟩
  have f1 : (40 < (l0 : Int)) = False := eq_false (by omega)
  have HL0 := hid r0.hl
  have hnu := fold_u32 r0.rd.2.2
  obtain ⟨ns, hns⟩ : ∃ ns, x0.map foldI = ns := ⟨_, rfl⟩
  rw [hns] at hnu
  have hnl : ns.length = l0 := by rw [← hns, List.length_map, r0.hl]
  have HNL := hid hnl
  have hmo := m48_ok hnu
  obtain ⟨ms, hms⟩ : ∃ ms, ns.map m48 = ms := ⟨_, rfl⟩
  rw [hms] at hmo
  have hml : ms.length = l0 := by rw [← hms, List.length_map, hnl]
  have HML := hid hml
  have hp0 : (0 : Int) < p2 0 := by decide
  have hget : ∀ i, i < l0 → ns.getD i 0 = foldI (x0.getD i 0) ∧ ms.getD i 0 = m48 (ns.getD i 0) := fun i hi => ⟨by rw [← hns]; exact map_getD (by rw [HL0.out]; exact hi), by rw [← hms]; exact map_getD (by rw [HNL.out]; exact hi)⟩
  clear hns hms hnl hml
  go_enter Try.func9, Try.ntmps9
  go_wp2_with ((with_reducible refine (alive06_any _).mono ?_); rintro e w1 ⟨rfl, hb1⟩)
  have Bp := Box2.of (blk2a w1 (.cells #[.slice none 0 0, .int .i64 0] 27) (.cells #[.slice none 0 0, .int .i64 0] 27))
  have Bq := Box2.of (blk2 w1 (.cells #[.slice none 0 0, .int .i64 0] 27) (.cells #[.slice none 0 0, .int .i64 0] 27))
  have hB2 := hb1.trans ((below2 w1 (.cells #[.slice none 0 0, .int .i64 0] 27) (.cells #[.slice none 0 0, .int .i64 0] 27)).mono hb1.size)
  have hs2 := size2 w1 (.cells #[.slice none 0 0, .int .i64 0] 27) (.cells #[.slice none 0 0, .int .i64 0] 27)
  have hwG := hb1.size
  obtain ⟨G, hG⟩ : ∃ G, w1.heap.size = G := ⟨_, rfl⟩
  rw [hG] at Bp Bq hs2 hwG ⊢
  generalize ((w1.alloc (.cells #[.slice none 0 0, .int .i64 0] 27)).alloc (.cells #[.slice none 0 0, .int .i64 0] 27)) = w2 at *
  clear hb1
  go_loopw [6, 7, 8] (fun s t u wr => ∃ i : Nat, i ≤ l0 ∧ u = .int .i64 i ∧ ∃ S T, s = .int .u32 S ∧ t = .int .u64 T ∧ S = Cr.crcI 4294967295 (catB (ns.take i)) ∧ T = Cr6.crcI 0 (catB (ns.take i)) ∧ Below w.heap.size w wr ∧ G + 1 < wr.heap.size ∧
    (∃ L a' len' cap' N, L = catB (ns.take i) ∧ N = 32 * (i : Int) ∧ Box2 wr G (.slice a' len' cap') (.int .i64 N) ∧ RowIn .u8 wr a' len' cap' L) ∧
    (∃ L a' len' cap' N, N = bkN 0 (ms.take i) ∧ L = bl N (bkV 0 0 (ms.take i)) ∧ Box2 wr (G + 1) (.slice a' len' cap') (.int .i64 N) ∧ RowIn .u8 wr a' len' cap' L)) (fun _ _ u _ => l0 - (intOf u).toNat)
  case atStart =>
    exact ⟨0, by omega, by go_num, 4294967295, 0, rfl, rfl, rfl, rfl, hB2, by omega, ⟨_, _, _, _, _, rfl, rfl, Bp, nil_row rfl⟩, ⟨_, _, _, _, _, rfl, rfl, Bq, nil_row rfl⟩⟩
  case round =>
    obtain ⟨i, hi, rfl, S, T, rfl, rfl, eS, eT, hB5, hsr, ⟨LP, ap, lp, qp, NP, eLP, eNP, Xp_5, Rp_5⟩, ⟨LQ, aq, lq, qq, NQ, eNQ, eLQ, Xq_5, Rq_5⟩⟩ := hrel
    clear Bp Bq hB2 hs2
    obtain ⟨w5, e5⟩ : ∃ x, x = wr := ⟨_, rfl⟩
    subst e5
    have cp0_5 := Xp_5.c0
    have cp1_5 := Xp_5.c1
    have cq0_5 := Xq_5.c0
    have cq1_5 := Xq_5.c1
    have lp_5 : G < w5.heap.size := by omega
    have lq_5 : G + 1 < w5.heap.size := hsr
    have bS := Cr.crcI_bd (s := 4294967295) (xs := catB (ns.take i)) (by omega) (by omega) (catB_wf _)
    have bT := Cr6.crcI_bd (s := 0) (xs := catB (ns.take i)) (by omega) (by omega) (catB_wf _)
    rw [← eS] at bS
    rw [← eT] at bT
    by_cases hlt : i < l0
    · obtain ⟨b, off, rfl, cc⟩ := r0.rd.cells (by intro h; have := HL0.out; rw [h] at this; simp at this; omega)
      have hix : i < x0.length := by rw [HL0.out]; exact hlt
      have d1 := cc i hix
      have d1 : w5.cell? ⟨b, off + i, none⟩ = some (.int .i32 (x0.getD i 0)) := by rw [hB5.cell (World.block_lt_of_cell? w _ d1)]; exact d1
      have hxb := bd_i32 (getD_wf r0.rd.2.2 hix)
      obtain ⟨g1, g2⟩ := hget i hlt
      have hnb := foldI_bd hxb.1 hxb.2
      have hF := fun w' => Fo.fold_any (x0.getD i 0) w' hxb.1 hxb.2
      have tn := take_getD (l := ns) (i := i) (by rw [HNL.out]; exact hlt)
      have tm := take_getD (l := ms) (i := i) (by rw [HML.out]; exact hlt)
      rw [g1] at tn g2
      rw [g2] at tm
      generalize x0.getD i 0 = x at *
      obtain ⟨n, hn⟩ : ∃ n, foldI x = n := ⟨_, rfl⟩
      simp only [hn] at hF hnb tn tm g1 g2
      have tl : (ns.take i).length = i := by rw [List.length_take, HNL.out]; omega
      obtain ⟨pE, pL, pN⟩ := catB_put (l := ns.take i) (by omega) hnb.1 (show n < 4294967296 by omega)
      rw [tl, ← eLP, ← eNP] at pE pL pN
      rw [← tn] at pL pN
      have tl1 : (ns.take (i + 1)).length = i + 1 := by rw [List.length_take, HNL.out]; omega
      rw [tl1] at pN
      have hm : 0 ≤ m48 n ∧ m48 n ≤ 48 := by unfold m48; split <;> omega
      obtain ⟨wE, wL, wN, wS⟩ := bk_write (A := 0) (n := 0) (l := ms.take i) (by omega) (by omega) (by omega) hp0 (runOK_take' hmo i) (by rw [List.length_take, HML.out]; omega) hm.1 hm.2
      rw [← eNQ, ← eLQ] at wE wL wN
      rw [← tm] at wL wN wS
      have bN := bk_bd (A := 0) (n := 0) (l := ms.take i) (by omega) (by omega) hp0 (runOK_take' hmo i)
      rw [← eNQ] at bN wS
      have hP := fun w' (r : RowIn .u8 w' ap lp qp LP) => put_any ap lp qp LP NP n 32 w' r (isInt_top (by omega) (by omega)) hnb.1 (by omega) (isInt_top (by decide) (by decide))
      have hY := fun w' => Le.bytes_any n 4 w' hnb.1 (by omega)
      obtain ⟨yE, yL⟩ := bytes4 hnb.1 (show n < 4294967296 by omega)
      simp only [yE, yL, digs_length] at hY
      have hW := fun w' (r : RowIn .u8 w' aq lq qq LQ) => write_any aq lq qq LQ NQ (m48 n) w' r (isInt_top (by have := (List.length_take (l := ms) (i := i)); omega) (by have := (List.length_take (l := ms) (i := i)); rw [HML.out] at this; omega)) (isInt_top (by omega) (by omega))
      have cS : Cr.crcI S (digs n 4) = Cr.crcI 4294967295 (catB (ns.take (i + 1))) := by rw [tn, catB_snoc, Cr.crcI_append, eS]
      have cT : Cr6.crcI T (digs n 4) = Cr6.crcI 0 (catB (ns.take (i + 1))) := by rw [tn, catB_snoc, Cr6.crcI_append, eT]
      have hN1 := fun a q w' (r : RowIn .u8 w' a 4 q (digs n 4)) => Cr.next_any S a 4 q (digs n 4) w' r bS.1 bS.2
      have hN2 := fun a q w' (r : RowIn .u8 w' a 4 q (digs n 4)) => Cr6.next_any T a 4 q (digs n 4) w' r bT.1 bT.2
      have l4 : (digs n 4).length ≤ 100000 := by rw [digs_length]; omega
      have v1 : Cr.nxN S (digs n 4) = Cr.crcI S (digs n 4) := if_pos l4
      have v2 : Cr.nxE (digs n 4) = 0 := if_pos l4
      have v3 : Cr6.nxN T (digs n 4) = Cr6.crcI T (digs n 4) := if_pos l4
      have v4 : Cr6.nxE (digs n 4) = 0 := if_pos l4
      simp only [v1, v2, cS] at hN1
      simp only [v3, v4, cT] at hN2
      simp only [pE, pL, pN] at hP
      simp only [wE, wL, wN] at hW
      obtain ⟨X, hX⟩ : ∃ X, catB (ns.take (i + 1)) = X := ⟨_, rfl⟩
      obtain ⟨S2, hS2⟩ : ∃ X, Cr.crcI 4294967295 (catB (ns.take (i + 1))) = X := ⟨_, rfl⟩
      obtain ⟨T2, hT2⟩ : ∃ X, Cr6.crcI 0 (catB (ns.take (i + 1))) = X := ⟨_, rfl⟩
      obtain ⟨D, hD⟩ : ∃ X, digs n 4 = X := ⟨_, rfl⟩
      obtain ⟨NX, hNX⟩ : ∃ X, 32 * ((i + 1 : Nat) : Int) = X := ⟨_, rfl⟩
      obtain ⟨NY, hNY⟩ : ∃ X, bkN 0 (ms.take (i + 1)) = X := ⟨_, rfl⟩
      obtain ⟨Y, hY2⟩ : ∃ X, bl (bkN 0 (ms.take (i + 1))) (bkV 0 0 (ms.take (i + 1))) = X := ⟨_, rfl⟩
      simp only [hS2, hD] at hN1
      simp only [hT2, hD] at hN2
      simp only [hX, hNX] at hP
      simp only [hY2] at hW
      simp only [hNY] at hW
      simp only [hD] at hY
      obtain ⟨lX, elX⟩ : ∃ l, X.length = l := ⟨_, rfl⟩
      obtain ⟨lY, elY⟩ : ∃ l, Y.length = l := ⟨_, rfl⟩
      simp only [elX] at hP
      simp only [elY] at hW
      have HX := hid hX
      have HS := hid hS2
      have HT := hid hT2
      have HN := hid hNX
      have HM := hid hNY
      have HY := hid hY2
      have hb0 : b < w5.heap.size := World.block_lt_of_cell? w5 _ d1
      unfold bv at hP hW
      clear hX hS2 hT2 hNX hNY hY2 hD elX elY v1 v2 v3 v4 l4 cS cT yE yL wE wL wN wS bN pE pL pN tl tl1 tn tm g1 g2 hn eS eT eLP eNP eNQ eLQ cc hget hmo hm
      rcases (show 48 < n ∨ ¬ 48 < n by omega) with hq | hq
      · have f2 : (48 < n) = True := eq_true hq
        rw [show m48 n = 48 from if_pos hq] at hW
        go_wp2_with (first | (go_at_call 27; (with_reducible refine (hF _).mono ?_); rintro e wz ⟨rfl, rfl⟩) | ((with_reducible refine (hP _ Rp_5).mono ?_); rintro e w6 ⟨a6, q6, rfl, h6, hb6, F6⟩; have hq6 := hb6; have z6 := hb6.size; have hB6 := hB5.trans (hq6.mono hB5.size); have Xp_6 := Xp_5.below hq6 (by omega); have Xq_6 := Xq_5.below hq6 (by omega); have Rp_6 := Rp_5.same hq6; have Rq_6 := Rq_5.same hq6; have Rx_6 := h6; have cp0_6 := Xp_6.c0; have cp1_6 := Xp_6.c1; have lp_6 : G < w6.heap.size := (by omega); have cq0_6 := Xq_6.c0; have cq1_6 := Xq_6.c1; have lq_6 : G + 1 < w6.heap.size := (by omega); clear cp0_5 cp1_5 lp_5 cq0_5 cq1_5 lq_5) | ((with_reducible refine (hY _ ).mono ?_); rintro e w7 ⟨a7, q7, rfl, h7, hb7⟩; rw [size1] at hb7; have hq7 := (below1 w6 _).trans (hb7.mono (Nat.le_succ _)); have z7 := hb7.size; rw [size1] at z7; have hB7 := hB6.trans (hq7.mono hB6.size); have Xp_7 := Xp_6.below hq7 (by omega); have Xq_7 := Xq_6.below hq7 (by omega); have Xx_7 := (Box2.of (blk1 w6 _)).below hb7 (Nat.lt_succ_self _); have Rp_7 := Rp_6.same hq7; have Rq_7 := Rq_6.same hq7; have Rx_7 := Rx_6.same hq7; have Rb_7 := h7; have cp0_7 := Xp_7.c0; have cp1_7 := Xp_7.c1; have lp_7 : G < w7.heap.size := (by omega); have cq0_7 := Xq_7.c0; have cq1_7 := Xq_7.c1; have lq_7 : G + 1 < w7.heap.size := (by omega); have cx0_7 := Xx_7.c0; have cx1_7 := Xx_7.c1; have lx_7 : w6.heap.size < w7.heap.size := (by omega); clear cp0_6 cp1_6 lp_6 cq0_6 cq1_6 lq_6) | (go_at_call 29; (with_reducible refine (hN1 _ _ _ Rb_7).mono ?_); rintro e wz ⟨rfl, rfl⟩) | (go_at_call 30; (with_reducible refine (hN2 _ _ _ Rb_7).mono ?_); rintro e wz ⟨rfl, rfl⟩) | ((with_reducible refine (hW _ Rq_7).mono ?_); rintro e w8 ⟨a8, q8, rfl, h8, hb8, F8⟩; have hq8 := hb8; have z8 := hb8.size; have hB8 := hB7.trans (hq8.mono hB7.size); have Xp_8 := Xp_7.below hq8 (by omega); have Xq_8 := Xq_7.below hq8 (by omega); have Xx_8 := Xx_7.below hq8 (by omega); have Rp_8 := Rp_7.same hq8; have Rq_8 := Rq_7.same hq8; have Rx_8 := Rx_7.same hq8; have Rb_8 := Rb_7.same hq8; have Ry_8 := h8; have cp0_8 := Xp_8.c0; have cp1_8 := Xp_8.c1; have lp_8 : G < w8.heap.size := (by omega); have cq0_8 := Xq_8.c0; have cq1_8 := Xq_8.c1; have lq_8 : G + 1 < w8.heap.size := (by omega); have cx0_8 := Xx_8.c0; have cx1_8 := Xx_8.c1; have lx_8 : w6.heap.size < w8.heap.size := (by omega); clear cp0_7 cp1_7 lp_7 cq0_7 cq1_7 lq_7 cx0_7 cx1_7 lx_7))
        have Y0 := Box2.of (blk1 w8 (.cells #[.slice a8 lY q8, .int .i64 NY] 27))
        have hbe := below1 w8 (.cells #[.slice a8 lY q8, .int .i64 NY] 27)
        have XpW := Xp_8.below hbe lp_8
        have XqW := Xq_8.below hbe lq_8
        have XxW := Xx_8.below hbe lx_8
        have RxW := Rx_8.same hbe
        have RyW := Ry_8.same hbe
        have hBW := hB8.trans (hbe.mono hB8.size)
        have hszW := size1 w8 (.cells #[.slice a8 lY q8, .int .i64 NY] 27)
        have hz8 : G + 1 < w8.heap.size := lq_8
        have nxp := F6.ne (g := G) (by omega)
        have nxq := F6.ne (g := G + 1) (by omega)
        have nyp := F8.ne (g := G) (by omega)
        have nyq := F8.ne (g := G + 1) (by omega)
        obtain ⟨h6, eh6⟩ : ∃ h, w6.heap.size = h := ⟨_, rfl⟩
        obtain ⟨h8, eh8⟩ : ∃ h, w8.heap.size = h := ⟨_, rfl⟩
        have hg6 : G + 1 < h6 := by omega
        rw [eh6] at XxW ⊢
        rw [eh8] at Y0 hszW hz8 ⊢
        clear hbe eh6 eh8 Xp_8 Xq_8 Xx_8 Rx_8 Ry_8
        generalize w8.alloc (.cells #[.slice a8 lY q8, .int .i64 NY] 27) = W at *
        have hB9 := below_drewN hBW 1
        obtain ⟨p0, p1', p2', p3⟩ := XpW
        obtain ⟨k0, k1, k2, k3⟩ := XqW
        obtain ⟨x0', x1', x2', x3'⟩ := XxW
        obtain ⟨y0, y1, y2, y3⟩ := Y0
        clear hP hY hN1 hN2 hW hF
        go_region
        go_wp2
        go_roundw
        case rel =>
          have hB9 := (((hBW.setCell (p := ⟨G, 0, none⟩) (by dsimp only; omega) (.slice a6 lX q6)).setCell (p := ⟨G, 1, none⟩) (by dsimp only; omega) (.int .i64 NX)).setCell (p := ⟨G + 1, 0, none⟩) (by dsimp only; omega) (.slice a8 lY q8)).setCell (p := ⟨G + 1, 1, none⟩) (by dsimp only; omega) (.int .i64 NY)
          have hbp := ((Box2.put (Box2.mk p0 p1' p2' p3) (.slice a6 lX q6) (.int .i64 NX)).set (g' := G + 1) (i := 0) (x := .slice a8 lY q8) (by omega)).set (g' := G + 1) (i := 1) (x := .int .i64 NY) (by omega)
          have hbq := Box2.put (((Box2.mk k0 k1 k2 k3).set (g' := G) (i := 0) (x := .slice a6 lX q6) (by omega)).set (g' := G) (i := 1) (x := .int .i64 NX) (by omega)) (.slice a8 lY q8) (.int .i64 NY)
          have hRx := (((RxW.set (i := 0) (u := .slice a6 lX q6) nxp).set (i := 1) (u := .int .i64 NX) nxp).set (i := 0) (u := .slice a8 lY q8) nxq).set (i := 1) (u := .int .i64 NY) nxq
          have hRy := (((RyW.set (i := 0) (u := .slice a6 lX q6) nyp).set (i := 1) (u := .int .i64 NX) nyp).set (i := 0) (u := .slice a8 lY q8) nyq).set (i := 1) (u := .int .i64 NY) nyq
          have hsz9 : G + 1 < ((((W.setCell ⟨G, 0, none⟩ (.slice a6 lX q6)).setCell ⟨G, 1, none⟩ (.int .i64 NX)).setCell ⟨G + 1, 0, none⟩ (.slice a8 lY q8)).setCell ⟨G + 1, 1, none⟩ (.int .i64 NY)).heap.size := by simp only [World.size_setCell]; omega
          exact ⟨i + 1, by omega, by go_num, S2, T2, rfl, rfl, HS.out.symm, HT.out.symm, hB9.drew, hsz9,
            ⟨X, a6, lX, q6, NX, HX.out.symm, HN.out.symm, ⟨hbp.c0, hbp.c1, hbp.f0, hbp.f1⟩, hRx.same (Below.refl _ _).drew⟩,
            ⟨Y, a8, lY, q8, NY, HM.out.symm, by rw [← HM.out]; exact HY.out.symm, ⟨hbq.c0, hbq.c1, hbq.f0, hbq.f1⟩, hRy.same (Below.refl _ _).drew⟩⟩
        case measure => simp [intOf]; omega
      · have f2 : (48 < n) = False := eq_false hq
        rw [show m48 n = n from if_neg hq] at hW
        go_wp2_with (first | (go_at_call 27; (with_reducible refine (hF _).mono ?_); rintro e wz ⟨rfl, rfl⟩) | ((with_reducible refine (hP _ Rp_5).mono ?_); rintro e w6 ⟨a6, q6, rfl, h6, hb6, F6⟩; have hq6 := hb6; have z6 := hb6.size; have hB6 := hB5.trans (hq6.mono hB5.size); have Xp_6 := Xp_5.below hq6 (by omega); have Xq_6 := Xq_5.below hq6 (by omega); have Rp_6 := Rp_5.same hq6; have Rq_6 := Rq_5.same hq6; have Rx_6 := h6; have cp0_6 := Xp_6.c0; have cp1_6 := Xp_6.c1; have lp_6 : G < w6.heap.size := (by omega); have cq0_6 := Xq_6.c0; have cq1_6 := Xq_6.c1; have lq_6 : G + 1 < w6.heap.size := (by omega); clear cp0_5 cp1_5 lp_5 cq0_5 cq1_5 lq_5) | ((with_reducible refine (hY _ ).mono ?_); rintro e w7 ⟨a7, q7, rfl, h7, hb7⟩; rw [size1] at hb7; have hq7 := (below1 w6 _).trans (hb7.mono (Nat.le_succ _)); have z7 := hb7.size; rw [size1] at z7; have hB7 := hB6.trans (hq7.mono hB6.size); have Xp_7 := Xp_6.below hq7 (by omega); have Xq_7 := Xq_6.below hq7 (by omega); have Xx_7 := (Box2.of (blk1 w6 _)).below hb7 (Nat.lt_succ_self _); have Rp_7 := Rp_6.same hq7; have Rq_7 := Rq_6.same hq7; have Rx_7 := Rx_6.same hq7; have Rb_7 := h7; have cp0_7 := Xp_7.c0; have cp1_7 := Xp_7.c1; have lp_7 : G < w7.heap.size := (by omega); have cq0_7 := Xq_7.c0; have cq1_7 := Xq_7.c1; have lq_7 : G + 1 < w7.heap.size := (by omega); have cx0_7 := Xx_7.c0; have cx1_7 := Xx_7.c1; have lx_7 : w6.heap.size < w7.heap.size := (by omega); clear cp0_6 cp1_6 lp_6 cq0_6 cq1_6 lq_6) | (go_at_call 29; (with_reducible refine (hN1 _ _ _ Rb_7).mono ?_); rintro e wz ⟨rfl, rfl⟩) | (go_at_call 30; (with_reducible refine (hN2 _ _ _ Rb_7).mono ?_); rintro e wz ⟨rfl, rfl⟩) | ((with_reducible refine (hW _ Rq_7).mono ?_); rintro e w8 ⟨a8, q8, rfl, h8, hb8, F8⟩; have hq8 := hb8; have z8 := hb8.size; have hB8 := hB7.trans (hq8.mono hB7.size); have Xp_8 := Xp_7.below hq8 (by omega); have Xq_8 := Xq_7.below hq8 (by omega); have Xx_8 := Xx_7.below hq8 (by omega); have Rp_8 := Rp_7.same hq8; have Rq_8 := Rq_7.same hq8; have Rx_8 := Rx_7.same hq8; have Rb_8 := Rb_7.same hq8; have Ry_8 := h8; have cp0_8 := Xp_8.c0; have cp1_8 := Xp_8.c1; have lp_8 : G < w8.heap.size := (by omega); have cq0_8 := Xq_8.c0; have cq1_8 := Xq_8.c1; have lq_8 : G + 1 < w8.heap.size := (by omega); have cx0_8 := Xx_8.c0; have cx1_8 := Xx_8.c1; have lx_8 : w6.heap.size < w8.heap.size := (by omega); clear cp0_7 cp1_7 lp_7 cq0_7 cq1_7 lq_7 cx0_7 cx1_7 lx_7))
        have Y0 := Box2.of (blk1 w8 (.cells #[.slice a8 lY q8, .int .i64 NY] 27))
        have hbe := below1 w8 (.cells #[.slice a8 lY q8, .int .i64 NY] 27)
        have XpW := Xp_8.below hbe lp_8
        have XqW := Xq_8.below hbe lq_8
        have XxW := Xx_8.below hbe lx_8
        have RxW := Rx_8.same hbe
        have RyW := Ry_8.same hbe
        have hBW := hB8.trans (hbe.mono hB8.size)
        have hszW := size1 w8 (.cells #[.slice a8 lY q8, .int .i64 NY] 27)
        have hz8 : G + 1 < w8.heap.size := lq_8
        have nxp := F6.ne (g := G) (by omega)
        have nxq := F6.ne (g := G + 1) (by omega)
        have nyp := F8.ne (g := G) (by omega)
        have nyq := F8.ne (g := G + 1) (by omega)
        obtain ⟨h6, eh6⟩ : ∃ h, w6.heap.size = h := ⟨_, rfl⟩
        obtain ⟨h8, eh8⟩ : ∃ h, w8.heap.size = h := ⟨_, rfl⟩
        have hg6 : G + 1 < h6 := by omega
        rw [eh6] at XxW ⊢
        rw [eh8] at Y0 hszW hz8 ⊢
        clear hbe eh6 eh8 Xp_8 Xq_8 Xx_8 Rx_8 Ry_8
        generalize w8.alloc (.cells #[.slice a8 lY q8, .int .i64 NY] 27) = W at *
        have hB9 := below_drewN hBW 1
        obtain ⟨p0, p1', p2', p3⟩ := XpW
        obtain ⟨k0, k1, k2, k3⟩ := XqW
        obtain ⟨x0', x1', x2', x3'⟩ := XxW
        obtain ⟨y0, y1, y2, y3⟩ := Y0
        clear hP hY hN1 hN2 hW hF
        go_region
        go_wp2
        go_roundw
        case rel =>
          have hB9 := (((hBW.setCell (p := ⟨G, 0, none⟩) (by dsimp only; omega) (.slice a6 lX q6)).setCell (p := ⟨G, 1, none⟩) (by dsimp only; omega) (.int .i64 NX)).setCell (p := ⟨G + 1, 0, none⟩) (by dsimp only; omega) (.slice a8 lY q8)).setCell (p := ⟨G + 1, 1, none⟩) (by dsimp only; omega) (.int .i64 NY)
          have hbp := ((Box2.put (Box2.mk p0 p1' p2' p3) (.slice a6 lX q6) (.int .i64 NX)).set (g' := G + 1) (i := 0) (x := .slice a8 lY q8) (by omega)).set (g' := G + 1) (i := 1) (x := .int .i64 NY) (by omega)
          have hbq := Box2.put (((Box2.mk k0 k1 k2 k3).set (g' := G) (i := 0) (x := .slice a6 lX q6) (by omega)).set (g' := G) (i := 1) (x := .int .i64 NX) (by omega)) (.slice a8 lY q8) (.int .i64 NY)
          have hRx := (((RxW.set (i := 0) (u := .slice a6 lX q6) nxp).set (i := 1) (u := .int .i64 NX) nxp).set (i := 0) (u := .slice a8 lY q8) nxq).set (i := 1) (u := .int .i64 NY) nxq
          have hRy := (((RyW.set (i := 0) (u := .slice a6 lX q6) nyp).set (i := 1) (u := .int .i64 NX) nyp).set (i := 0) (u := .slice a8 lY q8) nyq).set (i := 1) (u := .int .i64 NY) nyq
          have hsz9 : G + 1 < ((((W.setCell ⟨G, 0, none⟩ (.slice a6 lX q6)).setCell ⟨G, 1, none⟩ (.int .i64 NX)).setCell ⟨G + 1, 0, none⟩ (.slice a8 lY q8)).setCell ⟨G + 1, 1, none⟩ (.int .i64 NY)).heap.size := by simp only [World.size_setCell]; omega
          exact ⟨i + 1, by omega, by go_num, S2, T2, rfl, rfl, HS.out.symm, HT.out.symm, hB9.drew, hsz9,
            ⟨X, a6, lX, q6, NX, HX.out.symm, HN.out.symm, ⟨hbp.c0, hbp.c1, hbp.f0, hbp.f1⟩, hRx.same (Below.refl _ _).drew⟩,
            ⟨Y, a8, lY, q8, NY, HM.out.symm, by rw [← HM.out]; exact HY.out.symm, ⟨hbq.c0, hbq.c1, hbq.f0, hbq.f1⟩, hRy.same (Below.refl _ _).drew⟩⟩
        case measure => simp [intOf]; omega
    · obtain rfl : i = l0 := by omega
      have tkn : ns.take i = ns := List.take_of_length_le (by rw [HNL.out]; omega)
      have tkm : ms.take i = ms := List.take_of_length_le (by rw [HML.out]; omega)
      rw [tkn] at eS eT eLP
      rw [tkm] at eNQ eLQ
      clear tkn tkm
      have okP := catB_ok (l := ns) (by rw [HNL.out]; omega)
      have hml : ms.length ≤ 100 := by rw [HML.out]; omega
      obtain ⟨okQ, -⟩ := bk_ok (A := 0) (n := 0) (l := ms) (by omega) (by omega) (by omega) hp0 hmo hml
      have bN := bk_bd (A := 0) (n := 0) (l := ms) (by omega) (by omega) hp0 hmo
      rw [← eLP, HNL.out, ← eNP] at okP
      rw [← eNQ, ← eLQ] at okQ
      rw [← eNQ, HML.out] at bN
      have cP : chkE LP NP = 0 := by simp [chkE, okP]
      have cQ : chkE LQ NQ = 0 := by simp [chkE, okQ]
      have iP : isInt NP := isInt_top (by omega) (by omega)
      have iQ : isInt NQ := isInt_top (by omega) (by omega)
      have hC1 := fun w' (r : RowIn .u8 w' ap lp qp LP) => rcheck_any ap lp qp LP NP w' r iP
      have hC2 := fun w' (r : RowIn .u8 w' aq lq qq LQ) => rcheck_any aq lq qq LQ NQ w' r iQ
      simp only [cP] at hC1
      simp only [cQ] at hC2
      have hLPl : LP.length ≤ 100000 := by rw [eLP, catB_len, HNL.out]; omega
      have hS1 := fun w' (r : RowIn .u8 w' ap lp qp LP) => Cr.sum_any ap lp qp LP w' r
      have hS2 := fun w' (r : RowIn .u8 w' ap lp qp LP) => Cr6.sum_any ap lp qp LP w' r
      have v1 : Cr.smN LP = 4294967295 - S := by rw [Cr.smN, if_pos hLPl, eS, eLP]
      have v2 : Cr.nxE LP = 0 := if_pos hLPl
      have v3 : Cr6.nxN 0 LP = T := by rw [Cr6.nxN, if_pos hLPl, eT, eLP]
      have v4 : Cr6.nxE LP = 0 := if_pos hLPl
      simp only [v1, v2] at hS1
      simp only [v3, v4] at hS2
      have hgb := fun (j : Nat) (hj : j < i) => catB_get (l := ns) hnu (by rw [HNL.out]; omega) (i := j) (by rw [HNL.out]; exact hj)
      simp only [← eLP, HNL.out, ← eNP] at hgb
      have hrb := fun (j : Nat) (hj : j < i) => bk_read (A := 0) (n := 0) (l := ms) (i := j) (by omega) (by omega) (by omega) hp0 hmo hml (by rw [HML.out]; exact hj)
      simp only [← eNQ, ← eLQ] at hrb
      have hbb := fun (j : Nat) => bk_bd (A := 0) (n := 0) (l := ms.take j) (by omega) (by omega) hp0 (runOK_take' hmo j)
      have HNQ := hid eNQ
      have HNP : Hid (NP = 32 * (i : Int)) := hid eNP
      have hG1 := fun w' j (hj : (j : Nat) ≤ i) (r : RowIn .u8 w' ap lp qp LP) => get_any ap lp qp LP NP (32 * (j : Int)) 32 w' r iP (isInt_top (by omega) (by omega)) (isInt_top (by decide) (by decide))
      have hA1 := fun w' j (hj : (j : Nat) ≤ i) (r : RowIn .u8 w' ap lp qp LP) => Le.at_any ap lp qp LP (4 * (j : Int)) 4 w' r.rd r.hl r.hc r.hm (by omega)
      have hR1 := fun w' P (hP : isInt P) (r : RowIn .u8 w' aq lq qq LQ) => read_any aq lq qq LQ NQ P w' r iQ hP
      unfold bv at hC1 hC2 hG1 hR1
      subst NP
      clear eS eT eLP eNQ eLQ okP okQ cP cQ v1 v2 v3 v4 hLPl hmo hml bN
      go_wp2_with (first | ((with_reducible refine (hC1 _ Rp_5).mono ?_); rintro e w6 ⟨rfl, hb6⟩; have hq6 := hb6; have z6 := hb6.size; have hB6 := hB5.trans (hq6.mono hB5.size); have Xp_6 := Xp_5.below hq6 (by omega); have Xq_6 := Xq_5.below hq6 (by omega); have Rp_6 := Rp_5.same hq6; have Rq_6 := Rq_5.same hq6; have cp0_6 := Xp_6.c0; have cp1_6 := Xp_6.c1; have lp_6 : G < w6.heap.size := (by omega); have cq0_6 := Xq_6.c0; have cq1_6 := Xq_6.c1; have lq_6 : G + 1 < w6.heap.size := (by omega); clear cp0_5 cp1_5 lp_5 cq0_5 cq1_5 lq_5) | ((with_reducible refine (hC2 _ Rq_6).mono ?_); rintro e w7 ⟨rfl, hb7⟩; have hq7 := hb7; have z7 := hb7.size; have hB7 := hB6.trans (hq7.mono hB6.size); have Xp_7 := Xp_6.below hq7 (by omega); have Xq_7 := Xq_6.below hq7 (by omega); have Rp_7 := Rp_6.same hq7; have Rq_7 := Rq_6.same hq7; have cp0_7 := Xp_7.c0; have cp1_7 := Xp_7.c1; have lp_7 : G < w7.heap.size := (by omega); have cq0_7 := Xq_7.c0; have cq1_7 := Xq_7.c1; have lq_7 : G + 1 < w7.heap.size := (by omega); clear cp0_6 cp1_6 lp_6 cq0_6 cq1_6 lq_6) | (go_at_call 31; (with_reducible refine (hS1 _ Rp_7).mono ?_); rintro e wz ⟨rfl, rfl⟩) | (go_at_call 32; (with_reducible refine (hS2 _ Rp_7).mono ?_); rintro e wz ⟨rfl, rfl⟩))
      go_loopw [24, 25] (fun s t w6 => ∃ j : Nat, j ≤ i ∧ t = .int .i64 j ∧ s = .int .i64 (bkN 0 (ms.take j)) ∧ Below w7.heap.size w7 w6) (fun _ t _ => i - (intOf t).toNat)
      case atStart => exact ⟨0, by omega, by go_num, by simp [bkN, runsS], Below.refl _ _⟩
      case round =>
        obtain ⟨j, hj, rfl, rfl, hB78⟩ := hrel
        obtain ⟨w8, e8⟩ : ∃ x, x = wr := ⟨_, rfl⟩
        subst e8
        have hB8 := hB7.trans (hB78.mono hB7.size)
        have z78 := hB78.size
        have Xp_8 := Xp_7.below hB78 lp_7
        have Xq_8 := Xq_7.below hB78 lq_7
        have Rp_8 := Rp_7.same hB78
        have Rq_8 := Rq_7.same hB78
        clear cp0_7 cp1_7 cq0_7 cq1_7 Rp_7 Rq_7 Xp_7 Xq_7
        have cp0_8 := Xp_8.c0
        have cp1_8 := Xp_8.c1
        have cq0_8 := Xq_8.c0
        have cq1_8 := Xq_8.c1
        have lp_8 : G < w8.heap.size := by omega
        have lq_8 : G + 1 < w8.heap.size := by omega
        by_cases hlt : j < i
        · obtain ⟨b, off, rfl, cc⟩ := r0.rd.cells (by intro h; have := HL0.out; rw [h] at this; simp at this; omega)
          have hix : j < x0.length := by rw [HL0.out]; exact hlt
          have d1 := cc j hix
          have hb0 : b < w8.heap.size := by
            have h1 := World.block_lt_of_cell? w _ d1
            have h2 := hB8.size
            exact Nat.lt_of_lt_of_le h1 h2
          have d1 : w8.cell? ⟨b, off + j, none⟩ = some (.int .i32 (x0.getD j 0)) := by rw [hB8.cell (World.block_lt_of_cell? w _ d1)]; exact d1
          have hxb := bd_i32 (getD_wf r0.rd.2.2 hix)
          obtain ⟨g1, g2⟩ := hget j hlt
          have hnb := foldI_bd hxb.1 hxb.2
          obtain ⟨gE, gN, aE, aN⟩ := hgb j hlt
          obtain ⟨rE, rN, rX, rlt, rlt2⟩ := hrb j hlt
          have hbj := hbb j
          have hbt : (ms.take j).length ≤ 40 := by rw [List.length_take]; omega
          rw [g1] at gN aN
          rw [g2, g1] at rN
          have hG := hG1 w8 j hj
          have hA := fun w' (r : RowIn .u8 w' ap lp qp LP) => hA1 w' j hj r
          have hR := fun w' (r : RowIn .u8 w' aq lq qq LQ) => hR1 w' (bkN 0 (ms.take j)) (isInt_top (by omega) (by omega)) r
          have hbf := back_fold (x0.getD j 0)
          simp only [gE, gN] at hG
          simp only [aE, aN] at hA
          simp only [rE, rN, rX] at hR
          generalize x0.getD j 0 = x at *
          obtain ⟨n, hn⟩ : ∃ n, foldI x = n := ⟨_, rfl⟩
          simp only [hn] at hG hA hR hnb hbf
          have hBk := fun w' => Fo.back_any n w' hnb.1 hnb.2
          simp only [hbf] at hBk
          obtain ⟨P, hP⟩ : ∃ x, bkN 0 (ms.take j) = x := ⟨_, rfl⟩
          obtain ⟨Q, hQ⟩ : ∃ x, bkN 0 (ms.take (j + 1)) = x := ⟨_, rfl⟩
          simp only [hP, hQ] at hR
          rw [hP]
          have HQ := hid hQ
          clear hgb hrb hbb hG1 hA1 hR1 gE gN aE aN rE rN rX rlt rlt2 hbj hbt hP hQ hn hbf cc g1 g2 hget hC1 hC2 hS1 hS2
          rcases (show 48 < n ∨ ¬ 48 < n by omega) with hq | hq
          · have f2 : (48 < n) = True := eq_true hq
            rw [show m48 n = 48 from if_pos hq] at hR
            go_wp2_with (first | ((with_reducible refine (hG Rp_8).mono ?_); rintro e w9 ⟨rfl, hb9⟩; have hq9 := hb9; have z9 := hb9.size; have hB9 := hB8.trans (hq9.mono hB8.size); have Xp_9 := Xp_8.below hq9 (by omega); have Xq_9 := Xq_8.below hq9 (by omega); have Rp_9 := Rp_8.same hq9; have Rq_9 := Rq_8.same hq9; have cp0_9 := Xp_9.c0; have cp1_9 := Xp_9.c1; have lp_9 : G < w9.heap.size := (by omega); have cq0_9 := Xq_9.c0; have cq1_9 := Xq_9.c1; have lq_9 : G + 1 < w9.heap.size := (by omega); clear cp0_8 cp1_8 lp_8 cq0_8 cq1_8 lq_8) | (go_at_call 34; (with_reducible refine (hA _ Rp_9).mono ?_); rintro e wz ⟨rfl, rfl⟩) | ((with_reducible refine (hR _ Rq_9).mono ?_); rintro e w10 ⟨rfl, hb10⟩; have hq10 := hb10; have z10 := hb10.size; have hB10 := hB9.trans (hq10.mono hB9.size); have Xp_10 := Xp_9.below hq10 (by omega); have Xq_10 := Xq_9.below hq10 (by omega); have Rp_10 := Rp_9.same hq10; have Rq_10 := Rq_9.same hq10; have cp0_10 := Xp_10.c0; have cp1_10 := Xp_10.c1; have lp_10 : G < w10.heap.size := (by omega); have cq0_10 := Xq_10.c0; have cq1_10 := Xq_10.c1; have lq_10 : G + 1 < w10.heap.size := (by omega); clear cp0_9 cp1_9 lp_9 cq0_9 cq1_9 lq_9))
            have z8 := hB78.size
            have d2 : w10.cell? ⟨b, off + j, none⟩ = some (.int .i32 x) := by rw [hq10.cell (show b < w9.heap.size by omega), hq9.cell (show b < w8.heap.size from hb0)]; exact d1
            have hj1 : (j : Int) < (i : Int) := by omega
            have hBN : Below w7.heap.size w7 w10 := (hB78.trans (hq9.mono z8)).trans (hq10.mono (by omega))
            clear d1 hq9 hq10 Xp_10 Xq_10 Rp_10 Rq_10 hG hA hR
            go_quiet ((go_at_call 35; exact Calls.quiet_of_same ((hBk _).mono (fun _ _ q => ⟨q.1, q.2.symm⟩))))
            go_wp2
            go_roundw
            case rel => exact ⟨j + 1, by omega, by go_num, by rw [HQ.out], below_drewN hBN _⟩
            case measure => simp [intOf]; omega
          · have f2 : (48 < n) = False := eq_false hq
            rw [show m48 n = n from if_neg hq] at hR
            go_wp2_with (first | ((with_reducible refine (hG Rp_8).mono ?_); rintro e w9 ⟨rfl, hb9⟩; have hq9 := hb9; have z9 := hb9.size; have hB9 := hB8.trans (hq9.mono hB8.size); have Xp_9 := Xp_8.below hq9 (by omega); have Xq_9 := Xq_8.below hq9 (by omega); have Rp_9 := Rp_8.same hq9; have Rq_9 := Rq_8.same hq9; have cp0_9 := Xp_9.c0; have cp1_9 := Xp_9.c1; have lp_9 : G < w9.heap.size := (by omega); have cq0_9 := Xq_9.c0; have cq1_9 := Xq_9.c1; have lq_9 : G + 1 < w9.heap.size := (by omega); clear cp0_8 cp1_8 lp_8 cq0_8 cq1_8 lq_8) | (go_at_call 34; (with_reducible refine (hA _ Rp_9).mono ?_); rintro e wz ⟨rfl, rfl⟩) | ((with_reducible refine (hR _ Rq_9).mono ?_); rintro e w10 ⟨rfl, hb10⟩; have hq10 := hb10; have z10 := hb10.size; have hB10 := hB9.trans (hq10.mono hB9.size); have Xp_10 := Xp_9.below hq10 (by omega); have Xq_10 := Xq_9.below hq10 (by omega); have Rp_10 := Rp_9.same hq10; have Rq_10 := Rq_9.same hq10; have cp0_10 := Xp_10.c0; have cp1_10 := Xp_10.c1; have lp_10 : G < w10.heap.size := (by omega); have cq0_10 := Xq_10.c0; have cq1_10 := Xq_10.c1; have lq_10 : G + 1 < w10.heap.size := (by omega); clear cp0_9 cp1_9 lp_9 cq0_9 cq1_9 lq_9))
            have z8 := hB78.size
            have d2 : w10.cell? ⟨b, off + j, none⟩ = some (.int .i32 x) := by rw [hq10.cell (show b < w9.heap.size by omega), hq9.cell (show b < w8.heap.size from hb0)]; exact d1
            have hj1 : (j : Int) < (i : Int) := by omega
            have hBN : Below w7.heap.size w7 w10 := (hB78.trans (hq9.mono z8)).trans (hq10.mono (by omega))
            clear d1 hq9 hq10 Xp_10 Xq_10 Rp_10 Rq_10 hG hA hR
            go_quiet ((go_at_call 35; exact Calls.quiet_of_same ((hBk _).mono (fun _ _ q => ⟨q.1, q.2.symm⟩))))
            go_wp2
            go_roundw
            case rel => exact ⟨j + 1, by omega, by go_num, by rw [HQ.out], below_drewN hBN _⟩
            case measure => simp [intOf]; omega
        · obtain rfl : j = i := by omega
          have hPN : bkN 0 (ms.take j) = NQ := by rw [List.take_of_length_le (by rw [HML.out]; omega), ← HNQ.out]
          rw [hPN]
          clear hgb hrb hbb hG1 hA1 hR1 hC1 hC2 hS1 hS2 hPN HNQ
          go_wp2
          go_ret
          exact ⟨rfl, hB8⟩
end Go.Proofs.Ytdblcfajejhbaaa.Wk

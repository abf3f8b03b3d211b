/- What the reference of layer 8 returns: Write. -/
import Derived.Test.YtbhoodhcipegbaaRef08c
import Derived.Deep.Cut
namespace Go.Proofs.Ytbhoodhcipegbaa.R08
open Go.Proofs Go.RowKit Go.Proofs.Ytbhoodhcipegbaa.Kit Go.Proofs.Ytbhoodhcipegbaa.M01 Go.Proofs.Ytbhoodhcipegbaa.M02 Go.Proofs.Ytbhoodhcipegbaa.M06 Go.Proofs.Ytbhoodhcipegbaa.M07 Go.Proofs.Ytbhoodhcipegbaa.M08 Go.Proofs.Ytbhoodhcipegbaa.Bt Go.Proofs.Ytbhoodhcipegbaa.R02 Go.Proofs.Ytbhoodhcipegbaa.Un Go.Proofs.Ytbhoodhcipegbaa.R06 Go.Proofs.Ytbhoodhcipegbaa.Ri Go.Proofs.Ytbhoodhcipegbaa.R07 Go.Proofs.Ytbhoodhcipegbaa.Du
set_option linter.unusedVariables false
attribute [local irreducible] wpStill

theorem results_cct8 {fn : Func} {p q u : Tmp} {t1 t2 : TypeId} (h : fn.results = #[.cell p t1, .cell q t2, .tmp u]) (tmps : Array Value) (P : Program) (w : World) :
    (results fn tmps).run P w = ((asAddr (tmps.getD p undef)).run P w).andThen fun a w₁ => ((loadVar t1 a).run P w₁).andThen fun v w₂ =>
      ((asAddr (tmps.getD q undef)).run P w₂).andThen fun b w₃ => ((loadVar t2 b).run P w₃).andThen fun x w₄ => .ok (.tuple #[v, x, tmps.getD u undef]) w₄ := by
  simp only [results, h]
  simp [Sem.run_bind, Result.andThen]

set_option maxHeartbeats 16000000 in
theorem rwrite8_any (a : Option Addr) (len cap : Nat) (xs : List Int) (n : Int) (d : D4) (v : Int) (w : World) (hr : RowIn .u8 w a len cap xs) (hn : isInt n) (hd : isD d) (hv : isU v) :
    Calls Try.prog 22 #[bv a len cap n, dv d, .int .u32 v] w fun e w' => ∃ a' cap', e = .returned (.tuple #[bv a' (dwL xs n d v).length cap' (dwN xs n d v), dv (dwD xs n d v), .int .i64 (dwE xs n d v)]) ∧ RowIn .u8 w' a' (dwL xs n d v).length cap' (dwL xs n d v) ∧ Below w.heap.size w w' := by
  have hC := fun w' hb => rcheck_any a len cap xs n w' (hr.same hb) hn
  have hD := fun w' => rcheckD_any d w' hd
  have hZ : dwE xs n d v ≠ 0 → dwL xs n d v = [] ∧ dwN xs n d v = 0 ∧ dwD xs n d v = zD := fun g => ⟨by unfold dwL; rw [if_neg g], by unfold dwN; rw [if_neg g], by unfold dwD; rw [if_neg g]⟩
  by_cases hok : okB xs n = true
  · have e1 : chkE xs n = 0 := by simp [chkE, hok]
    simp only [e1] at hC
    clear e1
    by_cases h : okD d = true
    · rw [show chD d = 0 by unfold chD; rw [if_pos h]] at hD
      obtain ⟨hn0, hn1, hxl, hval⟩ := okB_iff.1 hok
      have hS := duS_bd h hv
      have hL := fun w' => long8_any d v w' h hv
      by_cases h3 : 330000 < n + duS d v
      · have eE : dwE xs n d v = 18 := by unfold dwE; rw [if_pos ⟨hok, h⟩, if_pos h3]
        obtain ⟨y1, y2, y3⟩ := hZ (by rw [eE]; decide)
        rw [eE, y1, y2, y3]
        obtain ⟨S, hSS⟩ : ∃ S, duS d v = S := ⟨_, rfl⟩
        simp only [hSS] at hS hL h3
        have f3 : (330000 < n + S) = True := eq_true h3
        have hw : IntKind.i64.wrap (n + S) = n + S := by simp [IntKind.wrap, IntKind.bits, IntKind.signed]; omega
        clear eE y1 y2 y3 hZ hok hxl hval hSS h hd
        obtain ⟨da, db, ds, dt⟩ := d
        unfold bv at hC ⊢
        unfold dv at hD hL ⊢
        unfold zD
        simp only [List.length_nil] at hD hL ⊢
        go_enter Try.func22, Try.ntmps22
        go_wp2_with (first | (go_at_call 28; (with_reducible refine (hC _ (below4 _ _ _ _ _)).mono ?_); rintro e w1 ⟨rfl, hb1⟩; have hB1 := (below4 w _ _ _ _).trans (hb1.mono (by rw [size4]; omega)); have z1 : w.heap.size + 4 ≤ w1.heap.size := (by have := hb1.size; rw [size4] at this; exact this); obtain ⟨bc0, bc1, bf0, bf1⟩ := (Box2.of (blk4a w _ _ _ _)).below hb1 (by rw [size4]; omega); obtain ⟨dc0, dc1, dc2, dc3, df0, df1, df2, df3⟩ := (Box4.of (blk4b w _ _ _ _)).below hb1 (by rw [size4]; omega); obtain ⟨rc0, rc1, rf0, rf1⟩ := (Box2.of (blk4c w _ _ _ _)).below hb1 (by rw [size4]; omega); obtain ⟨qc0, qc1, qc2, qc3, qf0, qf1, qf2, qf3⟩ := (Box4.of (blk4 w _ _ _ _)).below hb1 (by rw [size4]; omega)) | (go_at_call 25; (with_reducible refine (hD _).mono ?_); rintro e w2 ⟨rfl, hb2⟩; have hB2 := hB1.trans (hb2.mono (by omega)); have z2 := hb2.size; obtain ⟨bc0', bc1', bf0', bf1'⟩ := (Box2.mk bc0 bc1 bf0 bf1).below hb2 (show w.heap.size < w1.heap.size by omega); obtain ⟨dc0', dc1', dc2', dc3', df0', df1', df2', df3'⟩ := (Box4.mk dc0 dc1 dc2 dc3 df0 df1 df2 df3).below hb2 (show w.heap.size + 1 < w1.heap.size by omega); obtain ⟨rc0', rc1', rf0', rf1'⟩ := (Box2.mk rc0 rc1 rf0 rf1).below hb2 (show w.heap.size + 2 < w1.heap.size by omega); obtain ⟨qc0', qc1', qc2', qc3', qf0', qf1', qf2', qf3'⟩ := (Box4.mk qc0 qc1 qc2 qc3 qf0 qf1 qf2 qf3).below hb2 (show w.heap.size + 3 < w1.heap.size by omega); clear bc0 bf0 bc1 bf1 dc0 df0 dc1 df1 dc2 df2 dc3 df3 rc0 rf0 rc1 rf1 qc0 qf0 qc1 qf1 qc2 qf2 qc3 qf3))
        go_region_held3 (fun w' => w'.cell? ⟨w.heap.size, 0, none⟩ = some (.slice a len cap) ∧ w'.cell? ⟨w.heap.size, 1, none⟩ = some (.int .i64 n) ∧ w'.cell? ⟨w.heap.size + 1, 0, none⟩ = some (.int .i64 da) ∧ w'.cell? ⟨w.heap.size + 1, 1, none⟩ = some (.int .i64 db) ∧ w'.cell? ⟨w.heap.size + 1, 2, none⟩ = some (.int .u64 ds) ∧ w'.cell? ⟨w.heap.size + 1, 3, none⟩ = some (.int .u64 dt)) (first | with_reducible exact ⟨bc0', bc1', dc0', dc1', dc2', dc3'⟩ | with_reducible exact ⟨bc0'', bc1'', dc0'', dc1'', dc2'', dc3''⟩ | go_keep) (first | (go_at_call 43; (with_reducible refine (hL _).mono ?_); rintro e w3 ⟨rfl, hb3⟩; have hB3 := hB2.drew.trans (hb3.mono (show w.heap.size ≤ w2.heap.size by omega)); have z3 : w2.heap.size ≤ w3.heap.size := hb3.size; obtain ⟨bc0'', bc1'', bf0'', bf1''⟩ := (Box2.mk bc0' bc1' bf0' bf1').drew.below hb3 (show w.heap.size < w2.heap.size by omega); obtain ⟨dc0'', dc1'', dc2'', dc3'', df0'', df1'', df2'', df3''⟩ := (Box4.mk dc0' dc1' dc2' dc3' df0' df1' df2' df3').drew.below hb3 (show w.heap.size + 1 < w2.heap.size by omega); obtain ⟨rc0'', rc1'', rf0'', rf1''⟩ := (Box2.mk rc0' rc1' rf0' rf1').drew.below hb3 (show w.heap.size + 2 < w2.heap.size by omega); obtain ⟨qc0'', qc1'', qc2'', qc3'', qf0'', qf1'', qf2'', qf3''⟩ := (Box4.mk qc0' qc1' qc2' qc3' qf0' qf1' qf2' qf3').drew.below hb3 (show w.heap.size + 3 < w2.heap.size by omega)))
        all_goals
          clear bc0' bf0' bc1' bf1' dc0' df0' dc1' df1' dc2' df2' dc3' df3' rc0' rf0' rc1' rf1' qc0' qf0' qc1' qf1' qc2' qf2' qc3' qf3'
          go_wp2
          refine bodyPost_ret_by (v := .tuple #[.agg #[.slice none 0 0, .int .i64 0], .agg #[.int .i64 0, .int .i64 0, .int .u64 0, .int .u64 0], .int .i64 18]) (by rw [results_cct8 rfl]; go_simp) rfl ?_
          exact ⟨none, 0, rfl, RowIn.nil, Below.set4 (Below.set2 hB3 (by omega) _ _) (by omega) _ _ _ _⟩
      · have eE : dwE xs n d v = 0 := by unfold dwE; rw [if_pos ⟨hok, h⟩, if_neg h3]
        have eL : dwL xs n d v = bl (n + duS d v) (val xs + duV d v * p2 n) := by unfold dwL; rw [if_pos eE]
        have eN : dwN xs n d v = n + duS d v := by unfold dwN; rw [if_pos eE]
        have eD : dwD xs n d v = learnD d v := by unfold dwD; rw [if_pos eE]
        rw [eE, eL, eN, eD]
        have hll := hr.hl
        have hby := byte_of hr.rd
        have hx0 := val_nonneg hby
        have hwf := hr.rd.2.2
        have hT := fun w' hb => twin_any a len cap xs n w' (hr.same hb) (by omega)
        have HX := hid (ok_eq hby hok)
        have hwfR := wf_byte (bl_byte (n + duS d v) (val xs + duV d v * p2 n))
        have hLt := fun w' => learnt_any d v w' hd h hv
        have hA := fun w' base a' cap' (ho : OwnI .u8 w' base 5 (.slice a' len cap') (bl n (val xs))) (hbs : base ≤ w'.heap.size) => add8_any a' len cap' base n (val xs) v d w' ho hbs hn0 hv h (by omega) hx0 hval
        obtain ⟨V, hVV⟩ : ∃ V, val xs = V := ⟨_, rfl⟩
        simp only [hVV] at hA HX hwfR ⊢
        obtain ⟨S, hSS⟩ : ∃ S, duS d v = S := ⟨_, rfl⟩
        simp only [hSS] at h3 hS hL hA hwfR ⊢
        obtain ⟨R, hR⟩ : ∃ R, bl (n + S) (V + duV d v * p2 n) = R := ⟨_, rfl⟩
        simp only [hR] at hA hwfR ⊢
        obtain ⟨L, hLL⟩ : ∃ L, learnD d v = L := ⟨_, rfl⟩
        simp only [hLL] at hLt ⊢
        have f3 : (330000 < n + S) = False := eq_false h3
        have hw : IntKind.i64.wrap (n + S) = n + S := by simp [IntKind.wrap, IntKind.bits, IntKind.signed]; omega
        clear eE eL eN eD hZ hok hxl hval hSS hR hx0 h hd hLL hVV
        obtain ⟨da, db, ds, dt⟩ := d
        obtain ⟨la, lb, ls, lt⟩ := L
        unfold bv at hC hT hA ⊢
        unfold dv at hD hL hA hLt ⊢
        simp only at hD hL hA hLt ⊢
        go_enter Try.func22, Try.ntmps22
        go_wp2_with (first | (go_at_call 28; (with_reducible refine (hC _ (below4 _ _ _ _ _)).mono ?_); rintro e w1 ⟨rfl, hb1⟩; have hB1 := (below4 w _ _ _ _).trans (hb1.mono (by rw [size4]; omega)); have z1 : w.heap.size + 4 ≤ w1.heap.size := (by have := hb1.size; rw [size4] at this; exact this); obtain ⟨bc0, bc1, bf0, bf1⟩ := (Box2.of (blk4a w _ _ _ _)).below hb1 (by rw [size4]; omega); obtain ⟨dc0, dc1, dc2, dc3, df0, df1, df2, df3⟩ := (Box4.of (blk4b w _ _ _ _)).below hb1 (by rw [size4]; omega); obtain ⟨rc0, rc1, rf0, rf1⟩ := (Box2.of (blk4c w _ _ _ _)).below hb1 (by rw [size4]; omega); obtain ⟨qc0, qc1, qc2, qc3, qf0, qf1, qf2, qf3⟩ := (Box4.of (blk4 w _ _ _ _)).below hb1 (by rw [size4]; omega)) | (go_at_call 25; (with_reducible refine (hD _).mono ?_); rintro e w2 ⟨rfl, hb2⟩; have hB2 := hB1.trans (hb2.mono (by omega)); have z2 := hb2.size; obtain ⟨bc0', bc1', bf0', bf1'⟩ := (Box2.mk bc0 bc1 bf0 bf1).below hb2 (show w.heap.size < w1.heap.size by omega); obtain ⟨dc0', dc1', dc2', dc3', df0', df1', df2', df3'⟩ := (Box4.mk dc0 dc1 dc2 dc3 df0 df1 df2 df3).below hb2 (show w.heap.size + 1 < w1.heap.size by omega); obtain ⟨rc0', rc1', rf0', rf1'⟩ := (Box2.mk rc0 rc1 rf0 rf1).below hb2 (show w.heap.size + 2 < w1.heap.size by omega); obtain ⟨qc0', qc1', qc2', qc3', qf0', qf1', qf2', qf3'⟩ := (Box4.mk qc0 qc1 qc2 qc3 qf0 qf1 qf2 qf3).below hb2 (show w.heap.size + 3 < w1.heap.size by omega); clear bc0 bf0 bc1 bf1 dc0 df0 dc1 df1 dc2 df2 dc3 df3 rc0 rf0 rc1 rf1 qc0 qf0 qc1 qf1 qc2 qf2 qc3 qf3))
        go_region_held3 (fun w' => w'.cell? ⟨w.heap.size, 0, none⟩ = some (.slice a len cap) ∧ w'.cell? ⟨w.heap.size, 1, none⟩ = some (.int .i64 n) ∧ w'.cell? ⟨w.heap.size + 1, 0, none⟩ = some (.int .i64 da) ∧ w'.cell? ⟨w.heap.size + 1, 1, none⟩ = some (.int .i64 db) ∧ w'.cell? ⟨w.heap.size + 1, 2, none⟩ = some (.int .u64 ds) ∧ w'.cell? ⟨w.heap.size + 1, 3, none⟩ = some (.int .u64 dt)) (first | with_reducible exact ⟨bc0', bc1', dc0', dc1', dc2', dc3'⟩ | with_reducible exact ⟨bc0'', bc1'', dc0'', dc1'', dc2'', dc3''⟩ | go_keep) (first | (go_at_call 43; (with_reducible refine (hL _).mono ?_); rintro e w3 ⟨rfl, hb3⟩; have hB3 := hB2.drew.trans (hb3.mono (show w.heap.size ≤ w2.heap.size by omega)); have z3 : w2.heap.size ≤ w3.heap.size := hb3.size; obtain ⟨bc0'', bc1'', bf0'', bf1''⟩ := (Box2.mk bc0' bc1' bf0' bf1').drew.below hb3 (show w.heap.size < w2.heap.size by omega); obtain ⟨dc0'', dc1'', dc2'', dc3'', df0'', df1'', df2'', df3''⟩ := (Box4.mk dc0' dc1' dc2' dc3' df0' df1' df2' df3').drew.below hb3 (show w.heap.size + 1 < w2.heap.size by omega); obtain ⟨rc0'', rc1'', rf0'', rf1''⟩ := (Box2.mk rc0' rc1' rf0' rf1').drew.below hb3 (show w.heap.size + 2 < w2.heap.size by omega); obtain ⟨qc0'', qc1'', qc2'', qc3'', qf0'', qf1'', qf2'', qf3''⟩ := (Box4.mk qc0' qc1' qc2' qc3' qf0' qf1' qf2' qf3').drew.below hb3 (show w.heap.size + 3 < w2.heap.size by omega)))
        all_goals
          clear bc0' bf0' bc1' bf1' dc0' df0' dc1' df1' dc2' df2' dc3' df3' rc0' rf0' rc1' rf1' qc0' qf0' qc1' qf1' qc2' qf2' qc3' qf3'
          go_upto_region 5 with fail
          generalize hW4 : w3 = w4 at *
          have hB4 := hB3
          have z4 : w.heap.size + 4 ≤ w4.heap.size := by omega
          have bc0 := bc0''
          have bc1 := bc1''
          have bf0 := bf0''
          have bf1 := bf1''
          have dc0 := dc0''
          have dc1 := dc1''
          have dc2 := dc2''
          have dc3 := dc3''
          have df0 := df0''
          have df1 := df1''
          have df2 := df2''
          have df3 := df3''
          have rc0 := rc0''
          have rc1 := rc1''
          have rf0 := rf0''
          have rf1 := rf1''
          have qc0 := qc0''
          have qc1 := qc1''
          have qc2 := qc2''
          have qc3 := qc3''
          have qf0 := qf0''
          have qf1 := qf1''
          have qf2 := qf2''
          have qf3 := qf3''
          clear bc0'' bf0'' bc1'' bf1'' dc0'' df0'' dc1'' df1'' dc2'' df2'' dc3'' df3'' rc0'' rf0'' rc1'' rf1'' qc0'' qf0'' qc1'' qf1'' qc2'' qf2'' qc3'' qf3''
          clear hb1 hB1 hb2 hB2 hb3 hB3 z1 z2 z3 hW4
          have hnb2 : w.heap.size ≠ w.heap.size + 1 + 1 := by omega
          have hnd2 : w.heap.size + 1 ≠ w.heap.size + 1 + 1 := by omega
          have hnb3 : w.heap.size ≠ w.heap.size + 1 + 1 + 1 := by omega
          have hnd3 : w.heap.size + 1 ≠ w.heap.size + 1 + 1 + 1 := by omega
          go_region_held3 (fun w' => w'.cell? ⟨w.heap.size, 0, none⟩ = some (.slice a len cap) ∧ w'.cell? ⟨w.heap.size, 1, none⟩ = some (.int .i64 n) ∧ w'.cell? ⟨w.heap.size + 1, 0, none⟩ = some (.int .i64 da) ∧ w'.cell? ⟨w.heap.size + 1, 1, none⟩ = some (.int .i64 db) ∧ w'.cell? ⟨w.heap.size + 1, 2, none⟩ = some (.int .u64 ds) ∧ w'.cell? ⟨w.heap.size + 1, 3, none⟩ = some (.int .u64 dt)) (first | with_reducible exact ⟨bc0, bc1, dc0, dc1, dc2, dc3⟩ | with_reducible exact ⟨bc0', bc1', dc0', dc1', dc2', dc3'⟩ | with_reducible exact ⟨bc0'', bc1'', dc0'', dc1'', dc2'', dc3''⟩ | with_reducible exact ⟨bc0''', bc1''', dc0''', dc1''', dc2''', dc3'''⟩ | with_reducible exact ⟨cellS2 bc0''' hnb2, cellS2 bc1''' hnb2, cellS2 dc0''' hnd2, cellS2 dc1''' hnd2, cellS2 dc2''' hnd2, cellS2 dc3''' hnd2⟩ | with_reducible exact ⟨cellS2 (cellS2 (cellS2 bc0''' hnb2) hnb3) hnb3, cellS2 (cellS2 (cellS2 bc1''' hnb2) hnb3) hnb3, cellS2 (cellS2 (cellS2 dc0''' hnd2) hnd3) hnd3, cellS2 (cellS2 (cellS2 dc1''' hnd2) hnd3) hnd3, cellS2 (cellS2 (cellS2 dc2''' hnd2) hnd3) hnd3, cellS2 (cellS2 (cellS2 dc3''' hnd2) hnd3) hnd3⟩ | go_keep) (first | (go_at_call 19; (with_reducible refine (hT _ hB4.drew).mono ?_); rintro e w5 ⟨v5, rfl, hown, hb5⟩; obtain ⟨a5, q5, rfl, hrow⟩ := hown.row hwf; rw [hll] at hown; rw [HX.out] at hown; have hown : OwnI .u8 w5 w4.heap.size 5 (.slice a5 len q5) (bl n V) := hown; have hB5 := hB4.drew.trans (hb5.mono (show w.heap.size ≤ w4.heap.size by omega)); have z5 : w4.heap.size ≤ w5.heap.size := hb5.size; obtain ⟨bc0', bc1', bf0', bf1'⟩ := (Box2.mk bc0 bc1 bf0 bf1).drew.below hb5 (show w.heap.size < w4.heap.size by omega); obtain ⟨dc0', dc1', dc2', dc3', df0', df1', df2', df3'⟩ := (Box4.mk dc0 dc1 dc2 dc3 df0 df1 df2 df3).drew.below hb5 (show w.heap.size + 1 < w4.heap.size by omega); obtain ⟨rc0', rc1', rf0', rf1'⟩ := (Box2.mk rc0 rc1 rf0 rf1).drew.below hb5 (show w.heap.size + 2 < w4.heap.size by omega); obtain ⟨qc0', qc1', qc2', qc3', qf0', qf1', qf2', qf3'⟩ := (Box4.mk qc0 qc1 qc2 qc3 qf0 qf1 qf2 qf3).drew.below hb5 (show w.heap.size + 3 < w4.heap.size by omega)) | (go_at_call 44; (with_reducible refine (hA _ _ _ _ hown z5).mono ?_); rintro e w6 ⟨a6, l6, q6, rfl, ho6, hb6, -⟩; have hB6 := hB5.trans (hb6.mono (by omega)); have z6 := hb6.size; obtain ⟨bc0'', bc1'', bf0'', bf1''⟩ := (Box2.mk bc0' bc1' bf0' bf1').below hb6 (show w.heap.size < w4.heap.size by omega); obtain ⟨dc0'', dc1'', dc2'', dc3'', df0'', df1'', df2'', df3''⟩ := (Box4.mk dc0' dc1' dc2' dc3' df0' df1' df2' df3').below hb6 (show w.heap.size + 1 < w4.heap.size by omega); obtain ⟨rc0'', rc1'', rf0'', rf1''⟩ := (Box2.mk rc0' rc1' rf0' rf1').below hb6 (show w.heap.size + 2 < w4.heap.size by omega); obtain ⟨qc0'', qc1'', qc2'', qc3'', qf0'', qf1'', qf2'', qf3''⟩ := (Box4.mk qc0' qc1' qc2' qc3' qf0' qf1' qf2' qf3').below hb6 (show w.heap.size + 3 < w4.heap.size by omega)) | (go_at_call 42; (with_reducible refine (hLt _).mono ?_); rintro e w7 ⟨rfl, hb7⟩; have hB7 := hB6.trans (hb7.mono (by omega)); have z7 := hb7.size; have ho7 := ho6.below hb7; obtain ⟨bc0''', bc1''', bf0''', bf1'''⟩ := (Box2.mk bc0'' bc1'' bf0'' bf1'').below hb7 (show w.heap.size < w6.heap.size by omega); obtain ⟨dc0''', dc1''', dc2''', dc3''', df0''', df1''', df2''', df3'''⟩ := (Box4.mk dc0'' dc1'' dc2'' dc3'' df0'' df1'' df2'' df3'').below hb7 (show w.heap.size + 1 < w6.heap.size by omega); obtain ⟨rc0''', rc1''', rf0''', rf1'''⟩ := (Box2.mk rc0'' rc1'' rf0'' rf1'').below hb7 (show w.heap.size + 2 < w6.heap.size by omega); obtain ⟨qc0''', qc1''', qc2''', qc3''', qf0''', qf1''', qf2''', qf3'''⟩ := (Box4.mk qc0'' qc1'' qc2'' qc3'' qf0'' qf1'' qf2'' qf3'').below hb7 (show w.heap.size + 3 < w6.heap.size by omega)))
          all_goals
            obtain ⟨a8, q8, hv8, hrow8⟩ := ho7.row hwfR
            cases hv8
            clear hnb2 hnd2 hnb3 hnd3 hrow8
            clear bc0 bf0 bc1 bf1 dc0 df0 dc1 df1 dc2 df2 dc3 df3 rc0 rf0 rc1 rf1 qc0 qf0 qc1 qf1 qc2 qf2 qc3 qf3
            clear bc0' bf0' bc1' bf1' dc0' df0' dc1' df1' dc2' df2' dc3' df3' rc0' rf0' rc1' rf1' qc0' qf0' qc1' qf1' qc2' qf2' qc3' qf3'
            clear bc0'' bf0'' bc1'' bf1'' dc0'' df0'' dc1'' df1'' dc2'' df2'' dc3'' df3'' rc0'' rf0'' rc1'' rf1'' qc0'' qf0'' qc1'' qf1'' qc2'' qf2'' qc3'' qf3''
            go_wp2
            refine bodyPost_ret_by (v := .tuple #[.agg #[.slice a6 R.length q6, .int .i64 (n + S)], .agg #[.int .i64 la, .int .i64 lb, .int .u64 ls, .int .u64 lt], .int .i64 0]) (by rw [results_cct8 rfl]; go_simp) rfl ?_
            have hfar2 : (Value.slice a6 R.length q6).ownBlock ≠ some (w.heap.size + 1 + 1) := ho7.far (by omega)
            have hfar3 : (Value.slice a6 R.length q6).ownBlock ≠ some (w.heap.size + 1 + 1 + 1) := ho7.far (by omega)
            obtain ⟨a9, q9, hv9, hrow9⟩ := ((((((ho7.other (i := 0) (u := .slice a6 R.length q6) hfar2).other (i := 1) (u := .int .i64 (n + S)) hfar2).other (i := 0) (u := .int .i64 la) hfar3).other (i := 1) (u := .int .i64 lb) hfar3).other (i := 2) (u := .int .u64 ls) hfar3).other (i := 3) (u := .int .u64 lt) hfar3).row hwfR
            cases hv9
            exact ⟨_, _, rfl, hrow9, Below.set4 (Below.set2 hB7 (by omega) _ _) (by omega) _ _ _ _⟩
    · have eE : dwE xs n d v = 8 := by unfold dwE; rw [if_neg (fun q => h q.2)]
      obtain ⟨y1, y2, y3⟩ := hZ (by rw [eE]; decide)
      rw [eE, y1, y2, y3]
      rw [show chD d = 8 by unfold chD; rw [if_neg h]] at hD
      clear eE y1 y2 y3 hZ hok h hd
      obtain ⟨da, db, ds, dt⟩ := d
      unfold bv at hC ⊢
      unfold dv at hD ⊢
      unfold zD
      simp only [List.length_nil] at hD ⊢
      go_enter Try.func22, Try.ntmps22
      go_wp2_with (first | (go_at_call 28; (with_reducible refine (hC _ (below4 _ _ _ _ _)).mono ?_); rintro e w1 ⟨rfl, hb1⟩; have hB1 := (below4 w _ _ _ _).trans (hb1.mono (by rw [size4]; omega)); have z1 : w.heap.size + 4 ≤ w1.heap.size := (by have := hb1.size; rw [size4] at this; exact this); obtain ⟨bc0, bc1, bf0, bf1⟩ := (Box2.of (blk4a w _ _ _ _)).below hb1 (by rw [size4]; omega); obtain ⟨dc0, dc1, dc2, dc3, df0, df1, df2, df3⟩ := (Box4.of (blk4b w _ _ _ _)).below hb1 (by rw [size4]; omega); obtain ⟨rc0, rc1, rf0, rf1⟩ := (Box2.of (blk4c w _ _ _ _)).below hb1 (by rw [size4]; omega); obtain ⟨qc0, qc1, qc2, qc3, qf0, qf1, qf2, qf3⟩ := (Box4.of (blk4 w _ _ _ _)).below hb1 (by rw [size4]; omega)) | (go_at_call 25; (with_reducible refine (hD _).mono ?_); rintro e w2 ⟨rfl, hb2⟩; have hB2 := hB1.trans (hb2.mono (by omega)); have z2 := hb2.size; obtain ⟨bc0', bc1', bf0', bf1'⟩ := (Box2.mk bc0 bc1 bf0 bf1).below hb2 (show w.heap.size < w1.heap.size by omega); obtain ⟨dc0', dc1', dc2', dc3', df0', df1', df2', df3'⟩ := (Box4.mk dc0 dc1 dc2 dc3 df0 df1 df2 df3).below hb2 (show w.heap.size + 1 < w1.heap.size by omega); obtain ⟨rc0', rc1', rf0', rf1'⟩ := (Box2.mk rc0 rc1 rf0 rf1).below hb2 (show w.heap.size + 2 < w1.heap.size by omega); obtain ⟨qc0', qc1', qc2', qc3', qf0', qf1', qf2', qf3'⟩ := (Box4.mk qc0 qc1 qc2 qc3 qf0 qf1 qf2 qf3).below hb2 (show w.heap.size + 3 < w1.heap.size by omega); clear bc0 bf0 bc1 bf1 dc0 df0 dc1 df1 dc2 df2 dc3 df3 rc0 rf0 rc1 rf1 qc0 qf0 qc1 qf1 qc2 qf2 qc3 qf3))
      refine bodyPost_ret_by (v := .tuple #[.agg #[.slice none 0 0, .int .i64 0], .agg #[.int .i64 0, .int .i64 0, .int .u64 0, .int .u64 0], .int .i64 8]) (by rw [results_cct8 rfl]; go_simp) rfl ?_
      exact ⟨none, 0, rfl, RowIn.nil, Below.set4 (Below.set2 hB2 (by omega) _ _) (by omega) _ _ _ _⟩
  · have e1 : chkE xs n = 8 := by simp [chkE, hok]
    simp only [e1] at hC
    have eE : dwE xs n d v = 8 := by unfold dwE; rw [if_neg (fun q => hok q.1)]
    obtain ⟨y1, y2, y3⟩ := hZ (by rw [eE]; decide)
    rw [eE, y1, y2, y3]
    clear eE y1 y2 y3 hZ hok e1 hd hD
    obtain ⟨da, db, ds, dt⟩ := d
    unfold bv at hC ⊢
    unfold dv zD
    simp only [List.length_nil]
    go_enter Try.func22, Try.ntmps22
    go_wp2_with (first | (go_at_call 28; (with_reducible refine (hC _ (below4 _ _ _ _ _)).mono ?_); rintro e w1 ⟨rfl, hb1⟩; have hB1 := (below4 w _ _ _ _).trans (hb1.mono (by rw [size4]; omega)); have z1 : w.heap.size + 4 ≤ w1.heap.size := (by have := hb1.size; rw [size4] at this; exact this); obtain ⟨bc0, bc1, bf0, bf1⟩ := (Box2.of (blk4a w _ _ _ _)).below hb1 (by rw [size4]; omega); obtain ⟨dc0, dc1, dc2, dc3, df0, df1, df2, df3⟩ := (Box4.of (blk4b w _ _ _ _)).below hb1 (by rw [size4]; omega); obtain ⟨rc0, rc1, rf0, rf1⟩ := (Box2.of (blk4c w _ _ _ _)).below hb1 (by rw [size4]; omega); obtain ⟨qc0, qc1, qc2, qc3, qf0, qf1, qf2, qf3⟩ := (Box4.of (blk4 w _ _ _ _)).below hb1 (by rw [size4]; omega)))
    refine bodyPost_ret_by (v := .tuple #[.agg #[.slice none 0 0, .int .i64 0], .agg #[.int .i64 0, .int .i64 0, .int .u64 0, .int .u64 0], .int .i64 8]) (by rw [results_cct8 rfl]; go_simp) rfl ?_
    exact ⟨none, 0, rfl, RowIn.nil, Below.set4 (Below.set2 hB1 (by omega) _ _) (by omega) _ _ _ _⟩

end Go.Proofs.Ytbhoodhcipegbaa.R08

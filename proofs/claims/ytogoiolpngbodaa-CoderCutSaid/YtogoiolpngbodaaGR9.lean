/- What the reference of layer 9 returns: comparing lists. What the reference of layer 9 returns: codes of numbers, and the state behind them. What the reference of layer 9 returns: decoding. -/
import Derived.Test.YtogoiolpngbodaaProg
import Derived.Test.YtogoiolpngbodaaGK
import Derived.Test.YtogoiolpngbodaaGM
import Derived.Deep.QuietTactic
import Derived.BigQuiet
import Derived.Test.YtogoiolpngbodaaRef08c
import Derived.Test.YtogoiolpngbodaaGR8
namespace Go.Proofs.Ytogoiolpngbodaa.R09
open Go.Proofs Go.RowKit Go.Proofs.Ytogoiolpngbodaa.Kit Go.Proofs.Ytogoiolpngbodaa.M05
set_option linter.unusedVariables false

set_option maxHeartbeats 1000000 in
theorem same9_any (a : Option Addr) (len cap : Nat) (xs : List Int) (b : Option Addr) (blen bcap : Nat) (ys : List Int) (w : World) (r : RowIn .u32 w a len cap xs) (r2 : RowIn .u32 w b blen bcap ys) :
    Calls Try.prog 21 #[.slice a len cap, .slice b blen bcap] w fun e w' => e = .returned (.bool (sameL xs ys)) ∧ ∃ q, w' = w.drewN q := by
  have hl1 := r.rd.len
  have hl2 := r2.rd.len
  by_cases hlen : len = blen
  · subst hlen
    have e1 := hid r.hl
    have e2 := hid r2.hl
    rw [r.hl] at hl1
    clear hl2
    go_enter Try.func21, Try.ntmps21
    go_wp2
    go_loopw [5] (fun t wr => ∃ k : Nat, k ≤ len ∧ t = .int .i64 k ∧ xs.take k = ys.take k ∧ ∃ q, wr = w.drewN q) (fun t _ => len - (intOf t).toNat)
    case atStart => exact ⟨0, by omega, by go_num, rfl, 0, rfl⟩
    case round =>
      obtain ⟨k, hk, rfl, ht, q, rfl⟩ := hrel
      have ht := hid ht
      by_cases hlt : k < len
      · obtain ⟨b1, o1, rfl, c1⟩ := r.rd.cells (by intro h0; have := e1.out; rw [h0] at this; simp at this; omega)
        obtain ⟨b2, o2, rfl, c2⟩ := r2.rd.cells (by intro h0; have := e2.out; rw [h0] at this; simp at this; omega)
        have d1 := c1 k (by rw [e1.out]; exact hlt)
        have d2 := c2 k (by rw [e2.out]; exact hlt)
        have x1 := bd_u32 (getD_wf r.rd.2.2 (show k < xs.length by rw [e1.out]; exact hlt))
        have x2 := bd_u32 (getD_wf r2.rd.2.2 (show k < ys.length by rw [e2.out]; exact hlt))
        have hne := fun h => hid (sameL_ne (xs := xs) (ys := ys) (k := k) h)
        have heq := fun h => hid (take_snoc_eq ht.out (by rw [e1.out]; exact hlt) (by rw [e2.out]; exact hlt) h)
        generalize xs.getD k 0 = x at *
        generalize ys.getD k 0 = y at *
        clear c1 c2
        by_cases hxy : x = y
        · have hT := heq hxy
          subst hxy
          clear hne heq
          go_wp2
          go_quiet (fail)
          go_wp2
          go_roundw
          case rel => exact ⟨k + 1, by omega, by go_num, hT.out, _, rfl⟩
          case measure => simp [intOf]; omega
        · have hF := hne hxy
          have t2 : (x = y) = False := eq_false hxy
          clear hne heq
          go_wp2
          go_quiet (fail)
          go_wp2
          go_ret
          exact ⟨by rw [hF.out]; rfl, _, World.drewN_drewN ..⟩
      · obtain rfl : k = len := by omega
        have hT : Hid (sameL xs ys = true) := by
          have h := ht.out
          have q1 := e1.out
          have q2 := e2.out
          rw [← q1, List.take_length, q1, ← q2, List.take_length] at h
          rw [h]; exact sameL_self _
        go_wp2
        go_ret
        exact ⟨by rw [hT.out]; rfl, q, rfl⟩
  · have t : ((len : Int) = (blen : Int)) = False := eq_false (by omega)
    have hF : sameL xs ys = false := by
      unfold sameL; rw [decide_eq_false]; intro h; exact hlen (by rw [← r.hl, ← r2.hl, h])
    rw [hF]
    rw [r.hl] at hl1
    rw [r2.hl] at hl2
    go_enter Try.func21, Try.ntmps21
    go_wp2
    go_ret
    exact ⟨rfl, 0, rfl⟩

/-- Great. -/
def great9 (len : Nat) : Bool := decide (150 < len) && decide (len ≤ 4000) || decide (4010 < len)

set_option maxHeartbeats 1000000 in
theorem great9_any (b : Option Addr) (len cap : Nat) (xs : List Int) (w : World) (r : RowIn .u32 w b len cap xs) :
    Calls Try.prog 17 #[.slice b len cap] w fun e w' => e = .returned (.bool (great9 len)) ∧ w = w' := by
  have hl := r.rd.len
  rw [r.hl] at hl
  unfold great9
  rcases (show len ≤ 150 ∨ (150 < len ∧ len ≤ 4000) ∨ (4000 < len ∧ len ≤ 4010) ∨ 4010 < len by omega) with g | ⟨g, g'⟩ | ⟨g, g'⟩ | g
  · rw [show (decide (150 < len) && decide (len ≤ 4000) || decide (4010 < len)) = false by simp; omega]
    have f1 : (150 < (len : Int)) = False := eq_false (by omega)
    have f2 : (4010 < (len : Int)) = False := eq_false (by omega)
    go_enter Try.func17, Try.ntmps17
    go_wp2
    go_ret
    exact ⟨rfl, rfl⟩
  · rw [show (decide (150 < len) && decide (len ≤ 4000) || decide (4010 < len)) = true by simp; omega]
    have f1 : (150 < (len : Int)) = True := eq_true (by omega)
    have f2 : ((len : Int) ≤ 4000) = True := eq_true (by omega)
    go_enter Try.func17, Try.ntmps17
    go_wp2
    go_ret
    exact ⟨rfl, rfl⟩
  · rw [show (decide (150 < len) && decide (len ≤ 4000) || decide (4010 < len)) = false by simp; omega]
    have f1 : (150 < (len : Int)) = True := eq_true (by omega)
    have f2 : ((len : Int) ≤ 4000) = False := eq_false (by omega)
    have f3 : (4010 < (len : Int)) = False := eq_false (by omega)
    go_enter Try.func17, Try.ntmps17
    go_wp2
    go_ret
    exact ⟨rfl, rfl⟩
  · rw [show (decide (150 < len) && decide (len ≤ 4000) || decide (4010 < len)) = true by simp; omega]
    have f1 : (150 < (len : Int)) = True := eq_true (by omega)
    have f2 : ((len : Int) ≤ 4000) = False := eq_false (by omega)
    have f3 : (4010 < (len : Int)) = True := eq_true (by omega)
    go_enter Try.func17, Try.ntmps17
    go_wp2
    go_ret
    exact ⟨rfl, rfl⟩
end Go.Proofs.Ytogoiolpngbodaa.R09

namespace Go.Proofs.Ytogoiolpngbodaa.R09
open Go.Proofs Go.RowKit Go.Proofs.Ytogoiolpngbodaa.Kit Go.Proofs.Ytogoiolpngbodaa.M01 Go.Proofs.Ytogoiolpngbodaa.M02 Go.Proofs.Ytogoiolpngbodaa.M06 Go.Proofs.Ytogoiolpngbodaa.M07 Go.Proofs.Ytogoiolpngbodaa.M08 Go.Proofs.Ytogoiolpngbodaa.M09 Go.Proofs.Ytogoiolpngbodaa.Bt Go.Proofs.Ytogoiolpngbodaa.R02 Go.Proofs.Ytogoiolpngbodaa.Du Go.Proofs.Ytogoiolpngbodaa.R08
set_option linter.unusedVariables false
attribute [local irreducible] wpStill

theorem okV_row {xs : List Int} (h : ∀ x ∈ xs, (Lit.int .u32 x).wf = true) : okV xs := fun x hx => bd_u32 (h x hx)
theorem getD_wf9 {xs : List Int} {k : IntKind} (h : ∀ x ∈ xs, (Lit.int k x).wf = true) {i : Nat} (hi : i < xs.length) : (Lit.int k (xs.getD i 0)).wf = true := by
  rw [List.getD_eq_getElem?_getD, List.getElem?_eq_getElem hi]; exact h _ (List.getElem_mem hi)
theorem results_cc {fn : Func} {p q : Tmp} {t1 t2 : TypeId} (h : fn.results = #[.cell p t1, .cell q t2]) (tmps : Array Value) (P : Program) (w : World) :
    (results fn tmps).run P w = ((asAddr (tmps.getD p undef)).run P w).andThen fun a w₁ => ((loadVar t1 a).run P w₁).andThen fun v w₂ =>
      ((asAddr (tmps.getD q undef)).run P w₂).andThen fun b w₃ => ((loadVar t2 b).run P w₃).andThen fun x w₄ => .ok (.tuple #[v, x]) w₄ := by
  simp only [results, h]
  simp [Sem.run_bind, Result.andThen]
theorem cell_below9 {w w' : World} {B : Nat} {a : Addr} {u : Value} (h : w.cell? a = some u) (hb : Below B w w') (hl : a.block < B) : w'.cell? a = some u := by rw [hb.cell hl]; exact h

theorem own_ge {k : IntKind} {w : World} {base : Nat} {e : TypeId} {b o : Nat} {sp : _} {n cap : Nat} {xs : List Int} (h : OwnI k w base e (.slice (some ⟨b, o, sp⟩) n cap) xs) : base ≤ b := by
  rcases h.2 with ⟨h', _⟩ | ⟨g2, cp, cur, h', hb, _⟩
  · simp at h'
  · simp only [Value.slice.injEq, Option.some.injEq, Addr.mk.injEq] at h'
    omega

set_option maxHeartbeats 8000000 in
theorem coded_any (a : Option Addr) (len cap : Nat) (l : List Int) (w : World) (hr : RowIn .u32 w a len cap l) (hle : len ≤ 4000) :
    Calls Try.prog 37 #[.slice a len cap] w fun e w' => ∃ a' len' cap', e = .returned (.tuple #[bv a' len' cap' (cN stD l), dv (stI stD l)]) ∧ RowIn .u8 w' a' len' cap' (cL stD l) ∧ Below w.heap.size w w' ∧ Fresh w a' := by
  obtain rfl := hr.hl
  have hU := hid (okV_row hr.rd.2.2)
  have HI := hid (And.intro isD_st' okD_st)
  have hSt := fun w' => rstart_any w'
  have hst : stI stD (l.take 0) = stD := by rw [List.take_zero, stI]
  have hn := c_nil stD
  rw [show stI stD l = stI stD (l.take l.length) by rw [List.take_length]]
  unfold dv bv
  unfold dv at hSt
  unfold stD at hSt
  simp only at hSt
  go_enter Try.func37, Try.ntmps37
  go_wp2_with ((with_reducible refine (hSt _).mono ?_); rintro e w1 ⟨rfl, hb1⟩; rw [size3] at hb1; have z1 := hb1.size; rw [size3] at z1; have hB1 : Below w.heap.size w w1 := (below3 w _ _ _).trans (hb1.mono (by omega)); have Y0 := (Box2.of (blk3a w _ _ _)).below hb1 (by omega); have Y1 := (Box4.of (blk3b w _ _ _)).below hb1 (by omega); have Y2 := (Box2.of (blk3 w _ _ _)).below hb1 (by omega))
  clear hb1 hSt
  go_loopw [6] (fun t wr => ∃ k : Nat, k ≤ l.length ∧ t = .int .i64 k ∧ Below w.heap.size w wr ∧ w1.heap.size + 1 ≤ wr.heap.size ∧ Box2 wr w.heap.size (.slice none 0 0) (.int .i64 0) ∧ Box4 wr (w.heap.size + 1) (.int .i64 0) (.int .i64 0) (.int .u64 0) (.int .u64 0) ∧ ∃ a' len' cap' S, S = stI stD (l.take k) ∧ Box2 wr (w.heap.size + 1 + 1) (.slice a' len' cap') (.int .i64 (cN stD (l.take k))) ∧ Box4 wr w1.heap.size (.int .i64 S.a) (.int .i64 S.b) (.int .u64 S.s) (.int .u64 S.t) ∧ OwnI .u8 wr (w1.heap.size + 1) 5 (.slice a' len' cap') (cL stD (l.take k))) (fun t _ => l.length - (intOf t).toNat)
  case atStart =>
    refine ⟨0, by omega, by go_num, bA hB1 (by omega), by rw [size1]; omega, box2A Y0, box4A Y1, none, 0, 0, stD, hst.symm, ?_, Box4.of (blk1 w1 _), ?_⟩
    · rw [List.take_zero, hn.1]; exact box2A Y2
    · rw [List.take_zero, hn.2.2]; exact OwnI.nil
  case round =>
    obtain ⟨k, hk, rfl, hb, hz, X0, X1, a', len', cap', S, eS, X2, X3, ho⟩ := hrel
    clear Y0 Y1 Y2 hB1 hn hst
    have hUk := okV_take hU.out k
    obtain ⟨sok, sd⟩ := stI_ok HI.out.1 HI.out.2 hUk
    rw [← eS] at sok sd
    by_cases hlt : k < l.length
    · obtain ⟨b, off, rfl, cc⟩ := hr.rd.cells (by intro h; rw [h] at hlt; simp at hlt)
      have d1 := cc k hlt
      have hv := bd_u32 (getD_wf9 hr.rd.2.2 hlt)
      have htk := take_snoc hlt
      obtain ⟨v, ev⟩ : ∃ m, l.getD k 0 = m := ⟨_, rfl⟩
      rw [ev] at d1 hv htk
      have hlb : b < w.heap.size := World.block_lt_of_cell? w _ d1
      have d1 : wr.cell? ⟨b, off + k, none⟩ = some (.int .u32 v) := cell_below9 d1 hb hlb
      have hvU : isU v := hv
      have hlk : (l.take k).length = k := by rw [List.length_take]; omega
      obtain ⟨-, -, -, -, wS, wV⟩ := c_write (v := v) HI.out.1 HI.out.2 hUk (by omega) hvU
      rw [← eS] at wS wV
      obtain ⟨c1, c2, c3, c4, -, -⟩ := c_bd HI.out.1 HI.out.2 hUk (by omega)
      have hds := duS_bd sok hvU
      have hA := fun w' ho' hb' => add8_any a' len' cap' (w1.heap.size + 1) (cN stD (l.take k)) (cV stD (l.take k)) v S w' ho' hb' c1 hvU sok (by omega) c3 c4
      rw [← wS, ← wV, ← htk] at hA
      have hL := fun w' => learnt_any S v w' sd sok hvU
      have eT : learnD S v = stI stD (l.take (k + 1)) := by rw [htk, stI_snoc, ← eS]
      obtain ⟨T, hT⟩ : ∃ x, learnD S v = x := ⟨_, rfl⟩
      obtain ⟨N, hN⟩ : ∃ x, cN stD (l.take k) = x := ⟨_, rfl⟩
      obtain ⟨N2, hN2⟩ : ∃ x, cN stD (l.take (k + 1)) = x := ⟨_, rfl⟩
      have hA2 := hA wr.drew (ho.below (Below.refl _ _).drew) hz
      clear hA
      obtain ⟨L2, hL2⟩ : ∃ x, bl (cN stD (l.take (k + 1))) (cV stD (l.take (k + 1))) = x := ⟨_, rfl⟩
      rw [hL2] at hA2
      rw [hT] at hL eT
      have HE := hid (And.intro hL2 (And.intro hN2 eT))
      rw [hN, hN2] at hA2
      rw [hN] at X2
      clear hL2 hN2 hN hT wS wV c1 c2 c3 c4 htk cc ev sok sd hUk hds eT ho hlk
      obtain ⟨sa, sb, ss, st⟩ := S
      obtain ⟨ta, tb, ts, tt⟩ := T
      unfold bv Du.dv at hA2
      unfold Du.dv at hL
      simp only at hA2 hL X3
      obtain ⟨x20, x21, xf0, xf1⟩ := X2
      obtain ⟨x30, x31, x32, x33, f30, f31, f32, f33⟩ := X3
      have l2 : w.heap.size + 1 + 1 < wr.heap.size := by omega
      have l3 : w1.heap.size < wr.heap.size := by omega
      have hlb2 : b < wr.heap.size := by omega
      go_wp2
      refine region_tail 6 (by kernel_rfl) (by kernel_rfl) (fun K hK => ?_)
      simp only [List.take_succ_cons, List.take_zero, List.drop_succ_cons, List.drop_zero] at hK ⊢
      iterate 6 still_step
      refine wpStill_nil ?_
      refine hK _ ?_
      clear hK K
      go_wp2_with ((with_reducible refine hA2.mono ?_); rintro e w2 ⟨a2, n2, q2, rfl, ho2, hb2, -⟩; have z2 : wr.heap.size ≤ w2.heap.size := hb2.size; have Y2 := (Box2.mk x20 x21 xf0 xf1).drew.below hb2 (show w.heap.size + 1 + 1 < w1.heap.size + 1 by omega); have Y3 := (Box4.mk x30 x31 x32 x33 f30 f31 f32 f33).drew.below hb2 (show w1.heap.size < w1.heap.size + 1 by omega); have Y0 := X0.drew.below hb2 (show w.heap.size < w1.heap.size + 1 by omega); have Y1 := X1.drew.below hb2 (show w.heap.size + 1 < w1.heap.size + 1 by omega); have d2 : w2.cell? ⟨b, off + k, none⟩ = some (.int .u32 v) := cell_below9 d1 (Below.trans ((Below.refl _ wr).drew.mono hz) hb2) (show b < w1.heap.size + 1 by omega); clear x20 x21 xf0 xf1 x30 x31 x32 x33 f30 f31 f32 f33; obtain ⟨x20, x21, xf0, xf1⟩ := Y2)
      have Z2 := (Box2.mk x20 x21 xf0 xf1).put (.slice a2 n2 q2) (.int .i64 N2)
      have Z0 := (Y0.set (g' := w.heap.size + 1 + 1) (i := 0) (x := .slice a2 n2 q2) (by omega)).set (g' := w.heap.size + 1 + 1) (i := 1) (x := .int .i64 N2) (by omega)
      have Z1 := (Y1.set (g' := w.heap.size + 1 + 1) (i := 0) (x := .slice a2 n2 q2) (by omega)).set (g' := w.heap.size + 1 + 1) (i := 1) (x := .int .i64 N2) (by omega)
      have Z3 := (Y3.set (g' := w.heap.size + 1 + 1) (i := 0) (x := .slice a2 n2 q2) (by omega)).set (g' := w.heap.size + 1 + 1) (i := 1) (x := .int .i64 N2) (by omega)
      have hfar := ho2.far (show w.heap.size + 1 + 1 < w1.heap.size + 1 by omega)
      have ho5 := (ho2.other (i := 0) (u := .slice a2 n2 q2) hfar).other (i := 1) (u := .int .i64 N2) hfar
      have hb5 : Below w.heap.size w _ := Below.set2 (hb.trans ((Below.trans ((Below.refl _ wr).drew.mono hz) hb2).mono (by omega))) (show w.heap.size ≤ w.heap.size + 1 + 1 by omega) (.slice a2 n2 q2) (.int .i64 N2)
      have d5 : ((w2.setCell ⟨w.heap.size + 1 + 1, 0, none⟩ (.slice a2 n2 q2)).setCell ⟨w.heap.size + 1 + 1, 1, none⟩ (.int .i64 N2)).cell? ⟨b, off + k, none⟩ = some (.int .u32 v) := cellS2 d2 (show b ≠ w.heap.size + 1 + 1 by omega)
      have z5 : w1.heap.size + 1 ≤ ((w2.setCell ⟨w.heap.size + 1 + 1, 0, none⟩ (.slice a2 n2 q2)).setCell ⟨w.heap.size + 1 + 1, 1, none⟩ (.int .i64 N2)).heap.size := by simp only [World.size_setCell]; omega
      generalize ((w2.setCell ⟨w.heap.size + 1 + 1, 0, none⟩ (.slice a2 n2 q2)).setCell ⟨w.heap.size + 1 + 1, 1, none⟩ (.int .i64 N2)) = w5 at *
      clear Y0 Y1 Y3 d1 d2 hb2 z2 ho2 hfar x20 x21 xf0 xf1 hA2 X0 X1
      obtain ⟨x30, x31, x32, x33, f30, f31, f32, f33⟩ := Z3
      have l3 : w1.heap.size < w5.heap.size := by omega
      have hlb5 : b < w5.heap.size := by omega
      refine region_tail 5 (by kernel_rfl) (by kernel_rfl) (fun K hK => ?_)
      simp only [List.take_succ_cons, List.take_zero, List.drop_succ_cons, List.drop_zero] at hK ⊢
      iterate 5 still_step
      refine wpStill_nil ?_
      refine hK _ ?_
      clear hK K
      go_wp2_with ((with_reducible refine (hL _).mono ?_); rintro e w6 ⟨rfl, hb6⟩; have z6 : w5.heap.size ≤ w6.heap.size := hb6.size; have Y3 := (Box4.mk x30 x31 x32 x33 f30 f31 f32 f33).drew.below hb6 (show w1.heap.size < w5.heap.size from l3); clear x30 x31 x32 x33 f30 f31 f32 f33; obtain ⟨x30, x31, x32, x33, f30, f31, f32, f33⟩ := Y3)
      have hq : Below w5.heap.size w5 w6 := (Below.refl _ w5).drew.trans hb6
      go_roundw
      case rel =>
        obtain ⟨hL2, hN2, eT⟩ := HE.out
        have hno : (Value.slice a2 n2 q2).ownBlock ≠ some w1.heap.size := (ho5.below hq).far (by omega)
        refine ⟨k + 1, by omega, by go_num, Below.set4 (hb5.trans (hq.mono (by omega))) (by omega) _ _ _ _, by simp only [World.size_setCell]; omega, ?_, ?_, a2, n2, q2, ⟨ta, tb, ts, tt⟩, ?_, ?_, Box4.putAll (Box4.mk x30 x31 x32 x33 f30 f31 f32 f33) _ _ _ _, ?_⟩
        · exact ((((Z0.below hq (by omega)).set (by omega)).set (by omega)).set (by omega)).set (by omega)
        · exact ((((Z1.below hq (by omega)).set (by omega)).set (by omega)).set (by omega)).set (by omega)
        · exact eT
        · rw [hN2]; exact ((((Z2.below hq (by omega)).set (by omega)).set (by omega)).set (by omega)).set (by omega)
        · rw [show cL stD (l.take (k + 1)) = L2 from hL2]; exact (((((ho5.below hq).other hno).other hno).other hno).other hno)
      case measure => simp [intOf]; omega
    · obtain rfl : k = l.length := by omega
      have HS := hid eS
      obtain ⟨N, hN⟩ : ∃ x, cN stD (l.take l.length) = x := ⟨_, rfl⟩
      rw [hN] at X2
      have HN := hid hN
      clear eS sok sd hUk hN
      obtain ⟨sa, sb, ss, st⟩ := S
      simp only at X3
      obtain ⟨x00, x01, f00, f01⟩ := X0
      obtain ⟨x10, x11, x12, x13, f10, f11, f12, f13⟩ := X1
      obtain ⟨x20, x21, xf0, xf1⟩ := X2
      obtain ⟨x30, x31, x32, x33, f30, f31, f32, f33⟩ := X3
      have l0 : w.heap.size < wr.heap.size := by omega
      have l1 : w.heap.size + 1 < wr.heap.size := by omega
      have l2 : w.heap.size + 1 + 1 < wr.heap.size := by omega
      have l3 : w1.heap.size < wr.heap.size := by omega
      go_wp2
      go_region
      go_wp2
      refine bodyPost_ret_by (v := .tuple #[.agg #[.slice a' len' cap', .int .i64 N], .agg #[.int .i64 sa, .int .i64 sb, .int .u64 ss, .int .u64 st]]) (by rw [results_cc rfl]; go_simp) rfl ?_
      have h0 := ho.far (show w.heap.size < w1.heap.size + 1 by omega)
      have h1 := ho.far (show w.heap.size + 1 < w1.heap.size + 1 by omega)
      have ho6 := ((((((ho.other (i := 0) (u := .slice a' len' cap') h0).other (i := 1) (u := .int .i64 N) h0).other (i := 0) (u := .int .i64 sa) h1).other (i := 1) (u := .int .i64 sb) h1).other (i := 2) (u := .int .u64 ss) h1).other (i := 3) (u := .int .u64 st) h1).below (Below.refl _ _).drew
      have hrow := ho6.rowLit (wf_byte (bl_byte _ _))
      rw [List.take_length] at hrow HN HS
      refine ⟨a', len', cap', by rw [List.take_length, ← HS.out, HN.out], hrow, (Below.set4 (Below.set2 hb (by omega) _ _) (by omega) _ _ _ _).drew, fun x hx => ?_⟩
      subst hx
      obtain ⟨bb, oo, sp⟩ := x
      have := own_ge ho
      dsimp only
      omega
set_option maxHeartbeats 4000000 in
theorem renc_any (a : Option Addr) (len cap : Nat) (l : List Int) (w : World) (hr : RowIn .u32 w a len cap l) :
    Calls Try.prog 18 #[.slice a len cap] w fun e w' => ∃ a' cap', e = .returned (.tuple #[bv a' (enL l).length cap' (enN l), .int .i64 (enE l)]) ∧ RowIn .u8 w' a' (enL l).length cap' (enL l) ∧ Below w.heap.size w w' := by
  have hlen := hr.hl
  have hl := hr.rd.len
  rw [hlen] at hl
  by_cases hm : 4000 < len
  · obtain ⟨e1, e2, e3, -⟩ := c_en_many (l := l) (by omega)
    rw [e1, e2, e3]
    have f1 : (4000 < (len : Int)) = True := eq_true (by omega)
    clear e1 e2 e3
    unfold bv
    go_enter Try.func18, Try.ntmps18
    go_wp2
    refine bodyPost_ret_by (v := .tuple #[.agg #[.slice none 0 0, .int .i64 0], .int .i64 4]) (by rw [results_cell_tmp rfl]; go_simp) rfl ?_
    exact ⟨none, 0, rfl, RowIn.nil, below1 w _⟩
  · obtain ⟨e1, e2, e3, -⟩ := c_en (l := l) (by omega)
    rw [e1, e2, e3]
    have f1 : (4000 < (len : Int)) = False := eq_false (by omega)
    have hC := fun w' hb => coded_any a len cap l w' (hr.same (w' := w') hb) (by omega)
    obtain ⟨L, hL⟩ : ∃ x, cL stD l = x := ⟨_, rfl⟩
    obtain ⟨N, hN⟩ : ∃ x, cN stD l = x := ⟨_, rfl⟩
    obtain ⟨T, hT⟩ : ∃ x, stI stD l = x := ⟨_, rfl⟩
    simp only [hL, hN, hT] at hC ⊢
    clear e1 e2 e3 hL hN hT
    obtain ⟨ta, tb, ts, tt⟩ := T
    unfold bv Du.dv at hC
    unfold bv
    simp only at hC
    go_enter Try.func18, Try.ntmps18
    go_wp2_with ((with_reducible refine (hC _ (below1 w _)).mono ?_); rintro e w2 ⟨a2, n2, q2, rfl, hr2, hb2, hf2⟩; rw [size1] at hb2; have z2 := hb2.size; rw [size1] at z2; have hB2 := (below1 w _).trans (hb2.mono (by omega)); have X2 := (Box2.of (blk1 w _)).below hb2 (by omega); have c0 := X2.c0; have c1 := X2.c1; have f0 := X2.f0; have f1 := X2.f1; have lX : w.heap.size < w2.heap.size := (by omega))
    obtain rfl := hr2.hl
    refine bodyPost_ret_by (v := .tuple #[.agg #[.slice a2 L.length q2, .int .i64 N], .int .i64 0]) (by rw [results_cell_tmp rfl]; go_simp) rfl ?_
    have n1 : ∀ x, a2 = some x → x.block ≠ w.heap.size := fun x hx => by have t : (w.alloc _).heap.size ≤ x.block := hf2 x hx; rw [size1] at t; omega
    exact ⟨a2, q2, rfl, rowA (rowA (rowS (rowS hr2 n1) n1)), bA (bA (Below.set2 hB2 (by omega) _ _) (by simp only [World.size_setCell]; omega)) (by simp only [World.size_setCell, World.size_alloc]; omega)⟩

set_option maxHeartbeats 4000000 in
theorem raft_any (a : Option Addr) (len cap : Nat) (l : List Int) (w : World) (hr : RowIn .u32 w a len cap l) :
    Calls Try.prog 19 #[.slice a len cap] w fun e w' => e = .returned (.tuple #[Du.dv (afD l), .int .i64 (enE l)]) ∧ Below w.heap.size w w' := by
  have hlen := hr.hl
  have hl := hr.rd.len
  rw [hlen] at hl
  by_cases hm : 4000 < len
  · obtain ⟨e1, -, -, e4⟩ := c_en_many (l := l) (by omega)
    rw [e1, e4]
    have f1 : (4000 < (len : Int)) = True := eq_true (by omega)
    clear e1 e4
    unfold Du.dv zD
    simp only
    go_enter Try.func19, Try.ntmps19
    go_wp2
    refine bodyPost_ret_by (v := .tuple #[.agg #[.int .i64 0, .int .i64 0, .int .u64 0, .int .u64 0], .int .i64 4]) (by rw [results_cell_tmp rfl]; go_simp) rfl ?_
    exact ⟨rfl, below1 w _⟩
  · obtain ⟨e1, -, -, e4⟩ := c_en (l := l) (by omega)
    rw [e1, e4]
    have f1 : (4000 < (len : Int)) = False := eq_false (by omega)
    have hC := fun w' hb => coded_any a len cap l w' (hr.same (w' := w') hb) (by omega)
    obtain ⟨L, hL⟩ : ∃ x, cL stD l = x := ⟨_, rfl⟩
    obtain ⟨N, hN⟩ : ∃ x, cN stD l = x := ⟨_, rfl⟩
    obtain ⟨T, hT⟩ : ∃ x, stI stD l = x := ⟨_, rfl⟩
    simp only [hL, hN, hT] at hC ⊢
    clear e1 e4 hL hN hT
    obtain ⟨ta, tb, ts, tt⟩ := T
    unfold bv Du.dv at hC
    unfold Du.dv
    simp only at hC ⊢
    go_enter Try.func19, Try.ntmps19
    go_wp2_with ((with_reducible refine (hC _ (below1 w _)).mono ?_); rintro e w2 ⟨a2, n2, q2, rfl, hr2, hb2, -⟩; rw [size1] at hb2; have z2 := hb2.size; rw [size1] at z2; have hB2 := (below1 w _).trans (hb2.mono (by omega)); have X2 := (Box4.of (blk1 w _)).below hb2 (by omega); have c0 := X2.c0; have c1 := X2.c1; have c2 := X2.c2; have c3 := X2.c3; have f0 := X2.f0; have f1 := X2.f1; have f2 := X2.f2; have f3 := X2.f3; have lX : w.heap.size < w2.heap.size := (by omega))
    refine bodyPost_ret_by (v := .tuple #[.agg #[.int .i64 ta, .int .i64 tb, .int .u64 ts, .int .u64 tt], .int .i64 0]) (by rw [results_cell_tmp rfl]; go_simp) rfl ?_
    exact ⟨rfl, bA (bA (Below.set4 hB2 (by omega) _ _ _ _) (by simp only [World.size_setCell]; omega)) (by simp only [World.size_setCell, World.size_alloc]; omega)⟩
end Go.Proofs.Ytogoiolpngbodaa.R09

namespace Go.Proofs.Ytogoiolpngbodaa.R09
open Go.Proofs Go.RowKit Go.Proofs.Ytogoiolpngbodaa.Kit Go.Proofs.Ytogoiolpngbodaa.M01 Go.Proofs.Ytogoiolpngbodaa.M02 Go.Proofs.Ytogoiolpngbodaa.M06 Go.Proofs.Ytogoiolpngbodaa.M07 Go.Proofs.Ytogoiolpngbodaa.M08 Go.Proofs.Ytogoiolpngbodaa.M09 Go.Proofs.Ytogoiolpngbodaa.Bt Go.Proofs.Ytogoiolpngbodaa.R02 Go.Proofs.Ytogoiolpngbodaa.R08
set_option linter.unusedVariables false
attribute [local irreducible] wpStill

theorem info9r_u32 : (Try.prog.info? 57).map (fun i => (i.zero, i.size, i.bytes)) = some (some (.int .u32 0), 1, 4) := by kernel_rfl

set_option maxHeartbeats 4000000 in
theorem rdec9_any (a : Option Addr) (len cap : Nat) (xs : List Int) (n m : Int) (w : World) (hr : RowIn .u8 w a len cap xs) (hn : isInt n) (hm : isInt m) :
    Calls Try.prog 24 #[bv a len cap n, .int .i64 m] w fun e w' => ∃ a' cap', e = .returned (.tuple #[.slice a' (deL xs n m).length cap', .int .i64 (deX xs n m), .int .i64 (deE xs n m)]) ∧ RowIn .u32 w' a' (deL xs n m).length cap' (deL xs n m) ∧ Below w.heap.size w w' := by
  have hC := fun w' hb => rcheck_any a len cap xs n w' (hr.same (w' := w') hb) hn
  obtain ⟨hm1, hm2⟩ := hm
  by_cases hok : okB xs n = true
  case neg =>
    have e1 : chkE xs n = 8 := by simp [chkE, hok]
    simp only [e1] at hC
    have eE : deE xs n m = 8 := by rw [deE, if_neg hok]
    obtain ⟨eL, eX⟩ := de_none (xs := xs) (n := n) (m := m) (by rw [eE]; decide)
    rw [eE, eL, eX]
    clear eE eL eX e1 hok
    unfold bv at hC ⊢
    go_enter Try.func24, Try.ntmps24
    go_wp2_with ((with_reducible refine (hC _ (below1 _ _)).mono ?_); rintro e w1 ⟨rfl, hb1⟩; rw [size1] at hb1; have hB1 := (below1 w _).trans (hb1.mono (by omega)))
    go_ret3
    exact ⟨none, 0, rfl, RowIn.nil, hB1⟩
  have e1 : chkE xs n = 0 := by simp [chkE, hok]
  simp only [e1] at hC
  clear e1
  by_cases h0 : m < 0
  · have eE : deE xs n m = 2 := by rw [deE, if_pos hok, if_pos h0]
    obtain ⟨eL, eX⟩ := de_none (xs := xs) (n := n) (m := m) (by rw [eE]; decide)
    rw [eE, eL, eX]
    clear eE eL eX hok
    have f1 : (m < 0) = True := eq_true h0
    unfold bv at hC ⊢
    go_enter Try.func24, Try.ntmps24
    go_wp2_with ((with_reducible refine (hC _ (below1 _ _)).mono ?_); rintro e w1 ⟨rfl, hb1⟩; rw [size1] at hb1; have hB1 := (below1 w _).trans (hb1.mono (by omega)))
    go_ret3
    exact ⟨none, 0, rfl, RowIn.nil, hB1⟩
  have f1 : (m < 0) = False := eq_false h0
  by_cases h4 : 4000 < m
  · have eE : deE xs n m = 4 := by rw [deE, if_pos hok, if_neg h0, if_pos h4]
    obtain ⟨eL, eX⟩ := de_none (xs := xs) (n := n) (m := m) (by rw [eE]; decide)
    rw [eE, eL, eX]
    clear eE eL eX hok
    have f2 : (4000 < m) = True := eq_true h4
    unfold bv at hC ⊢
    go_enter Try.func24, Try.ntmps24
    go_wp2_with ((with_reducible refine (hC _ (below1 _ _)).mono ?_); rintro e w1 ⟨rfl, hb1⟩; rw [size1] at hb1; have hB1 := (below1 w _).trans (hb1.mono (by omega)))
    go_ret3
    exact ⟨none, 0, rfl, RowIn.nil, hB1⟩
  have f2 : (4000 < m) = False := eq_false h4
  have hSt := fun w' => rstart_any w'
  obtain ⟨M, rfl⟩ : ∃ M : Nat, m = (M : Int) := ⟨m.toNat, by omega⟩
  have hby := hid (byte_of hr.rd)
  have Hst := hid (fun k (hk : k < M) => de_stop (m := (M : Int)) hok (by omega) (by omega) (k := k) (by omega))
  have Hal := hid (fun hE => de_all (m := (M : Int)) hok (by omega) (by omega) (k := M) rfl hE)
  have HOK := hid hok
  have hn0 := (okB_iff.1 hok).1
  obtain ⟨i0, hi, hz0, hz1, hz2⟩ := info_parts info9r_u32
  unfold bv at hC ⊢
  unfold Du.dv stD at hSt
  simp only at hSt
  clear hok
  go_enter Try.func24, Try.ntmps24
  go_wp2_with (first | ((with_reducible refine (hC _ (below1 _ _)).mono ?_); rintro e w1 ⟨rfl, hb1⟩; rw [size1] at hb1; have z1 := hb1.size; rw [size1] at z1; have hB1 := (below1 w _).trans (hb1.mono (by omega)); have X1 := (Box2.of (blk1 w _)).below hb1 (by omega)) | ((with_reducible refine (hSt _).mono ?_); rintro e w3 ⟨rfl, hb3⟩))
  have z3 := hb3.size
  have hB3 : Below w.heap.size w w3 := hB1.trans (hb3.mono (by omega))
  have Y1 := X1.below hb3 (by omega)
  clear hb1 X1 hSt hC
  go_loopw [7, 8, 10] (fun v s t wr => ∃ k : Nat, k ≤ M ∧ t = .int .i64 k ∧ s = .int .i64 (rdP xs n k 0 stD) ∧ Hid (rdE xs n k 0 stD = 0) ∧ Box2 wr w.heap.size (.slice a len cap) (.int .i64 n) ∧ (∃ S, S = rdT xs n k 0 stD ∧ Box4 wr w3.heap.size (.int .i64 S.a) (.int .i64 S.b) (.int .u64 S.s) (.int .u64 S.t)) ∧ OwnI .u32 wr (w3.heap.size + 1) 57 v (rdL xs n k 0 stD) ∧ Below w.heap.size w wr ∧ w3.heap.size + 1 ≤ wr.heap.size) (fun _ _ t _ => M - (intOf t).toNat)
  case atStart =>
    refine ⟨0, by omega, by go_num, by go_num, hid rfl, box2A Y1, ⟨stD, rfl, Box4.of (blk1 w3 _)⟩, OwnI.nil, bA hB3 (by omega), by rw [size1]; omega⟩
  case round =>
    obtain ⟨k, hk, rfl, rfl, hE, X0, ⟨S, eS, X3⟩, ho, hb, hz⟩ := hrel
    clear Y1 hB3 hb3
    obtain ⟨sok, sd, p0, pn⟩ := rd_state hby.out k 0 stD okD_st isD_st' (by omega) hn0 hE.out
    rw [← eS] at sok sd
    have hnn := (okB_iff.1 HOK.out).2.1
    have hrr := hr.same hb
    by_cases hlt : k < M
    · have hst := Hst.out k hlt hE.out
      have hsn := rdE_snoc xs n k 0 stD hE.out
      have hLs := rdL_snoc xs n k 0 stD
      have hPs := rdP_snoc xs n k 0 stD
      have hTs := rdT_snoc xs n k 0 stD
      rw [← eS] at hst hsn hLs hPs hTs
      have hLk := rd_len xs n k 0 stD
      have hvU := drN_isU (n := n) (p := rdP xs n k 0 stD) (d := S) hby.out
      have hR := fun w' (r : RowIn .u8 w' a len cap xs) => got8_any a len cap xs n (rdP xs n k 0 stD) S w' r HOK.out p0 (by omega) sok
      have hLt := fun w' => learnt_any S (drN xs n (rdP xs n k 0 stD) S) w' sd sok hvU
      have hDT : drE xs n (rdP xs n k 0 stD) S = 0 → learnD S (drN xs n (rdP xs n k 0 stD) S) = drD xs n (rdP xs n k 0 stD) S := fun h => (dr_once hby.out h).2.2.2.2.2.2.2.symm
      obtain ⟨P, hP⟩ : ∃ x, rdP xs n k 0 stD = x := ⟨_, rfl⟩
      simp only [hP] at hst hsn hLs hPs hTs hvU hR hLt hDT p0 pn ⊢
      obtain ⟨E, hEE⟩ : ∃ x, drE xs n P S = x := ⟨_, rfl⟩
      obtain ⟨V, hV⟩ : ∃ x, drN xs n P S = x := ⟨_, rfl⟩
      obtain ⟨X, hX⟩ : ∃ x, drX xs n P S = x := ⟨_, rfl⟩
      obtain ⟨T, hT⟩ : ∃ x, learnD S V = x := ⟨_, rfl⟩
      simp only [hEE, hV, hX, hT] at hst hsn hLs hPs hTs hvU hR hLt hDT
      clear hEE hV hX hT hP sok sd
      have HS := hid (And.intro hst (And.intro hsn (And.intro hPs (And.intro hTs (And.intro hDT hLs)))))
      have HO := hid ho
      have hlk : (rdL xs n k 0 stD).length = k := hLk
      clear hst hsn hPs hTs hLs hLk eS hDT
      obtain ⟨sa, sb, ss, st⟩ := S
      obtain ⟨ta, tb, ts, tt⟩ := T
      unfold bv Du.dv at hR
      unfold Du.dv at hLt
      simp only at hR hLt X3
      obtain ⟨x00, x01, xf0, xf1⟩ := X0
      obtain ⟨x30, x31, x32, x33, f30, f31, f32, f33⟩ := X3
      have l0 : w.heap.size < wr.heap.size := by omega
      have l3 : w3.heap.size < wr.heap.size := by omega
      by_cases hE0 : E = 0
      · subst hE0
        go_wp2_with (first  | ((with_reducible refine (hR _ hrr).mono ?_); rintro e w4 ⟨rfl, hb4⟩; have z4 : wr.heap.size ≤ w4.heap.size := hb4.size; have Y0 := (Box2.mk x00 x01 xf0 xf1).below hb4 l0; have Y3 := (Box4.mk x30 x31 x32 x33 f30 f31 f32 f33).below hb4 l3; have ho4 := HO.out.below hb4; clear x00 x01 xf0 xf1 x30 x31 x32 x33 f30 f31 f32 f33; obtain ⟨x30, x31, x32, x33, f30, f31, f32, f33⟩ := Y3)  | (at_builtin; refine app1 rfl _ _ 28 rfl (w3.heap.size + 1) 57 i0 (.int .u32 0) 4 Try.underlying28 hi hz0 hz1 hz2 rfl .u32 _ _ ho4 _ rfl rfl (by omega) (by omega) (by omega) ?_; intro v5 w5 ho5 hgr hb5; have z5 : w4.heap.size ≤ w5.heap.size := hb5.size; have Y0' := Y0.below hb5 (show w.heap.size < w3.heap.size + 1 by omega); have Y3 := (Box4.mk x30 x31 x32 x33 f30 f31 f32 f33).below hb5 (show w3.heap.size < w3.heap.size + 1 by omega); clear x30 x31 x32 x33 f30 f31 f32 f33; obtain ⟨x30, x31, x32, x33, f30, f31, f32, f33⟩ := Y3)  | ((with_reducible refine (hLt _).mono ?_); rintro e w6 ⟨rfl, hb6⟩; have z6 : w5.heap.size ≤ w6.heap.size := hb6.size; have Y0'' := Y0'.below hb6 (show w.heap.size < w5.heap.size by omega); have Y3 := (Box4.mk x30 x31 x32 x33 f30 f31 f32 f33).below hb6 (show w3.heap.size < w5.heap.size by omega); clear x30 x31 x32 x33 f30 f31 f32 f33; obtain ⟨x30, x31, x32, x33, f30, f31, f32, f33⟩ := Y3))
        go_roundw
        case rel =>
          obtain ⟨-, hsn, hPs, hTs, hDT, hLs⟩ := HS.out
          have ho6 := ho5.below hb6
          have hno : v5.ownBlock ≠ some w3.heap.size := ho6.far (by omega)
          rw [← hLs] at ho6
          refine ⟨k + 1, by omega, by go_num, by rw [hPs], hid hsn, ((((Y0''.set (by omega)).set (by omega)).set (by omega)).set (by omega)), ⟨⟨ta, tb, ts, tt⟩, by rw [hTs]; exact hDT (by trivial), Box4.putAll (Box4.mk x30 x31 x32 x33 f30 f31 f32 f33) _ _ _ _⟩, (((ho6.other hno).other hno).other hno).other hno, Below.set4 ((hb.trans (hb4.mono (by omega))).trans ((hb5.mono (by omega)).trans (hb6.mono (by omega)))) (by omega) _ _ _ _, by simp only [World.size_setCell]; omega⟩
        case measure => simp [intOf]; omega
      · have f5 : (E = 0) = False := eq_false hE0
        have f6 : (E != 0) = true := bne_iff_ne.2 hE0
        go_wp2_with ((with_reducible refine (hR _ hrr).mono ?_); rintro e w4 ⟨rfl, hb4⟩)
        go_ret3
        obtain ⟨hst, -⟩ := HS.out
        obtain ⟨q1, q2, q3⟩ := hst hE0
        rw [q1, q2, q3]
        exact ⟨none, 0, rfl, RowIn.nil, hb.trans (hb4.mono (by omega))⟩
    · obtain rfl : k = M := by omega
      obtain ⟨av, cv, rfl, hrow⟩ := ho.row (okV_wf (rdL_okV hby.out k 0 stD))
      have hlk := rd_len xs n k 0 stD
      rw [hlk] at hrow
      simp only [hlk]
      clear ho eS sok sd hlk
      go_wp2
      go_ret3
      obtain ⟨q1, q2, q3⟩ := Hal.out hE.out
      have hlk := rd_len xs n k 0 stD
      rw [q1, q2, q3, hlk]
      exact ⟨_, _, rfl, hrow, hb⟩
end Go.Proofs.Ytogoiolpngbodaa.R09

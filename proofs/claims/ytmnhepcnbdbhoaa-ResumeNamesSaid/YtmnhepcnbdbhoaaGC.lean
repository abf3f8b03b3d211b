/- What package coder returns: the code of numbers, few of them one behind the other. What package coder returns: the code of numbers, in two halves. What package coder returns: Encode and After. What package coder returns: Decode. -/
import Derived.Test.YtmnhepcnbdbhoaaDual3
import Derived.Test.YtmnhepcnbdbhoaaGK
import Derived.Test.YtmnhepcnbdbhoaaGM
import Derived.Deep.DeepCutAuto
import Derived.Deep.RegionHeld3
import Derived.Test.YtmnhepcnbdbhoaaDual5
namespace Go.Proofs.Ytmnhepcnbdbhoaa.Co
open Go.Proofs Go.RowKit Go.Proofs.Ytmnhepcnbdbhoaa.Kit Go.Proofs.Ytmnhepcnbdbhoaa.M01 Go.Proofs.Ytmnhepcnbdbhoaa.M02 Go.Proofs.Ytmnhepcnbdbhoaa.M06 Go.Proofs.Ytmnhepcnbdbhoaa.M07 Go.Proofs.Ytmnhepcnbdbhoaa.M08 Go.Proofs.Ytmnhepcnbdbhoaa.M09 Go.Proofs.Ytmnhepcnbdbhoaa.Bt Go.Proofs.Ytmnhepcnbdbhoaa.Un Go.Proofs.Ytmnhepcnbdbhoaa.Ri Go.Proofs.Ytmnhepcnbdbhoaa.Du
set_option linter.unusedVariables false
attribute [local irreducible] wpStill

theorem okV_row {xs : List Int} (h : ∀ x ∈ xs, (Lit.int .u32 x).wf = true) : okV xs := fun x hx => bd_u32 (h x hx)
theorem getD_wf9 {xs : List Int} {k : IntKind} (h : ∀ x ∈ xs, (Lit.int k x).wf = true) {i : Nat} (hi : i < xs.length) : (Lit.int k (xs.getD i 0)).wf = true := by
  rw [List.getD_eq_getElem?_getD, List.getElem?_eq_getElem hi]; exact h _ (List.getElem_mem hi)
theorem results_cc {fn : Func} {p q : Tmp} {t1 t2 : TypeId} (h : fn.results = #[.cell p t1, .cell q t2]) (tmps : Array Value) (P : Program) (w : World) :
    (results fn tmps).run P w = ((asAddr (tmps.getD p undef)).run P w).andThen fun a w₁ => ((loadVar t1 a).run P w₁).andThen fun v w₂ =>
      ((asAddr (tmps.getD q undef)).run P w₂).andThen fun b w₃ => ((loadVar t2 b).run P w₃).andThen fun x w₄ => .ok (.tuple #[v, x]) w₄ := by
  simp only [results, h]
  simp [Sem.run_bind, Result.andThen]
theorem cell_below9 {w w' : World} {B : Nat} {a : Addr} {u : Value} (h : w.cell? a = some u) (hb : Below B w w') (hl : a.block < B) : w'.cell? a = some u := by rw [hb.cell hl]; exact h

set_option maxHeartbeats 8000000 in
theorem few_any (a : Option Addr) (len cap : Nat) (l : List Int) (d : D4) (w : World) (hr : RowIn .u32 w a len cap l) (hi : isD d) (h : okD d = true) (hle : len ≤ 16) :
    Calls Try.prog 40 #[.slice a len cap, dv d] w fun e w' => ∃ a' len' cap', e = .returned (.tuple #[bv a' len' cap' (cN d l), dv (stI d l)]) ∧ RowIn .u8 w' a' len' cap' (cL d l) ∧ Below w.heap.size w w' ∧ Fresh w a' := by
  obtain rfl := hr.hl
  have hU := hid (okV_row hr.rd.2.2)
  have HI := hid (And.intro hi h)
  have f1 : ((l.length : Int) ≤ 16) = True := eq_true (by omega)
  have h0 : stI d (l.take 0) = d := by rw [List.take_zero, stI]
  have hn := c_nil d
  rw [show stI d l = stI d (l.take l.length) by rw [List.take_length]]
  obtain ⟨D, hD⟩ : ∃ x, d = x := ⟨_, rfl⟩
  rw [hD] at HI h0 hn ⊢
  obtain ⟨da, db, ds, dt⟩ := d
  clear hi h
  have HD := hid hD
  clear hD
  unfold dv bv
  rw [← HD.out]
  simp only
  go_enter Try.func40, Try.ntmps40
  go_wp2_with fail
  go_loopw [19] (fun t wr => ∃ k : Nat, k ≤ l.length ∧ t = .int .i64 k ∧ Below w.heap.size w wr ∧ w.heap.size + 3 < wr.heap.size ∧ ∃ a' len' cap' S, S = stI D (l.take k) ∧ Box4 wr w.heap.size (.int .i64 S.a) (.int .i64 S.b) (.int .u64 S.s) (.int .u64 S.t) ∧ Box2 wr (w.heap.size + 1) (.slice none 0 0) (.int .i64 0) ∧ Box4 wr (w.heap.size + 1 + 1) (.int .i64 0) (.int .i64 0) (.int .u64 0) (.int .u64 0) ∧ Box2 wr (w.heap.size + 1 + 1 + 1) (.slice a' len' cap') (.int .i64 (cN D (l.take k))) ∧ RowIn .u8 wr a' len' cap' (cL D (l.take k)) ∧ ∀ x, a' = some x → w.heap.size + 4 ≤ x.block) (fun t _ => l.length - (intOf t).toNat)
  case atStart =>
    refine ⟨0, by omega, by go_num, below4 w _ _ _ _, by rw [size4]; omega, none, 0, 0, D, h0.symm, ?_, Box2.of (blk4b w _ _ _ _), Box4.of (blk4c w _ _ _ _), ?_, ?_, fun x hx => by cases hx⟩
    · rw [← HD.out]; exact Box4.of (blk4a w _ _ _ _)
    · rw [List.take_zero, hn.1]; exact Box2.of (blk4 w _ _ _ _)
    · rw [List.take_zero, hn.2.2]; exact RowIn.nil
  case round =>
    obtain ⟨k, hk, rfl, hb, hz, a', len', cap', S, eS, X0, X1, X2, X3, hrow, hfr⟩ := hrel
    have hUk := okV_take hU.out k
    obtain ⟨sok, sd⟩ := stI_ok HI.out.1 HI.out.2 hUk
    rw [← eS] at sok sd
    by_cases hlt : k < l.length
    · obtain ⟨b, off, rfl, cc⟩ := hr.rd.cells (by intro h; rw [h] at hlt; simp at hlt)
      have d1 := cc k hlt
      have hv := bd_u32 (getD_wf9 hr.rd.2.2 hlt)
      have htk := take_snoc hlt
      obtain ⟨v, ev⟩ : ∃ m, l.getD k 0 = m := ⟨_, rfl⟩
      rw [ev] at d1 hv htk
      have d1 : wr.cell? ⟨b, off + k, none⟩ = some (.int .u32 v) := cell_below9 d1 hb (World.block_lt_of_cell? w _ d1)
      have hvU : isU v := hv
      obtain ⟨wE, wL, wN, wD, wS, -⟩ := c_write (v := v) HI.out.1 HI.out.2 hUk (by rw [List.length_take]; omega) hvU
      rw [← eS] at wE wL wN wD wS
      rw [← htk] at wL wN wD wS
      have hW := fun w' hb => dwr_any a' len' cap' (cL D (l.take k)) (cN D (l.take k)) S v w' (hrow.same (w' := w') hb) (by have := c_bd HI.out.1 HI.out.2 hUk (by rw [List.length_take]; omega); rw [List.length_take] at this; unfold isInt; omega) sd hvU
      simp only [wE, wL, wN, wD] at hW
      obtain ⟨L2, hL2⟩ : ∃ x, cL D (l.take (k + 1)) = x := ⟨_, rfl⟩
      obtain ⟨N2, hN2⟩ : ∃ x, cN D (l.take (k + 1)) = x := ⟨_, rfl⟩
      obtain ⟨T, hT⟩ : ∃ x, stI D (l.take (k + 1)) = x := ⟨_, rfl⟩
      obtain ⟨N, hN⟩ : ∃ x, cN D (l.take k) = x := ⟨_, rfl⟩
      simp only [hL2, hN2, hT, hN] at hW X3
      have HE := hid (And.intro hL2 (And.intro hN2 hT))
      clear hL2 hN2 hT hN wE wL wN wD wS eS ev htk cc sok sd hUk h0 hn
      obtain ⟨sa, sb, ss, st⟩ := S
      obtain ⟨ta, tb, ts, tt⟩ := T
      unfold bv dv at hW
      simp only at hW X0
      obtain ⟨x00, x01, x02, x03, f00, f01, f02, f03⟩ := X0
      obtain ⟨x30, x31, f30, f31⟩ := X3
      have l3 : w.heap.size + 1 + 1 + 1 < wr.heap.size := hz
      go_wp2_with ((with_reducible refine (hW _ (Below.refl _ _)).mono ?_); rintro e w2 ⟨a2, q2, rfl, hr2, hb2, hf2⟩; have z2 := hb2.size; have Y0 := (Box4.mk x00 x01 x02 x03 f00 f01 f02 f03).below hb2 (show w.heap.size < wr.heap.size by omega); have Y3 := (Box2.mk x30 x31 f30 f31).below hb2 l3; have Y1 := X1.below hb2 (show w.heap.size + 1 < wr.heap.size by omega); have Y2 := X2.below hb2 (show w.heap.size + 1 + 1 < wr.heap.size by omega); clear x00 x01 x02 x03 f00 f01 f02 f03 x30 x31 f30 f31; obtain ⟨x00, x01, x02, x03, f00, f01, f02, f03⟩ := Y0; obtain ⟨x30, x31, f30, f31⟩ := Y3)
      go_roundw
      case rel =>
        obtain ⟨hL2, hN2, hT⟩ := HE.out
        refine ⟨k + 1, by omega, by go_num, Below.set4 (Below.set2 (hb.trans (hb2.mono (by omega))) (by omega) _ _) (by omega) _ _ _ _, by simp only [World.size_setCell]; omega, a2, L2.length, q2, ⟨ta, tb, ts, tt⟩, hT.symm, ?_, ?_, ?_, ?_, ?_, ?_⟩
        · exact Box4.putAll ((Box4.mk x00 x01 x02 x03 f00 f01 f02 f03).set (by omega) |>.set (by omega)) _ _ _ _
        · exact ((((((Y1.set (by omega)).set (by omega)).set (by omega)).set (by omega)).set (by omega)).set (by omega))
        · exact ((((((Y2.set (by omega)).set (by omega)).set (by omega)).set (by omega)).set (by omega)).set (by omega))
        · rw [hN2]; exact ((((((Box2.mk x30 x31 f30 f31).put (.slice a2 L2.length q2) (.int .i64 N2)).set (by omega)).set (by omega)).set (by omega)).set (by omega))
        · rw [hL2]
          have n3 := hf2.ne (show w.heap.size + 1 + 1 + 1 < wr.heap.size from l3)
          have n0 := hf2.ne (show w.heap.size < wr.heap.size by omega)
          exact rowS (rowS (rowS (rowS (rowS (rowS hr2 n3) n3) n0) n0) n0) n0
        · intro x hx; have := hf2 x hx; omega
      case measure => simp [intOf]; omega
    · obtain rfl : k = l.length := by omega
      have hS := eS
      obtain ⟨N, hN⟩ : ∃ x, cN D (l.take l.length) = x := ⟨_, rfl⟩
      simp only [hN] at X3
      have HE := hid hN
      clear hN eS
      obtain ⟨sa, sb, ss, st⟩ := S
      simp only at X0
      obtain ⟨x00, x01, x02, x03, f00, f01, f02, f03⟩ := X0
      obtain ⟨x10, x11, f10, f11⟩ := X1
      obtain ⟨x20, x21, x22, x23, f20, f21, f22, f23⟩ := X2
      obtain ⟨x30, x31, f30, f31⟩ := X3
      have l3 : w.heap.size + 1 + 1 + 1 < wr.heap.size := hz
      clear h0 hn sok sd hUk
      go_wp2
      go_region
      go_wp2
      refine bodyPost_ret_by (v := .tuple #[.agg #[.slice a' len' cap', .int .i64 N], .agg #[.int .i64 sa, .int .i64 sb, .int .u64 ss, .int .u64 st]]) (by rw [results_cc rfl]; go_simp) rfl ?_
      have n1 : ∀ x, a' = some x → x.block ≠ w.heap.size + 1 := fun x hx => by have := hfr x hx; omega
      have n2 : ∀ x, a' = some x → x.block ≠ w.heap.size + 1 + 1 := fun x hx => by have := hfr x hx; omega
      refine ⟨a', len', cap', ?_, ?_, ?_, fun x hx => by have := hfr x hx; omega⟩
      · rw [HD.out, ← hS]; rw [List.take_length] at HE; rw [HE.out]
      · rw [List.take_length] at hrow
        rw [HD.out]
        exact (rowS (rowS (rowS (rowS (rowS (rowS hrow n1) n1) n2) n2) n2) n2).drew
      · exact (Below.set4 (Below.set2 hb (by omega) _ _) (by omega) _ _ _ _).drew
end Go.Proofs.Ytmnhepcnbdbhoaa.Co

namespace Go.Proofs.Ytmnhepcnbdbhoaa.Co
open Go.Proofs Go.RowKit Go.Proofs.Ytmnhepcnbdbhoaa.Kit Go.Proofs.Ytmnhepcnbdbhoaa.M01 Go.Proofs.Ytmnhepcnbdbhoaa.M02 Go.Proofs.Ytmnhepcnbdbhoaa.M06 Go.Proofs.Ytmnhepcnbdbhoaa.M07 Go.Proofs.Ytmnhepcnbdbhoaa.M08 Go.Proofs.Ytmnhepcnbdbhoaa.M09 Go.Proofs.Ytmnhepcnbdbhoaa.Bt Go.Proofs.Ytmnhepcnbdbhoaa.Un Go.Proofs.Ytmnhepcnbdbhoaa.Ri Go.Proofs.Ytmnhepcnbdbhoaa.Du
set_option linter.unusedVariables false
set_option linter.unusedSimpArgs false
attribute [local irreducible] wpStill

theorem row_front {k : IntKind} {w : World} {a : Option Addr} {len cap n : Nat} {xs : List Int} (h : RowIn k w a len cap xs) (hn : n ≤ len) : RowIn k w a n cap (xs.take n) :=
  ⟨h.rd.take n, by rw [List.length_take, h.hl]; omega, Nat.le_trans hn h.hc, h.hm⟩
theorem row_back {k : IntKind} {w : World} {b off : Nat} {len cap n : Nat} {xs : List Int} (h : RowIn k w (some ⟨b, off, none⟩) len cap xs) (hn : n ≤ len) : RowIn k w (some ⟨b, off + n, none⟩) (len - n) (cap - n) (xs.drop n) :=
  ⟨h.rd.drop n, by rw [List.length_drop, h.hl], by have := h.hc; omega, by have := h.hm; omega⟩
theorem row_lt {k : IntKind} {w : World} {a : Option Addr} {len cap : Nat} {xs : List Int} (h : RowIn k w a len cap xs) (hne : xs ≠ []) : ∀ x, a = some x → x.block < w.heap.size := by
  intro x hx
  obtain ⟨b, off, rfl, hc⟩ := h.rd.cells hne
  cases hx
  exact World.block_lt_of_cell? w _ (hc 0 (List.length_pos_iff.2 hne))
theorem c_ne {d : D4} {l : List Int} (hi : isD d) (h : okD d = true) (hl : okV l) (hlen : l.length ≤ 4000) (hne : l ≠ []) : cL d l ≠ [] := by
  cases l with
  | nil => exact absurd rfl hne
  | cons v l =>
    have hv := hl v (by simp)
    have hl' : okV l := fun x hx => hl x (by simp [hx])
    obtain ⟨t1, t2⟩ := learn_ok hi h hv
    have e : cN d (v :: l) = duS d v + cN (learnD d v) l := rfl
    have hd := duS_bd h hv
    have hb := c_bd t2 t1 hl' (by simp at hlen; omega)
    intro h0
    have e2 : (cL d (v :: l)).length = sz (cN d (v :: l)) := bl_length _ _
    rw [h0, e] at e2
    simp [sz] at e2
    omega

set_option maxHeartbeats 8000000 in
theorem code_any (m : Nat) : ∀ (a : Option Addr) (len cap : Nat) (l : List Int) (d : D4) (w : World), len ≤ m → RowIn .u32 w a len cap l → isD d → okD d = true → len ≤ 4000 →
    Calls Try.prog 40 #[.slice a len cap, dv d] w fun e w' => ∃ a' len' cap', e = .returned (.tuple #[bv a' len' cap' (cN d l), dv (stI d l)]) ∧ RowIn .u8 w' a' len' cap' (cL d l) ∧ Below w.heap.size w w' ∧ Fresh w a' := by
  induction m with
  | zero => intro a len cap l d w hm hr hi h hle; exact few_any a len cap l d w hr hi h (by omega)
  | succ m ih =>
    intro a len cap l d w hm hr hi h hle
    by_cases h16 : len ≤ 16
    · exact few_any a len cap l d w hr hi h h16
    have f1 : ((len : Int) ≤ 16) = False := eq_false (by omega)
    obtain ⟨H, hH⟩ : ∃ H : Nat, len / 2 = H := ⟨_, rfl⟩
    have hq : ((len : Int)).tdiv 2 = (H : Int) := by rw [Int.tdiv_eq_ediv_of_nonneg (by omega)]; omega
    have hU := okV_row hr.rd.2.2
    have hlen := hr.hl
    obtain ⟨b, off, rfl, -⟩ := hr.rd.cells (by intro h; rw [h] at hlen; simp at hlen; omega)
    have IH1 := fun w' hb => ih (some ⟨b, off, none⟩) H cap (l.take H) d w' (by omega) (row_front (hr.same (w' := w') hb) (by omega)) hi h (by omega)
    obtain ⟨s1, s2⟩ := stI_ok hi h (okV_take hU H)
    have IH2 := fun w' hb => ih (some ⟨b, off + H, none⟩) (len - H) (cap - H) (l.drop H) (stI d (l.take H)) w' (by omega) (row_back (hr.same (w' := w') hb) (by omega)) s2 s1 (by omega)
    obtain ⟨j1, j2, j3⟩ := c_join hi h (okV_take hU H) (okV_drop hU H) (by rw [List.length_take, List.length_drop]; omega)
    rw [List.take_append_drop] at j2 j3
    have hL1 := c_ne hi h (okV_take hU H) (by rw [List.length_take]; omega) (by intro h0; have := congrArg List.length h0; rw [List.length_take, List.length_nil] at this; omega)
    have hb1 := c_bd hi h (okV_take hU H) (by rw [List.length_take]; omega)
    have hb2 := c_bd s2 s1 (okV_drop hU H) (by rw [List.length_drop]; omega)
    rw [List.length_take] at hb1
    rw [List.length_drop] at hb2
    have hJ := fun a1 n1 q1 a2 n2 q2 w' (r1 : RowIn .u8 w' a1 n1 q1 (cL d (l.take H))) (r2 : RowIn .u8 w' a2 n2 q2 (cL (stI d (l.take H)) (l.drop H))) => join_any a1 n1 q1 _ (cN d (l.take H)) a2 n2 q2 _ (cN (stI d (l.take H)) (l.drop H)) w' r1 (by unfold isInt; omega) r2 (by unfold isInt; omega)
    simp only [j1, j2, j3] at hJ
    have eT : stI (stI d (l.take H)) (l.drop H) = stI d l := by rw [← stI_append, List.take_append_drop]
    rw [eT] at IH2
    have hcl := hr.hc
    have hcm := hr.hm
    generalize cL (stI d (l.take H)) (l.drop H) = L2 at *
    generalize cN (stI d (l.take H)) (l.drop H) = N2 at *
    generalize cL d (l.take H) = L1 at *
    generalize cN d (l.take H) = N1 at *
    generalize cL d l = L at *
    generalize cN d l = N at *
    generalize stI d (l.take H) = S at *
    generalize stI d l = T at *
    clear j1 j2 j3 hb1 hb2 eT s1 s2 hi h hU ih
    obtain ⟨da, db, ds, dt⟩ := d
    obtain ⟨sa, sb, ss, st⟩ := S
    obtain ⟨ta, tb, ts, tt⟩ := T
    unfold dv at IH1 IH2 ⊢
    unfold bv at IH1 IH2 hJ ⊢
    simp only at IH1 IH2 hJ ⊢
    go_enter Try.func40, Try.ntmps40
    go_wp2_with fail
    have X0 := Box4.of (blk3a w (.cells #[.int .i64 da, .int .i64 db, .int .u64 ds, .int .u64 dt] 24) (.cells #[.slice none 0 0, .int .i64 0] 27) (.cells #[.int .i64 0, .int .i64 0, .int .u64 0, .int .u64 0] 24))
    have X1 := Box2.of (blk3b w (.cells #[.int .i64 da, .int .i64 db, .int .u64 ds, .int .u64 dt] 24) (.cells #[.slice none 0 0, .int .i64 0] 27) (.cells #[.int .i64 0, .int .i64 0, .int .u64 0, .int .u64 0] 24))
    have X2 := Box4.of (blk3 w (.cells #[.int .i64 da, .int .i64 db, .int .u64 ds, .int .u64 dt] 24) (.cells #[.slice none 0 0, .int .i64 0] 27) (.cells #[.int .i64 0, .int .i64 0, .int .u64 0, .int .u64 0] 24))
    have hy := below3 w (.cells #[.int .i64 da, .int .i64 db, .int .u64 ds, .int .u64 dt] 24) (.cells #[.slice none 0 0, .int .i64 0] 27) (.cells #[.int .i64 0, .int .i64 0, .int .u64 0, .int .u64 0] 24)
    have zy := Nat.le_of_eq (size3 w (.cells #[.int .i64 da, .int .i64 db, .int .u64 ds, .int .u64 dt] 24) (.cells #[.slice none 0 0, .int .i64 0] 27) (.cells #[.int .i64 0, .int .i64 0, .int .u64 0, .int .u64 0] 24)).symm
    have hHc : H ≤ cap := by omega
    have hHl : H ≤ len := by omega
    generalize (((w.alloc (.cells #[.int .i64 da, .int .i64 db, .int .u64 ds, .int .u64 dt] 24)).alloc (.cells #[.slice none 0 0, .int .i64 0] 27)).alloc (.cells #[.int .i64 0, .int .i64 0, .int .u64 0, .int .u64 0] 24)) = y at *
    have x00 := X0.c0
    have x01 := X0.c1
    have x02 := X0.c2
    have x03 := X0.c3
    have x0f0 := X0.f0
    have x0f1 := X0.f1
    have x0f2 := X0.f2
    have x0f3 := X0.f3
    have lB0 : w.heap.size < y.heap.size := by omega
    go_cut [10] (fun s10 wx => ∃ K1 a1 n1 q1, s10 = .pointer (some ⟨K1, 0, none⟩) ∧ w.heap.size + 3 ≤ K1 ∧ K1 < wx.heap.size ∧ (∀ x, a1 = some x → w.heap.size + 3 ≤ x.block) ∧ Box2 wx K1 (.slice a1 n1 q1) (.int .i64 N1) ∧ Box4 wx w.heap.size (.int .i64 sa) (.int .i64 sb) (.int .u64 ss) (.int .u64 st) ∧ Box2 wx (w.heap.size + 1) (.slice none 0 0) (.int .i64 0) ∧ Box4 wx (w.heap.size + 1 + 1) (.int .i64 0) (.int .i64 0) (.int .u64 0) (.int .u64 0) ∧ RowIn .u8 wx a1 n1 q1 L1 ∧ Below w.heap.size w wx)
    case first =>
      go_region_with (first | (go_at_call 40; (with_reducible refine (IH1 y.drew (hy.trans ((Below.refl y.heap.size y).drew.mono (by omega)))).mono ?_); rintro e w3 ⟨a1, n1, q1, rfl, hr3, hb3, hf3⟩; have hz3 : y.heap.size + 0 ≤ w3.heap.size := (by have t : y.heap.size ≤ w3.heap.size := hb3.size; omega); have hbY : Below y.heap.size y w3 := (Below.refl y.heap.size y).drew.trans (hb3.mono (show y.heap.size ≤ y.heap.size by omega)); have hbW : Below w.heap.size w w3 := hy.trans (hbY.mono (by omega)); have Z0 := X0.below hbY (by omega); have Z1 := X1.below hbY (by omega); have Z2 := X2.below hbY (by omega); have z0c0 := Z0.c0; have z0c1 := Z0.c1; have z0c2 := Z0.c2; have z0c3 := Z0.c3; have z0f0 := Z0.f0; have z0f1 := Z0.f1; have z0f2 := Z0.f2; have z0f3 := Z0.f3; have BB := Blk4.of Z0; have lB : w.heap.size < w3.heap.size := (by omega); have lB2 : w.heap.size < w3.heap.size + 1 := (by omega); have fr : ∀ x, a1 = some x → w.heap.size + 3 ≤ x.block := (fun x hx => by have t : y.heap.size ≤ x.block := hf3 x hx; omega); have nB : ∀ x, a1 = some x → x.block ≠ w.heap.size := (fun x hx => by have := fr x hx; omega); have nK := nB) | (go_at_call 40; (with_reducible refine (IH1 (y.alloc (.cells #[.slice none 0 0, .int .i64 0] 27)).drew (hy.trans ((below1 y (.cells #[.slice none 0 0, .int .i64 0] 27)).drew.mono (by omega)))).mono ?_); rintro e w3 ⟨a1, n1, q1, rfl, hr3, hb3, hf3⟩; have hz3 : y.heap.size + 1 ≤ w3.heap.size := (by have t : (y.alloc (.cells #[.slice none 0 0, .int .i64 0] 27)).heap.size ≤ w3.heap.size := hb3.size; rw [size1] at t; omega); have hbY : Below y.heap.size y w3 := (below1 y (.cells #[.slice none 0 0, .int .i64 0] 27)).drew.trans (hb3.mono (show y.heap.size ≤ (y.alloc (.cells #[.slice none 0 0, .int .i64 0] 27)).heap.size by rw [size1]; omega)); have hbW : Below w.heap.size w w3 := hy.trans (hbY.mono (by omega)); have Z0 := X0.below hbY (by omega); have Z1 := X1.below hbY (by omega); have Z2 := X2.below hbY (by omega); have z0c0 := Z0.c0; have z0c1 := Z0.c1; have z0c2 := Z0.c2; have z0c3 := Z0.c3; have z0f0 := Z0.f0; have z0f1 := Z0.f1; have z0f2 := Z0.f2; have z0f3 := Z0.f3; have BB := Blk4.of Z0; have lB : w.heap.size < w3.heap.size := (by omega); have lB2 : w.heap.size < w3.heap.size + 1 := (by omega); have fr : ∀ x, a1 = some x → w.heap.size + 3 ≤ x.block := (fun x hx => by have t : (y.alloc (.cells #[.slice none 0 0, .int .i64 0] 27)).heap.size ≤ x.block := hf3 x hx; rw [size1] at t; omega); have nB : ∀ x, a1 = some x → x.block ≠ w.heap.size := (fun x hx => by have := fr x hx; omega); have ZK := (Box2.of (blk1 y (.cells #[.slice none 0 0, .int .i64 0] 27))).drew.below hb3 (show y.heap.size < (y.alloc (.cells #[.slice none 0 0, .int .i64 0] 27)).heap.size by rw [size1]; omega); have zKc0 := ZK.c0; have zKc1 := ZK.c1; have zKf0 := ZK.f0; have zKf1 := ZK.f1; have BK := Blk2.of ZK; have lK : y.heap.size < w3.heap.size := (by omega); have nK : ∀ x, a1 = some x → x.block ≠ y.heap.size := (fun x hx => by have t : (y.alloc (.cells #[.slice none 0 0, .int .i64 0] 27)).heap.size ≤ x.block := hf3 x hx; rw [size1] at t; omega); have kk : y.heap.size = y.heap.size := rfl) | fail)
      all_goals (try go_wp2_with fail)
      all_goals go_meet
      all_goals refine ⟨_, a1, n1, q1, rfl, ?_, ?_, fr, ?_, ?_, ?_, ?_, ?_, ?_⟩
      all_goals first
        | ((try simp only [World.size_setCell, World.size_alloc]); omega)
        | ((repeat (first | with_reducible exact Z2 | with_reducible exact BB | (with_reducible refine box4P ?_) | (with_reducible refine box4N (by (try simp only [World.size_setCell, World.size_alloc]); done)) | (with_reducible refine box4N (by simp only [World.size_setCell, World.size_alloc])) | (with_reducible refine box4N rfl) | (with_reducible refine box4A ?_) | (with_reducible refine box4S ?_ (by omega)) | (with_reducible refine blk4A ?_) | (with_reducible refine blk4S ?_ (by omega)))); done)
        | ((repeat (first | with_reducible exact Z1 | (with_reducible refine box2P ?_) | (with_reducible refine box2N (by (try simp only [World.size_setCell, World.size_alloc]); done)) | (with_reducible refine box2N (by simp only [World.size_setCell, World.size_alloc])) | (with_reducible refine box2N rfl) | (with_reducible refine box2A ?_) | (with_reducible refine box2S ?_ (by omega)) | (with_reducible refine blk2A ?_) | (with_reducible refine blk2S ?_ (by omega)))); done)
        | ((repeat (first | with_reducible exact BK | (with_reducible refine box2P ?_) | (with_reducible refine box2N (by (try simp only [World.size_setCell, World.size_alloc]); done)) | (with_reducible refine box2N (by simp only [World.size_setCell, World.size_alloc])) | (with_reducible refine box2N rfl) | (with_reducible refine box2A ?_) | (with_reducible refine box2S ?_ (by omega)) | (with_reducible refine blk2A ?_) | (with_reducible refine blk2S ?_ (by omega)))); done)
        | ((repeat (first | with_reducible exact hr3 | (with_reducible refine rowA ?_) | (with_reducible refine rowS ?_ nB) | (with_reducible refine rowS ?_ nK))); done)
        | ((repeat (first | with_reducible exact hbW | (with_reducible refine bS ?_ (by omega)) | (with_reducible refine bA ?_ (by (try simp only [World.size_setCell, World.size_alloc]); omega)))); done)
    case rest =>
      obtain ⟨K1, a1, n1, q1, rfl, gK1, lK1, fr1, PK1, X0', X1', X2', QK1, hb1⟩ := hcut
      clear X0 X1 X2 hy zy x00 x01 x02 x03 x0f0 x0f1 x0f2 x0f3 lB0 IH1
      obtain ⟨y1, ey1⟩ : ∃ x, x = wc := ⟨_, rfl⟩
      subst ey1
      have X0 := X0'
      have X1 := X1'
      have X2 := X2'
      clear X0' X1' X2'
      have hy1 := hb1
      have zy1 : w.heap.size + 3 ≤ y1.heap.size := by omega
      have x00 := X0.c0
      have x01 := X0.c1
      have x02 := X0.c2
      have x03 := X0.c3
      have x0f0 := X0.f0
      have x0f1 := X0.f1
      have x0f2 := X0.f2
      have x0f3 := X0.f3
      have lB0 : w.heap.size < y1.heap.size := by omega
      have row1 := row_lt QK1 hL1
      have mK1B : ∀ x, a1 = some x → x.block ≠ w.heap.size := fun x hx => by have := fr1 x hx; omega
      have mK1K : ∀ x, a1 = some x → x.block ≠ y1.heap.size := fun x hx => by have := row1 x hx; omega
      go_wp2_with fail
      go_cut [11] (fun s11 wx => ∃ K2 a2 n2 q2, s11 = .pointer (some ⟨K2, 0, none⟩) ∧ w.heap.size + 3 ≤ K2 ∧ K2 < wx.heap.size ∧ (∀ x, a2 = some x → w.heap.size + 3 ≤ x.block) ∧ Box2 wx K2 (.slice a2 n2 q2) (.int .i64 N2) ∧ Box4 wx w.heap.size (.int .i64 ta) (.int .i64 tb) (.int .u64 ts) (.int .u64 tt) ∧ Box2 wx (w.heap.size + 1) (.slice none 0 0) (.int .i64 0) ∧ Box4 wx (w.heap.size + 1 + 1) (.int .i64 0) (.int .i64 0) (.int .u64 0) (.int .u64 0) ∧ RowIn .u8 wx a2 n2 q2 L2 ∧ Box2 wx K1 (.slice a1 n1 q1) (.int .i64 N1) ∧ RowIn .u8 wx a1 n1 q1 L1 ∧ Below w.heap.size w wx)
      case first =>
        go_region_with (first | (go_at_call 40; (with_reducible refine (IH2 y1.drew (hy1.trans ((Below.refl y1.heap.size y1).drew.mono (by omega)))).mono ?_); rintro e w3 ⟨a2, n2, q2, rfl, hr3, hb3, hf3⟩; have hz3 : y1.heap.size + 0 ≤ w3.heap.size := (by have t : y1.heap.size ≤ w3.heap.size := hb3.size; omega); have hbY : Below y1.heap.size y1 w3 := (Below.refl y1.heap.size y1).drew.trans (hb3.mono (show y1.heap.size ≤ y1.heap.size by omega)); have hbW : Below w.heap.size w w3 := hy1.trans (hbY.mono (by omega)); have Z0 := X0.below hbY (by omega); have Z1 := X1.below hbY (by omega); have Z2 := X2.below hbY (by omega); have z0c0 := Z0.c0; have z0c1 := Z0.c1; have z0c2 := Z0.c2; have z0c3 := Z0.c3; have z0f0 := Z0.f0; have z0f1 := Z0.f1; have z0f2 := Z0.f2; have z0f3 := Z0.f3; have BB := Blk4.of Z0; have lB : w.heap.size < w3.heap.size := (by omega); have lB2 : w.heap.size < w3.heap.size + 1 := (by omega); have OK1 := PK1.below hbY lK1; have RK1 := QK1.same hbY; have fr : ∀ x, a2 = some x → w.heap.size + 3 ≤ x.block := (fun x hx => by have t : y1.heap.size ≤ x.block := hf3 x hx; omega); have nB : ∀ x, a2 = some x → x.block ≠ w.heap.size := (fun x hx => by have := fr x hx; omega); have nK := nB) | (go_at_call 40; (with_reducible refine (IH2 (y1.alloc (.cells #[.slice none 0 0, .int .i64 0] 27)).drew (hy1.trans ((below1 y1 (.cells #[.slice none 0 0, .int .i64 0] 27)).drew.mono (by omega)))).mono ?_); rintro e w3 ⟨a2, n2, q2, rfl, hr3, hb3, hf3⟩; have hz3 : y1.heap.size + 1 ≤ w3.heap.size := (by have t : (y1.alloc (.cells #[.slice none 0 0, .int .i64 0] 27)).heap.size ≤ w3.heap.size := hb3.size; rw [size1] at t; omega); have hbY : Below y1.heap.size y1 w3 := (below1 y1 (.cells #[.slice none 0 0, .int .i64 0] 27)).drew.trans (hb3.mono (show y1.heap.size ≤ (y1.alloc (.cells #[.slice none 0 0, .int .i64 0] 27)).heap.size by rw [size1]; omega)); have hbW : Below w.heap.size w w3 := hy1.trans (hbY.mono (by omega)); have Z0 := X0.below hbY (by omega); have Z1 := X1.below hbY (by omega); have Z2 := X2.below hbY (by omega); have z0c0 := Z0.c0; have z0c1 := Z0.c1; have z0c2 := Z0.c2; have z0c3 := Z0.c3; have z0f0 := Z0.f0; have z0f1 := Z0.f1; have z0f2 := Z0.f2; have z0f3 := Z0.f3; have BB := Blk4.of Z0; have lB : w.heap.size < w3.heap.size := (by omega); have lB2 : w.heap.size < w3.heap.size + 1 := (by omega); have OK1 := PK1.below hbY lK1; have RK1 := QK1.same hbY; have fr : ∀ x, a2 = some x → w.heap.size + 3 ≤ x.block := (fun x hx => by have t : (y1.alloc (.cells #[.slice none 0 0, .int .i64 0] 27)).heap.size ≤ x.block := hf3 x hx; rw [size1] at t; omega); have nB : ∀ x, a2 = some x → x.block ≠ w.heap.size := (fun x hx => by have := fr x hx; omega); have ZK := (Box2.of (blk1 y1 (.cells #[.slice none 0 0, .int .i64 0] 27))).drew.below hb3 (show y1.heap.size < (y1.alloc (.cells #[.slice none 0 0, .int .i64 0] 27)).heap.size by rw [size1]; omega); have zKc0 := ZK.c0; have zKc1 := ZK.c1; have zKf0 := ZK.f0; have zKf1 := ZK.f1; have BK := Blk2.of ZK; have lK : y1.heap.size < w3.heap.size := (by omega); have nK : ∀ x, a2 = some x → x.block ≠ y1.heap.size := (fun x hx => by have t : (y1.alloc (.cells #[.slice none 0 0, .int .i64 0] 27)).heap.size ≤ x.block := hf3 x hx; rw [size1] at t; omega); have kk : y1.heap.size = y1.heap.size := rfl) | fail)
        all_goals (try go_wp2_with fail)
        all_goals go_meet
        all_goals refine ⟨_, a2, n2, q2, rfl, ?_, ?_, fr, ?_, ?_, ?_, ?_, ?_, ?_, ?_, ?_⟩
        all_goals first
          | ((try simp only [World.size_setCell, World.size_alloc]); omega)
          | ((repeat (first | with_reducible exact Z2 | with_reducible exact BB | (with_reducible refine box4P ?_) | (with_reducible refine box4N (by (try simp only [World.size_setCell, World.size_alloc]); done)) | (with_reducible refine box4N (by simp only [World.size_setCell, World.size_alloc])) | (with_reducible refine box4N rfl) | (with_reducible refine box4A ?_) | (with_reducible refine box4S ?_ (by omega)) | (with_reducible refine blk4A ?_) | (with_reducible refine blk4S ?_ (by omega)))); done)
          | ((repeat (first | with_reducible exact Z1 | with_reducible exact OK1 | (with_reducible refine box2P ?_) | (with_reducible refine box2N (by (try simp only [World.size_setCell, World.size_alloc]); done)) | (with_reducible refine box2N (by simp only [World.size_setCell, World.size_alloc])) | (with_reducible refine box2N rfl) | (with_reducible refine box2A ?_) | (with_reducible refine box2S ?_ (by omega)) | (with_reducible refine blk2A ?_) | (with_reducible refine blk2S ?_ (by omega)))); done)
          | ((repeat (first | with_reducible exact BK | (with_reducible refine box2P ?_) | (with_reducible refine box2N (by (try simp only [World.size_setCell, World.size_alloc]); done)) | (with_reducible refine box2N (by simp only [World.size_setCell, World.size_alloc])) | (with_reducible refine box2N rfl) | (with_reducible refine box2A ?_) | (with_reducible refine box2S ?_ (by omega)) | (with_reducible refine blk2A ?_) | (with_reducible refine blk2S ?_ (by omega)))); done)
          | ((repeat (first | with_reducible exact hr3 | (with_reducible refine rowA ?_) | (with_reducible refine rowS ?_ nB) | (with_reducible refine rowS ?_ nK))); done)
          | ((repeat (first | with_reducible exact RK1 | (with_reducible refine rowA ?_) | (with_reducible refine rowS ?_ mK1B) | (with_reducible refine rowS ?_ mK1K))); done)
          | ((repeat (first | with_reducible exact hbW | (with_reducible refine bS ?_ (by omega)) | (with_reducible refine bA ?_ (by (try simp only [World.size_setCell, World.size_alloc]); omega)))); done)
      case rest =>
        obtain ⟨K2, a2, n2, q2, rfl, gK2, lK2, fr2, PK2, X0', X1', X2', QK2, PK1', QK1', hb2⟩ := hcut
        obtain ⟨y2, ey2⟩ : ∃ x, x = wc := ⟨_, rfl⟩
        subst ey2
        clear X0 X1 X2 hy1 zy1 x00 x01 x02 x03 x0f0 x0f1 x0f2 x0f3 lB0 IH2 PK1 QK1 row1 mK1B mK1K hb1
        obtain ⟨p10, p11, pf10, pf11⟩ := PK1'
        obtain ⟨p20, p21, pf20, pf21⟩ := PK2
        have z2 : w.heap.size + 3 ≤ y2.heap.size := by omega
        go_wp2_with ((with_reducible refine (hJ _ _ _ _ _ _ _ QK1' QK2).mono ?_); rintro e w4 ⟨a4, q4, rfl, hr4, hb4, hf4⟩; have z4 := hb4.size)
        have z4 := hb4.size
        have hB5 := bA (o := (.cells #[.slice a4 L.length q4, .int .i64 N] 27)) (hb2.trans (hb4.mono (by omega))) (show w.heap.size ≤ w4.heap.size by omega)
        have Y0 := box4A (o := (.cells #[.slice a4 L.length q4, .int .i64 N] 27)) (X0'.below hb4 (show w.heap.size < y2.heap.size by omega))
        have Y1 := box2A (o := (.cells #[.slice a4 L.length q4, .int .i64 N] 27)) (X1'.below hb4 (show w.heap.size + 1 < y2.heap.size by omega))
        have Y2 := box4A (o := (.cells #[.slice a4 L.length q4, .int .i64 N] 27)) (X2'.below hb4 (show w.heap.size + 1 + 1 < y2.heap.size by omega))
        have Y3 := Box2.of (blk1 w4 (.cells #[.slice a4 L.length q4, .int .i64 N] 27))
        have hr5 := rowA (o := (.cells #[.slice a4 L.length q4, .int .i64 N] 27)) hr4
        generalize w4.alloc (.cells #[.slice a4 L.length q4, .int .i64 N] 27) = w5 at *
        obtain ⟨G, hG⟩ : ∃ G, w4.heap.size = G := ⟨_, rfl⟩
        simp only [hG] at Y3 ⊢
        clear hG z4 hb4 hr4 X0' X1' X2'
        have m1 : ∀ x, a4 = some x → x.block ≠ w.heap.size + 1 := fun x hx => by have := hf4 x hx; omega
        have m2 : ∀ x, a4 = some x → x.block ≠ w.heap.size + 1 + 1 := fun x hx => by have := hf4 x hx; omega
        have mf : Fresh w a4 := fun x hx => by have := hf4 x hx; omega
        clear hf4 hb2 gK2 lK2 QK1' QK2 p10 p11 pf10 pf11 p20 p21 pf20 pf21 z2 fr1 fr2 gK1 lK1 hJ
        obtain ⟨x00, x01, x02, x03, x0f0, x0f1, x0f2, x0f3⟩ := Y0
        obtain ⟨x10, x11, x1f0, x1f1⟩ := Y1
        obtain ⟨x20, x21, x22, x23, x2f0, x2f1, x2f2, x2f3⟩ := Y2
        obtain ⟨x30, x31, x3f0, x3f1⟩ := Y3
        go_region
        go_wp2
        refine bodyPost_ret_by (v := .tuple #[.agg #[.slice a4 L.length q4, .int .i64 N], .agg #[.int .i64 ta, .int .i64 tb, .int .u64 ts, .int .u64 tt]]) (by rw [results_cc rfl]; go_simp) rfl ?_
        refine ⟨a4, L.length, q4, rfl, ?_, ?_, mf⟩
        · exact (rowS (rowS (rowS (rowS (rowS (rowS hr5 m1) m1) m2) m2) m2) m2).drew
        · exact (Below.set4 (Below.set2 hB5 (by omega) _ _) (by omega) _ _ _ _).drew
end Go.Proofs.Ytmnhepcnbdbhoaa.Co

namespace Go.Proofs.Ytmnhepcnbdbhoaa.Co
open Go.Proofs Go.RowKit Go.Proofs.Ytmnhepcnbdbhoaa.Kit Go.Proofs.Ytmnhepcnbdbhoaa.M01 Go.Proofs.Ytmnhepcnbdbhoaa.M02 Go.Proofs.Ytmnhepcnbdbhoaa.M06 Go.Proofs.Ytmnhepcnbdbhoaa.M07 Go.Proofs.Ytmnhepcnbdbhoaa.M08 Go.Proofs.Ytmnhepcnbdbhoaa.M09 Go.Proofs.Ytmnhepcnbdbhoaa.Bt Go.Proofs.Ytmnhepcnbdbhoaa.Un Go.Proofs.Ytmnhepcnbdbhoaa.Ri Go.Proofs.Ytmnhepcnbdbhoaa.Du
set_option linter.unusedVariables false
attribute [local irreducible] wpStill

set_option maxHeartbeats 4000000 in
theorem enc_any (a : Option Addr) (len cap : Nat) (l : List Int) (w : World) (hr : RowIn .u32 w a len cap l) :
    Calls Try.prog 22 #[.slice a len cap] w fun e w' => ∃ a' cap', e = .returned (.tuple #[bv a' (enL l).length cap' (enN l), .int .i64 (enE l)]) ∧ RowIn .u8 w' a' (enL l).length cap' (enL l) ∧ Below w.heap.size w w' ∧ Fresh w a' := by
  have hlen := hr.hl
  have hl := hr.rd.len
  rw [hlen] at hl
  unfold bv
  by_cases hm : 4000 < len
  · obtain ⟨e1, e2, e3, -⟩ := c_en_many (l := l) (by omega)
    rw [e1, e2, e3]
    have f1 : (4000 < (len : Int)) = True := eq_true (by omega)
    clear e1 e2 e3
    go_enter Try.func22, Try.ntmps22
    go_wp2
    refine bodyPost_ret_by (v := .tuple #[.agg #[.slice none 0 0, .int .i64 0], .int .i64 4]) (by rw [results_cell_tmp rfl]; go_simp) rfl ?_
    exact ⟨none, 0, rfl, RowIn.nil, below1 w _, Fresh.none⟩
  · obtain ⟨e1, e2, e3, -⟩ := c_en (l := l) (by omega)
    rw [e1, e2, e3]
    have f1 : (4000 < (len : Int)) = False := eq_false (by omega)
    have hSt := fun w' => start_any w'
    have hC := fun w' hb => code_any len a len cap l stD w' (Nat.le_refl _) (hr.same (w' := w') hb) isD_st' okD_st (by omega)
    obtain ⟨L, hL⟩ : ∃ x, cL stD l = x := ⟨_, rfl⟩
    obtain ⟨N, hN⟩ : ∃ x, cN stD l = x := ⟨_, rfl⟩
    obtain ⟨T, hT⟩ : ∃ x, stI stD l = x := ⟨_, rfl⟩
    simp only [hL, hN, hT] at hC ⊢
    clear e1 e2 e3 hL hN hT
    obtain ⟨ta, tb, ts, tt⟩ := T
    unfold bv at hC
    unfold dv stD at hC hSt
    simp only at hC hSt
    go_enter Try.func22, Try.ntmps22
    go_wp2_with (first | ((with_reducible refine (hSt _).mono ?_); rintro e w1 ⟨rfl, hb1⟩; rw [size1] at hb1; have z1 := hb1.size; rw [size1] at z1; have hB1 := (below1 w _).trans (hb1.mono (by omega)); have X1 := (Box2.of (blk1 w _)).below hb1 (by omega)) | ((with_reducible refine (hC _ hB1).mono ?_); rintro e w2 ⟨a2, n2, q2, rfl, hr2, hb2, hf2⟩; have z2 := hb2.size; have hB2 := hB1.trans (hb2.mono (by omega)); have X2 := X1.below hb2 (by omega); have c0 := X2.c0; have c1 := X2.c1; have f0 := X2.f0; have f1 := X2.f1; have lX : w.heap.size < w2.heap.size := (by omega)))
    obtain rfl := hr2.hl
    refine bodyPost_ret_by (v := .tuple #[.agg #[.slice a2 L.length q2, .int .i64 N], .int .i64 0]) (by rw [results_cell_tmp rfl]; go_simp) rfl ?_
    have n1 : ∀ x, a2 = some x → x.block ≠ w.heap.size := fun x hx => by have := hf2 x hx; omega
    exact ⟨a2, q2, rfl, rowA (rowA (rowS (rowS hr2 n1) n1)), bA (bA (Below.set2 hB2 (by omega) _ _) (by simp only [World.size_setCell]; omega)) (by simp only [World.size_setCell, World.size_alloc]; omega), fun x hx => by have := hf2 x hx; omega⟩

set_option maxHeartbeats 4000000 in
theorem aft_any (a : Option Addr) (len cap : Nat) (l : List Int) (w : World) (hr : RowIn .u32 w a len cap l) :
    Calls Try.prog 23 #[.slice a len cap] w fun e w' => e = .returned (.tuple #[dv (afD l), .int .i64 (enE l)]) ∧ Below w.heap.size w w' := by
  obtain rfl := hr.hl
  have hl := hr.rd.len
  by_cases hm : 4000 < l.length
  · obtain ⟨e1, -, -, e4⟩ := c_en_many (l := l) (by omega)
    rw [e1, e4]
    have f1 : (4000 < (l.length : Int)) = True := eq_true (by omega)
    clear e1 e4
    unfold dv zD
    simp only
    go_enter Try.func23, Try.ntmps23
    go_wp2
    refine bodyPost_ret_by (v := .tuple #[.agg #[.int .i64 0, .int .i64 0, .int .u64 0, .int .u64 0], .int .i64 4]) (by rw [results_cell_tmp rfl]; go_simp) rfl ?_
    exact ⟨rfl, below1 w _⟩
  · obtain ⟨e1, -, -, e4⟩ := c_en (l := l) (by omega)
    rw [e1, e4]
    have f1 : (4000 < (l.length : Int)) = False := eq_false (by omega)
    have hSt := fun w' => start_any w'
    have hU := hid (okV_row hr.rd.2.2)
    have HI := hid (And.intro isD_st' okD_st)
    have hst : stI stD (l.take 0) = ⟨10, 10, 16384, 16384⟩ := by rw [List.take_zero, stI]; rfl
    rw [show stI stD l = stI stD (l.take l.length) by rw [List.take_length]]
    unfold dv at hSt ⊢
    unfold stD at hSt
    simp only at hSt
    clear e1 e4
    go_enter Try.func23, Try.ntmps23
    go_wp2_with ((with_reducible refine (hSt _).mono ?_); rintro e w1 ⟨rfl, hb1⟩; rw [size1] at hb1; have z1 := hb1.size; rw [size1] at z1; have hB1 := (below1 w _).trans (hb1.mono (by omega)); have X1 := (Box4.of (blk1 w _)).below hb1 (by omega))
    go_loopw [14] (fun t wr => ∃ k : Nat, k ≤ l.length ∧ t = .int .i64 k ∧ Below w.heap.size w wr ∧ w1.heap.size < wr.heap.size ∧ ∃ S, S = stI stD (l.take k) ∧ Box4 wr w1.heap.size (.int .i64 S.a) (.int .i64 S.b) (.int .u64 S.s) (.int .u64 S.t) ∧ Box4 wr w.heap.size (.int .i64 0) (.int .i64 0) (.int .u64 0) (.int .u64 0)) (fun t _ => l.length - (intOf t).toNat)
    case atStart =>
      refine ⟨0, by omega, by go_num, bA hB1 (by omega), by rw [size1]; omega, _, hst.symm, Box4.of (blk1 w1 _), box4A X1⟩
    case round =>
      obtain ⟨k, hk, rfl, hb, hz, S, eS, X0, X2⟩ := hrel
      clear hB1 X1 hb1 hst
      have hUk := okV_take hU.out k
      obtain ⟨sok, sd⟩ := stI_ok HI.out.1 HI.out.2 hUk
      rw [← eS] at sok sd
      by_cases hlt : k < l.length
      · obtain ⟨b, off, rfl, cc⟩ := hr.rd.cells (by intro h; rw [h] at hlt; simp at hlt)
        have d1 := cc k hlt
        have hv := bd_u32 (getD_wf9 hr.rd.2.2 hlt)
        have htk := take_snoc hlt
        obtain ⟨v, ev⟩ : ∃ m, l.getD k 0 = m := ⟨_, rfl⟩
        rw [ev] at d1 hv htk
        have d1 : wr.cell? ⟨b, off + k, none⟩ = some (.int .u32 v) := cell_below9 d1 hb (World.block_lt_of_cell? w _ d1)
        have hvU : isU v := hv
        have hLn := fun w' => learn_any S v w' sd hvU
        rw [show chD S = 0 by unfold chD; rw [if_pos sok], show lnD S v = learnD S v by unfold lnD; rw [if_pos sok]] at hLn
        have eT : learnD S v = stI stD (l.take (k + 1)) := by rw [htk, stI_snoc, ← eS]
        obtain ⟨T, hT⟩ : ∃ x, learnD S v = x := ⟨_, rfl⟩
        rw [hT] at hLn eT
        have HE := hid eT
        clear eT hT eS ev htk cc sok sd hUk
        obtain ⟨sa, sb, ss, st⟩ := S
        obtain ⟨ta, tb, ts, tt⟩ := T
        unfold dv at hLn
        simp only at hLn X0
        obtain ⟨x00, x01, x02, x03, f00, f01, f02, f03⟩ := X0
        go_wp2_with ((with_reducible refine (hLn _).mono ?_); rintro e w2 ⟨rfl, hb2⟩; have z2 := hb2.size; have Y0 := (Box4.mk x00 x01 x02 x03 f00 f01 f02 f03).below hb2 hz; have Y2 := X2.below hb2 (show w.heap.size < wr.heap.size by omega); clear x00 x01 x02 x03 f00 f01 f02 f03; obtain ⟨x00, x01, x02, x03, f00, f01, f02, f03⟩ := Y0)
        go_roundw
        case rel =>
          exact ⟨k + 1, by omega, by go_num, Below.set4 (hb.trans (hb2.mono (by omega))) (by omega) _ _ _ _, by simp only [World.size_setCell]; omega, ⟨ta, tb, ts, tt⟩, HE.out, Box4.putAll (Box4.mk x00 x01 x02 x03 f00 f01 f02 f03) _ _ _ _, ((((Y2.set (by omega)).set (by omega)).set (by omega)).set (by omega))⟩
        case measure => simp [intOf]; omega
      · obtain rfl : k = l.length := by omega
        have HS := hid eS
        clear eS sok sd hUk
        obtain ⟨sa, sb, ss, st⟩ := S
        simp only at X0
        obtain ⟨x00, x01, x02, x03, f00, f01, f02, f03⟩ := X0
        obtain ⟨x20, x21, x22, x23, f20, f21, f22, f23⟩ := X2
        go_wp2
        refine bodyPost_ret_by (v := .tuple #[.agg #[.int .i64 sa, .int .i64 sb, .int .u64 ss, .int .u64 st], .int .i64 0]) (by rw [results_cell_tmp rfl]; go_simp) rfl ?_
        exact ⟨by rw [← HS.out], Below.set4 hb (by omega) _ _ _ _⟩
end Go.Proofs.Ytmnhepcnbdbhoaa.Co

namespace Go.Proofs.Ytmnhepcnbdbhoaa.Co
open Go.Proofs Go.RowKit Go.Proofs.Ytmnhepcnbdbhoaa.Kit Go.Proofs.Ytmnhepcnbdbhoaa.M01 Go.Proofs.Ytmnhepcnbdbhoaa.M02 Go.Proofs.Ytmnhepcnbdbhoaa.M06 Go.Proofs.Ytmnhepcnbdbhoaa.M07 Go.Proofs.Ytmnhepcnbdbhoaa.M08 Go.Proofs.Ytmnhepcnbdbhoaa.M09 Go.Proofs.Ytmnhepcnbdbhoaa.Bt Go.Proofs.Ytmnhepcnbdbhoaa.Un Go.Proofs.Ytmnhepcnbdbhoaa.Ri
set_option linter.unusedVariables false
attribute [local irreducible] wpStill

theorem info9_u32 : (Try.prog.info? 40).map (fun i => (i.zero, i.size, i.bytes)) = some (some (.int .u32 0), 1, 4) := by kernel_rfl
theorem fill9 {L : List Int} {k M : Nat} (v : Int) (hk : L.length = k) (hM : k < M) : (L ++ List.replicate (M - k) (0 : Int)).set k v = (L ++ [v]) ++ List.replicate (M - (k + 1)) 0 := by
  rw [List.set_append_right _ _ (by omega), List.append_assoc]
  congr 1
  rw [show M - k = (M - (k + 1)) + 1 by omega, List.replicate_succ, show k - L.length = 0 by omega]
  rfl
theorem fill9_len {L : List Int} {k M : Nat} (hk : L.length = k) (hM : k ≤ M) : (L ++ List.replicate (M - k) (0 : Int)).length = M := by
  rw [List.length_append, List.length_replicate]; omega

end Go.Proofs.Ytmnhepcnbdbhoaa.Co

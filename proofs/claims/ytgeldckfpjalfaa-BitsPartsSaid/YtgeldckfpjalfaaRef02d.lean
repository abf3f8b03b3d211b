/- The reference of layer 2: bits between. -/
import Derived.Test.YtgeldckfpjalfaaRef02c
import Derived.Deep.RegionWith
namespace Go.Proofs.Ytgeldckfpjalfaa.R02
open Go.RowKit Go.Proofs.Ytgeldckfpjalfaa.Kit Go.Proofs.Ytgeldckfpjalfaa.M01 Go.Proofs.Ytgeldckfpjalfaa.M02 Go.Proofs.Ytgeldckfpjalfaa.Bt
set_option linter.unusedVariables false

theorem blk3x (w : World) (A B C : Obj) : (((w.alloc A).alloc B).alloc C).heap[w.heap.size]? = some A ∧ (((w.alloc A).alloc B).alloc C).heap[w.heap.size + 1]? = some B ∧ (((w.alloc A).alloc B).alloc C).heap[w.heap.size + 2]? = some C ∧ (((w.alloc A).alloc B).alloc C).heap.size = w.heap.size + 3 ∧ Below w.heap.size w (((w.alloc A).alloc B).alloc C) :=
  ⟨blk3a w A B C, blk3b w A B C, blk3 w A B C, by simp, below3 w A B C⟩

theorem OwnI_nil_bl {w : World} {base : Nat} {e : TypeId} {V : Int} : OwnI .u8 w base e (.slice none 0 0) (bl 0 V) := OwnI.nil

set_option maxHeartbeats 4000000 in
theorem between_any (a : Option Addr) (len cap : Nat) (xs : List Int) (n f t : Int) (w : World) (hr : RowIn .u8 w a len cap xs) (hok : okB xs n = true) (hf : 0 ≤ f) (hft : f ≤ t) (htn : t ≤ n) :
    Calls Try.prog 32 #[bv a len cap n, .int .i64 f, .int .i64 t] w fun e w' => ∃ a' len' cap', e = .returned (bv a' len' cap' (t - f)) ∧ OwnI .u8 w' w.heap.size 5 (.slice a' len' cap') (bl (t - f) (val xs / p2 f % p2 (t - f))) ∧ Below w.heap.size w w' := by
  obtain ⟨hn0, hn1, hxl, hval⟩ := okB_iff.1 hok
  have hll := hr.hl
  obtain ⟨k0, k1, k2, hsz, hbe⟩ := blk3x w (.cells #[.slice a len cap, .int .i64 n] 24) (.cells #[.slice none 0 0, .int .i64 0] 24) (.cells #[.slice none 0 0, .int .i64 0] 24)
  obtain ⟨B, eB⟩ : ∃ B, w.heap.size = B := ⟨_, rfl⟩
  have hAt := fun i w' (hb : Below w.heap.size w w') h1 h2 => at_any a len cap xs n i w' (hr.same hb) h1 h2 (by omega)
  unfold bv at hAt ⊢
  rw [eB] at k0 k1 k2 hsz hbe hAt ⊢
  go_enter Try.func32, Try.ntmps32
  go_wp2
  simp only [Nat.add_assoc, Nat.reduceAdd]
  generalize ((w.alloc (.cells #[.slice a len cap, .int .i64 n] 24)).alloc (.cells #[.slice none 0 0, .int .i64 0] 24)).alloc (.cells #[.slice none 0 0, .int .i64 0] 24) = w1 at *
  go_loopw [8] (fun s wr => ∃ i : Int, f ≤ i ∧ i ≤ t ∧ s = .int .i64 i ∧ ∃ a' len' cap', Box2 wr B (.slice a len cap) (.int .i64 n) ∧ Box2 wr (B + 1) (.slice none 0 0) (.int .i64 0) ∧ Box2 wr (B + 2) (.slice a' len' cap') (.int .i64 (i - f)) ∧
    OwnI .u8 wr (B + 3) 5 (.slice a' len' cap') (bl (i - f) (val xs / p2 f % p2 (i - f))) ∧ Below B w wr ∧ B + 3 ≤ wr.heap.size) (fun s _ => (t - intOf s).toNat)
  case atStart => exact ⟨f, Int.le_refl _, hft, rfl, none, 0, 0, Box2.of k0, Box2.of k1, by rw [Int.sub_self]; exact Box2.of k2, by rw [Int.sub_self]; exact OwnI_nil_bl, hbe, by omega⟩
  case round =>
    obtain ⟨i, hfi, hit, rfl, a', len', cap', ⟨c0, c1, c2, c3⟩, B1, B2, howN, hbr, hsr⟩ := hrel
    clear k0 k1 k2 hbe
    by_cases hlt : i < t
    · obtain ⟨z, hz⟩ : ∃ z, val xs / p2 i % 2 = z := ⟨_, rfl⟩
      have hcall := fun w' hb => hAt i w' hb (by omega) (by omega)
      simp only [hz] at hcall
      obtain ⟨V, hV⟩ : ∃ V, val xs / p2 f % p2 (i - f) = V := ⟨_, rfl⟩
      have hp := p2_pos (i - f)
      have hV0 : 0 ≤ V := by rw [← hV]; exact Int.emod_nonneg _ (by omega)
      have hV1 : V < p2 (i - f) := by rw [← hV]; exact Int.emod_lt_of_pos _ (by omega)
      have hnew := mod_p2_succ (val xs / p2 f) (show 0 ≤ i - f by omega)
      have hdd : val xs / p2 f / p2 (i - f) = val xs / p2 i := by
        rw [Int.ediv_ediv_of_nonneg (by have := p2_pos f; omega), ← p2_add hf (by omega)]; congr 2; omega
      rw [hdd, hz, hV, show i - f + 1 = i + 1 - f by omega] at hnew
      rw [hV] at howN
      have hAdd := fun w' (ho : OwnI .u8 w' (B + 3) 5 (.slice a' len' cap') (bl (i - f) V)) hbs => add_any a' len' cap' (B + 3) (i - f) V z w' ho hbs (by omega) (by omega) hV0 hV1 (by omega)
      unfold bv at hAdd
      rw [← hnew, show i - f + 1 = i + 1 - f by omega] at hAdd
      obtain ⟨d0, d1, d2, d3⟩ := B2
      clear hnew hV hz hdd hp hok hxl hval hAt
      go_wp2
      go_region_with
        (first | (go_at_call 28; refine (hcall _ hbr.drew).mono ?_; rintro e w2 ⟨rfl, hb2⟩; have hs2 := Nat.le_trans hsr (show wr.heap.size ≤ w2.heap.size from hb2.size); have D2 := Box2.below (w := wr.drew) ⟨d0, d1, d2, d3⟩ hb2 (show B + 2 < wr.heap.size by omega); have HO := (howN.below (Below.refl _ _).drew).below hb2;  have x0 : w2.cell? ⟨B + 2, 0, none⟩ = some (.slice a' len' cap') := (by rw [hb2.cell (show B + 2 < wr.heap.size by omega)]; exact d0); have x1 : w2.cell? ⟨B + 2, 1, none⟩ = some (.int .i64 (i - f)) := (by rw [hb2.cell (show B + 2 < wr.heap.size by omega)]; exact d1);  have x2 : w2.cell? ⟨B, 0, none⟩ = some (.slice a len cap) := (by rw [hb2.cell (show B < wr.heap.size by omega)]; exact c0); have x3 : w2.cell? ⟨B, 1, none⟩ = some (.int .i64 n) := (by rw [hb2.cell (show B < wr.heap.size by omega)]; exact c1))  | (go_at_call 27; refine (hAdd _ HO hs2).mono ?_; rintro e w3 ⟨a2, len2, cap2, rfl, HO2, hb3, _⟩; obtain ⟨y0, y1, y2, y3⟩ := D2.below hb3 (by omega)))
      all_goals
        go_wp2
        go_roundw
        case rel =>
          have hs3 := Nat.le_trans hs2 hb3.size
          have X0 := (Box2.below (w := wr.drew) ⟨c0, c1, c2, c3⟩ hb2 (show B < wr.heap.size by omega)).below hb3 (by omega)
          have X1 := (Box2.below (w := wr.drew) ⟨B1.c0, B1.c1, B1.f0, B1.f1⟩ hb2 (show B + 1 < wr.heap.size by omega)).below hb3 (by omega)
          exact ⟨i + 1, by omega, by omega, by go_num, a2, len2, cap2, (X0.set (by omega)).set (by omega), (X1.set (by omega)).set (by omega), Box2.put ⟨y0, y1, y2, y3⟩ _ _,
            (HO2.other (HO2.far (by omega))).other (HO2.far (by omega)), (((hbr.drew.trans (hb2.mono (show B ≤ wr.heap.size by omega))).trans (hb3.mono (by omega))).setCell (by dsimp only; omega) _).setCell (by dsimp only; omega) _, by simp only [World.size_setCell]; omega⟩
        case measure => simp [intOf]; omega
    · obtain rfl : i = t := by omega
      obtain ⟨d0, d1, d2, d3⟩ := B2
      obtain ⟨r0, r1, r2, r3⟩ := B1
      clear hAt
      go_wp2
      refine bodyPost_ret_by (v := .agg #[.slice a' len' cap', .int .i64 (i - f)]) (by rw [results_cell1 rfl]; go_simp) rfl ?_
      exact ⟨_, _, _, rfl, ((howN.other (howN.far (by omega))).other (howN.far (by omega))).mono (by omega), (hbr.setCell (by dsimp only; omega) _).setCell (by dsimp only; omega) _⟩
end Go.Proofs.Ytgeldckfpjalfaa.R02

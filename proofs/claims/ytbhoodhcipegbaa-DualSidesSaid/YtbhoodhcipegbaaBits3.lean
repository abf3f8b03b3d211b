/- What puts bits behind others. -/
import Derived.Test.YtbhoodhcipegbaaBits2
namespace Go.Proofs.Ytbhoodhcipegbaa.Bt
attribute [local irreducible] wpStill
open Go.RowKit Go.Proofs.Ytbhoodhcipegbaa.Kit Go.Proofs.Ytbhoodhcipegbaa.M01 Go.Proofs.Ytbhoodhcipegbaa.M02
set_option linter.unusedVariables false

/-- The bytes that are made lie apart from what was there. -/
def Fresh (w : World) (a : Option Addr) : Prop := ∀ x, a = some x → w.heap.size ≤ x.block
theorem Fresh.none {w : World} : Fresh w Option.none := fun _ h => by cases h
theorem Fresh.lift {w w' : World} {a : Option Addr} (h : Fresh w' a) (hb : w.heap.size ≤ w'.heap.size) : Fresh w a := fun x hx => Nat.le_trans hb (h x hx)
theorem Fresh.ne {w : World} {a : Option Addr} (h : Fresh w a) {g : Nat} (hg : g < w.heap.size) : ∀ x, a = some x → x.block ≠ g := fun x hx => by have := h x hx; omega

theorem info_u8 : (Try.prog.info? 5).map (fun i => (i.zero, i.size, i.bytes)) = some (some (.int .u8 0), 1, 1) := by kernel_rfl
theorem size_u8 : (Try.prog.info? 5).map (·.size) = some 1 := by kernel_rfl
theorem wf_u8 {x : Int} (h0 : 0 ≤ x) (h1 : x < 256) : (Lit.int .u8 x).wf = true := by
  simp [Lit.wf, IntKind.min, IntKind.max, IntKind.signed, IntKind.bits]; omega
theorem wf_byte {l : List Int} (h : isByte l) : ∀ x ∈ l, (Lit.int .u8 x).wf = true := fun x hx => wf_u8 (h x hx).1 (h x hx).2

theorem or_sum (y x s : Int) (hy0 : 0 ≤ y) (hy : y < p2 s) (hx0 : 0 ≤ x) (hx : x < 256) (hs0 : 0 ≤ s) (hs : s < 8) :
    bits .or .u8 y (x * p2 s % 256) = y + x * p2 s % 256 := by
  refine or_low _ _ s.toNat (by omega) hy0 hy (by omega) (by omega) ?_
  rcases (show s = 0 ∨ s = 1 ∨ s = 2 ∨ s = 3 ∨ s = 4 ∨ s = 5 ∨ s = 6 ∨ s = 7 by omega) with rfl | rfl | rfl | rfl | rfl | rfl | rfl | rfl <;> simp [p2] <;> omega

set_option maxHeartbeats 4000000 in
theorem behind_any (a : Option Addr) (len cap : Nat) (xs : List Int) (n m : Int) (k : Nat) (fcap : Array Value) (X : Int) (w : World) (hr : RowIn .u8 w a len cap xs) (hok : okB xs n = true)
    (hm : 0 ≤ m) (hX0 : 0 ≤ X) (hX : X < p2 m) (hnm : n + m ≤ 330000) (hf : Gives w k fcap X (sz m)) :
    Calls Try.prog 33 #[bv a len cap n, .int .i64 m, .func (.func k) #[] fcap] w fun e w' => ∃ a' cap', e = .returned (bv a' (sz (n + m)) cap' (n + m)) ∧ RowIn .u8 w' a' (sz (n + m)) cap' (bl (n + m) (val xs + X * p2 n)) ∧ Below w.heap.size w w' ∧ Fresh w a' := by
  obtain rfl := hr.hl
  obtain ⟨hn0, hn1, hlen, hval⟩ := okB_iff.1 hok
  have hs := sz_nat (show 0 ≤ n + m by omega)
  have hsm := sz_nat hm
  have hb := byte_of hr.rd
  obtain ⟨L, hL⟩ : ∃ L, sz (n + m) = L := ⟨_, rfl⟩
  obtain ⟨M, hM⟩ : ∃ M, sz m = M := ⟨_, rfl⟩
  have hLb : n + m ≤ 8 * (L : Int) ∧ 8 * (L : Int) ≤ n + m + 7 := by omega
  have hMb : m ≤ 8 * (M : Int) ∧ 8 * (M : Int) ≤ m + 7 := by omega
  have hlenL : xs.length ≤ L := by omega
  clear hs hsm
  rw [hM] at hf
  rw [hL]
  obtain ⟨i0, hi, hz0, hz1, hz2⟩ := info_parts info_u8
  unfold bv
  have hrr := hr.rd
  go_enter Try.func33, Try.ntmps33
  obtain ⟨d, hd⟩ : ∃ d : Nat, n / 8 = d := ⟨(n / 8).toNat, by omega⟩
  go_wp2_with (first  | (go_at_call 51; refine (bytesFor_any _ _ (by omega) (by omega)).mono ?_; rintro e w' ⟨rfl, rfl⟩)  | (at_make; refine makeI rfl _ _ 22 rfl (w.heap.size + 2) 5 i0 1 .u8 Try.underlying22 hi hz0 hz1 hz2 _ L rfl rfl rfl (by omega) (by omega) (by simp) ?_; intro w1 hown hgr hbw hsz; simp only [World.size_alloc, Nat.add_assoc, Nat.reduceAdd] at hown hgr hbw hsz ⊢;  have hB : Below w.heap.size w w1 := (((Below.refl _ _).alloc (Nat.le_refl _) _).alloc (by simp) _).trans (hbw.mono (by omega)); have hB1 := hrr.same hB;  have c0 : w1.cell? ⟨w.heap.size, 0, none⟩ = some (.slice a xs.length cap) := (by rw [hbw.cell (by simp <;> omega), World.cell?_alloc_past _ _ _ (by simp), World.cell?_alloc_at _ _ _ _ rfl]; rfl);  have c1 : w1.cell? ⟨w.heap.size, 1, none⟩ = some (.int .i64 n) := (by rw [hbw.cell (by simp <;> omega), World.cell?_alloc_past _ _ _ (by simp), World.cell?_alloc_at _ _ _ _ rfl]; rfl))  | ((with_reducible refine copyI rfl _ _ 22 rfl 5 Try.underlying22 size_u8 .u8 (w.heap.size + 2) (w.heap.size + 2) L L _ hown a xs.length cap xs hB1 rfl hlenL rfl rfl ?_); intro w2 hown2 hbw2;  have d0 : w2.cell? ⟨w.heap.size, 0, none⟩ = some (.slice a xs.length cap) := (by rw [(hbw.trans hbw2).cell (by simp <;> omega), World.cell?_alloc_past _ _ _ (by simp), World.cell?_alloc_at _ _ _ _ rfl]; rfl);  have d1 : w2.cell? ⟨w.heap.size, 1, none⟩ = some (.int .i64 n) := (by rw [(hbw.trans hbw2).cell (by simp <;> omega), World.cell?_alloc_past _ _ _ (by simp), World.cell?_alloc_at _ _ _ _ rfl]; rfl); have d2 : w2.heap[w.heap.size + 1]? = some (.cells #[.slice none 0 0, .int .i64 0] 24) := (by rw [(hbw.trans hbw2).block _ (by omega)]; exact blk2 _ _ _); clear c0 c1 hgr hown hB1; have c0 := d0; have c1 := d1; clear d0 d1))
  have hV0 := val_nonneg hb
  go_loopw [28] (fun t wr => ∃ i : Nat, i ≤ M ∧ t = .int .i64 i ∧ OwnI .u8 wr (w.heap.size + 2) 5 (.slice (some ⟨w.heap.size + 2, 0, none⟩) L L) (digs (val xs + X % pw i * p2 n) L) ∧ Below (w.heap.size + 2) w2 wr) (fun t _ => M - (intOf t).toNat)
  case atStart =>
    refine ⟨0, Nat.zero_le _, rfl, ?_, Below.refl _ _⟩
    have e : digs (val xs + X % pw 0 * p2 n) L = xs ++ List.drop xs.length (List.replicate L 0) := by
      rw [pw_zero, Int.emod_one, Int.zero_mul, Int.add_zero, show L = xs.length + (L - xs.length) by omega, digs_more hb]
      simp
    rw [e]; exact hown2
  case round =>
    obtain ⟨i, him, rfl, hown3, hbw3⟩ := hrel
    have hBr : Below w.heap.size w wr := hB.trans ((hbw2.trans hbw3).mono (by omega))
    have c0' : wr.cell? ⟨w.heap.size, 0, none⟩ = some (.slice a xs.length cap) := by rw [hbw3.cell (by simp)]; exact c0
    have c1' : wr.cell? ⟨w.heap.size, 1, none⟩ = some (.int .i64 n) := by rw [hbw3.cell (by simp)]; exact c1
    obtain ⟨r0, r1, r2, r3⟩ := (Box2.of d2).below hbw3 (by omega)
    clear c0 c1 d2 hown2 hbw hB
    by_cases hlt : i < M
    · obtain ⟨x, hx⟩ : ∃ x, X / pw i % 256 = x := ⟨_, rfl⟩
      obtain ⟨y, hy, hy0, hyp, hx0, hx1, hjL, hover, hsum, hnew⟩ := behind_round (val xs) n m X x L i d hn0 (by omega) hV0 hval hm hX0 hX hLb.1 (by omega) hx
      have hcell := hown3.cell (d + i) (by rw [digs_length]; exact hjL)
      rw [hy] at hcell
      have hfree := hown3.free (d + i)
      have hcall := hf.2 wr i hBr hlt
      have hent := hf.1
      rw [hx] at hcall
      have hs0 : 0 ≤ n % 8 := by omega
      have hs8 : n % 8 < 8 := by omega
      have hor := or_sum y x (n % 8) hy0 hyp hx0 hx1 hs0 hs8
      have hlo : 0 ≤ x * p2 (n % 8) % 256 := by omega
      unfold p2 at hor hover hlo
      have hdi : (d : Int) + i < 100000 := by omega
      have hq0 : (0 ≤ (d : Int) + i) = True := eq_true (by omega)
      have hq1 : ((d : Int) + i < (L : Int)) = True := eq_true (by omega)
      have hq2 : ((d : Int) + i).toNat = d + i := by omega
      have hdL : 0 ≤ x / 2 ^ (8 - n % 8).toNat := Int.ediv_nonneg hx0 (by have := two_pos (8 - n % 8).toNat; omega)
      have H := fun q => hid ((hown3.below (below_drewN (Below.refl _ _) q)).set (d + i) (y + x * p2 (n % 8) % 256))
      have HN := hid hnew
      by_cases hov : x / 2 ^ (8 - n % 8).toNat = 0
      · clear hnew hown3 hy hover hX hnm hval hok hlen hr hrr hf
        go_wp2_with (go_at_fn k; refine hcall.mono ?_; rintro e w' ⟨rfl, q, rfl⟩)
        clear hcall hent
        refine region_tail 9 (by kernel_rfl) (by kernel_rfl) (fun K hK => ?_)
        simp only [List.take_succ_cons, List.take_zero, List.drop_succ_cons, List.drop_zero] at hK ⊢
        iterate 9 still_step
        refine wpStill_nil ?_
        refine hK _ ?_
        clear hK K
        go_wp2
        go_roundw
        case rel =>
          have h2 := HN.out
          rw [if_pos (show x / p2 (8 - n % 8) = 0 from hov)] at h2
          exact ⟨i + 1, by omega, by go_num, by rw [h2]; exact (H (q + 1)).out.1, hbw3.trans ((below_drewN (Below.refl _ _) _).trans (H (q + 1)).out.2)⟩
        case measure => simp [intOf]; omega
      · have hj1 := hover hov
        have hr0 : (0 ≤ (d : Int) + i + 1) = True := eq_true (by omega)
        have hr1 : ((d : Int) + i + 1 < (L : Int)) = True := eq_true (by omega)
        have hr2 : ((d : Int) + i + 1).toNat = d + i + 1 := by omega
        have hdL : 0 < x / 2 ^ (8 - n % 8).toNat := by omega
        have H2 := fun q => hid (((hown3.below (below_drewN (Below.refl _ _) q)).set (d + i) (y + x * p2 (n % 8) % 256)).1.set (d + i + 1) (x / 2 ^ (8 - n % 8).toNat))
        have hcell2 := hown3.cell (d + i + 1) (by rw [digs_length]; exact hj1)
        have hfree2 := hown3.free (d + i + 1)
        obtain ⟨z, hz⟩ : ∃ z, (digs (val xs + X % pw i * p2 n) L).getD (d + i + 1) 0 = z := ⟨_, rfl⟩
        rw [hz] at hcell2
        clear hnew hown3 hy hover hX hnm hval hok hlen hr hrr hf hz
        go_wp2_with (go_at_fn k; refine hcall.mono ?_; rintro e w' ⟨rfl, q, rfl⟩)
        clear hcall hent
        refine region_tail 9 (by kernel_rfl) (by kernel_rfl) (fun K hK => ?_)
        simp only [List.take_succ_cons, List.take_zero, List.drop_succ_cons, List.drop_zero] at hK ⊢
        iterate 9 still_step
        refine wpStill_nil ?_
        refine hK _ ?_
        clear hK K
        go_wp2
        go_roundw
        case rel =>
          have h2 := HN.out
          rw [if_neg (show ¬ x / p2 (8 - n % 8) = 0 from hov)] at h2
          exact ⟨i + 1, by omega, by go_num, by rw [h2]; exact (H2 (q + 1)).out.1, hbw3.trans ((below_drewN (Below.refl _ _) _).trans ((H (q + 1)).out.2.trans (H2 (q + 1)).out.2))⟩
        case measure => simp [intOf]; omega
    · obtain rfl : i = M := by omega
      clear hf hMb
      go_wp2
      refine bodyPost_ret_by (v := .agg #[.slice (some ⟨w.heap.size + 2, 0, none⟩) L L, .int .i64 (n + m)]) (by
        simp only [results, show Try.f33.results = #[.cell 6 24] from rfl]
        go_simp) rfl ?_
      have e : X % pw i = X := Int.emod_eq_of_lt hX0 (by have := p2_sz hm; rw [hM] at this; omega)
      rw [e] at hown3
      have ho := (hown3.other (g := w.heap.size + 1) (i := 0) (u := .slice (some ⟨w.heap.size + 2, 0, none⟩) L L) (by simp [Value.ownBlock])).other (g := w.heap.size + 1) (i := 1) (u := .int .i64 (n + m)) (by simp [Value.ownBlock])
      have hrow := ho.rowLit (wf_byte (digs_byte _ _))
      have eb : bl (n + m) (val xs + X * p2 n) = digs (val xs + X * p2 n) L := by unfold bl; rw [hL]
      rw [eb]
      exact ⟨_, _, rfl, hrow, (hBr.setCell (by simp) _).setCell (by simp) _, by intro x hx; cases hx; simp⟩
end Go.Proofs.Ytbhoodhcipegbaa.Bt

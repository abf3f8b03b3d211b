/- The reference of layer 2: a bit put behind bits. -/
import Derived.Test.YtbhoodhcipegbaaRef02b
namespace Go.Proofs.Ytbhoodhcipegbaa.R02
open Go.RowKit Go.Proofs.Ytbhoodhcipegbaa.Kit Go.Proofs.Ytbhoodhcipegbaa.M01 Go.Proofs.Ytbhoodhcipegbaa.M02 Go.Proofs.Ytbhoodhcipegbaa.Bt
set_option linter.unusedVariables false

set_option maxRecDepth 100000 in
set_option maxHeartbeats 4000000 in
theorem add_any (a : Option Addr) (len cap base : Nat) (n V β : Int) (w : World) (hown : OwnI .u8 w base 5 (.slice a len cap) (bl n V)) (hbase : base ≤ w.heap.size) (hn : 0 ≤ n) (hn1 : n ≤ 330100) (h0 : 0 ≤ V) (h1 : V < p2 n) (hβ : β = 0 ∨ β = 1) :
    Calls Try.prog 65 #[bv a len cap n, .int .i64 β] w fun e w' => ∃ a' len' cap', e = .returned (bv a' len' cap' (n + 1)) ∧ OwnI .u8 w' base 5 (.slice a' len' cap') (bl (n + 1) (V + β * p2 n)) ∧ Below base w w' ∧ KeepT 5 w w' := by
  obtain ⟨i0, hi, hz0, hz1, hz2⟩ := info_parts info_u8
  obtain ⟨hA, hB, hj, y, hy, hy0, hy1, hsum, hset⟩ := add_bl hn h0 h1 hβ
  have hsn := sz_nat (show 0 ≤ n by omega)
  have hlb : (bl n V).length ≤ 50000 := by rw [bl_length]; omega
  have hwf : ∀ x ∈ bl n V, (Lit.int .u8 x).wf = true := wf_byte (bl_byte _ _)
  have hb0 := blk2a w (.cells #[.slice a len cap, .int .i64 n] 24) (.cells #[.slice none 0 0, .int .i64 0] 24)
  have hb1 := blk2 w (.cells #[.slice a len cap, .int .i64 n] 24) (.cells #[.slice none 0 0, .int .i64 0] 24)
  have hbe0 := below2 w (.cells #[.slice a len cap, .int .i64 n] 24) (.cells #[.slice none 0 0, .int .i64 0] 24)
  have hsz := size2 w (.cells #[.slice a len cap, .int .i64 n] 24) (.cells #[.slice none 0 0, .int .i64 0] 24)
  have hown1 := hown.below hbe0
  obtain ⟨L, hL⟩ : ∃ L, sz (n + 1) = L := ⟨_, rfl⟩
  rw [hL] at hA hB hj hy hset
  have hLb : n + 1 ≤ 8 * (L : Int) ∧ 8 * (L : Int) ≤ n + 8 := by have := sz_nat (show 0 ≤ n + 1 by omega); omega
  have hnd : digs V L ≠ [] := by intro h; have := congrArg List.length h; rw [digs_length] at this; simp at this; omega
  unfold bv
  obtain ⟨B, eB⟩ : ∃ B, w.heap.size = B := ⟨_, rfl⟩
  rw [eB] at hb0 hb1 hsz hbase hbe0
  have hobn : (Value.slice a len cap).ownBlock ≠ some B ∧ (Value.slice a len cap).ownBlock ≠ some (B + 1) := by
    constructor <;> intro h <;> have := (World.ownsRow.lt hown _ h).2 <;> omega
  have hwfL := wf_byte (digs_byte V L)
  by_cases h8 : n % 8 = 0
  · have hA := hA h8
    clear hB
    go_enter Try.func65, Try.ntmps65
    go_wp2_with (at_builtin; go_loud (refine app1H rfl _ _ 22 rfl base 5 i0 (.int .u8 0) 1 Try.underlying22 hi hz0 hz1 hz2 rfl .u8 _ _ hown1 0 (B + 2) hsz rfl rfl (by rw [hsz]; omega) (by omega) (by omega) ?_; intro v' w2 hown2 hgr hbe; rw [hA] at hown2; obtain ⟨g, cap', hv'⟩ := hown2.form hnd; rw [digs_length] at hv'; subst hv';  have hk0' := blk_grown hb0 hgr hobn.1.symm; have hk1' := blk_grown hb1 hgr hobn.2.symm; obtain ⟨c0, c1, c2, c3⟩ := Box2.of hk0'))
    have hk0 := heap_setCell_same w2 B 0 _ _ (.slice (some ⟨g, 0, none⟩) L cap') hk0'
    have hk1 := (Below.heap_setCell w2 ⟨B, 0, none⟩ (.slice (some ⟨g, 0, none⟩) L cap') (B + 1) (by simp)).trans hk1'
    have hapart := hown2.apart hk0' (by decide)
    have howN := hown2.other (g := B) (i := 0) (u := .slice (some ⟨g, 0, none⟩) L cap') (by simp [Value.ownBlock]; omega)
    have hkN : KeepT 5 w (w2.setCell ⟨B, 0, none⟩ (.slice (some ⟨g, 0, none⟩) L cap')) := ((KeepT.of_below (by rw [eB]; exact hbe0)).trans (KeepT.grown hown1 hgr)).setNew (by omega) _ _
    have hbeN : Below base w (w2.setCell ⟨B, 0, none⟩ (.slice (some ⟨g, 0, none⟩) L cap')) := ((hbe0.mono hbase).trans hbe).setCell hbase _
    clear hown hown1 hown2 hbe hgr hk0' hk1' c0 c1 c2 c3 h8 hb0 hb1 hbe0 hsz hA hwf hlb hobn
    generalize w2.setCell ⟨B, 0, none⟩ (.slice (some ⟨g, 0, none⟩) L cap') = w3 at *
    have hcell := howN.cell (n / 8).toNat (by rw [digs_length]; exact hj)
    rw [hy] at hcell
    have hfree := howN.free (n / 8).toNat
    have hne0 := howN.apart hk0 (by decide)
    have hne1 := howN.apart hk1 (by decide)
    obtain ⟨r0, r1, r2, r3⟩ := Box2.of hk1
    obtain ⟨c0, c1, c2, c3⟩ := Box2.of hk0
    have hset2 := howN.set (n / 8).toNat (y + β * p2 (n % 8))
    rw [hset] at hset2
    have HS := hid (And.intro (hkN.setOwn howN (n / 8).toNat (.int .u8 (y + β * p2 (n % 8)))) hset2)
    have hjL : n / 8 < (L : Int) := by omega
    clear hset2 hset howN hy hk0 hk1 hj
    go_wp2
    go_loop [5, 6] (fun c t => ∃ k : Nat, (k : Int) ≤ n % 8 ∧ t = .int .i64 k ∧ c = .int .i64 (p2 k)) (fun _ t => 8 - (intOf t).toNat)
    case atStart => exact ⟨0, by omega, rfl, rfl⟩
    case round =>
      obtain ⟨k, hk, rfl, rfl⟩ := hrel
      have hpk := p2_le (show (k : Int) ≤ 8 by omega)
      have hpk0 := p2_pos k
      rw [p2_8] at hpk
      by_cases hlt : (k : Int) < n % 8
      · have e : p2 k * 2 = p2 ((k + 1 : Nat) : Int) := by rw [show ((k + 1 : Nat) : Int) = (k : Int) + 1 by omega, p2_add (by omega) (by omega)]; rfl
        have H := hid e
        clear e hcell hfree
        go_wp2
        go_round
        case rel => exact ⟨k + 1, by omega, by go_num, by rw [← H.out]⟩
        case measure => simp [intOf]; omega
      · have e : (k : Int) = n % 8 := by omega
        have e2 : p2 k = p2 (n % 8) := congrArg p2 e
        rw [e2] at hpk hpk0 ⊢
        have f1 : ((k : Int) < n % 8) = False := eq_false hlt
        have hβp : 0 ≤ β * p2 (n % 8) ∧ β * p2 (n % 8) ≤ 256 := by rcases hβ with rfl | rfl <;> omega
        obtain ⟨q, hq⟩ : ∃ q, β * p2 (n % 8) = q := ⟨_, rfl⟩
        obtain ⟨p, hp⟩ : ∃ p, p2 (n % 8) = p := ⟨_, rfl⟩
        rw [hp] at hq hpk hpk0 hy1
        rw [hp, hq] at hsum hβp
        simp only [hp]
        simp only [hp, hq] at HS
        clear e e2
        go_wp2
        refine bodyPost_ret_by (v := .agg #[.slice (some ⟨g, 0, none⟩) L cap', .int .i64 (n + 1)]) (by rw [results_cell1 rfl]; go_simp) rfl ?_
        obtain ⟨h3, h1, h2⟩ := HS.out
        have o1 := h1.other (g := B) (i := 1) (u := .int .i64 (n + 1)) (by simp [Value.ownBlock]; omega)
        have o2 := o1.other (g := B + 1) (i := 0) (u := .slice (some ⟨g, 0, none⟩) L cap') (by simp [Value.ownBlock]; omega)
        have o3 := o2.other (g := B + 1) (i := 1) (u := .int .i64 (n + 1)) (by simp [Value.ownBlock]; omega)
        exact ⟨_, _, _, rfl, o3, (((hbeN.trans h2).setCell (by dsimp only; omega) _).setCell (by dsimp only; omega) _).setCell (by dsimp only; omega) _, ((h3.setNew (by omega) _ _).setNew (by omega) _ _).setNew (by omega) _ _⟩
  · have hB := hB h8
    clear hA
    rw [hB] at hown1
    obtain ⟨g, cap', hv'⟩ := hown1.form hnd
    rw [digs_length] at hv'
    cases hv'
    have hk0 := hb0
    have hk1 := hb1
    have howN := hown1
    have hbeN := hbe0.mono hbase
    have hkN : KeepT 5 w _ := KeepT.of_below (by rw [eB]; exact hbe0)
    go_enter Try.func65, Try.ntmps65
    have f8 : (n % 8 = 0) = False := eq_false h8
    clear hown hown1 hb0 hb1 hbe0 hsz hB hwf hlb hobn
    go_wp2
    generalize (w.alloc (.cells #[.slice (some ⟨g, 0, none⟩) len cap, .int .i64 n] 24)).alloc (.cells #[.slice none 0 0, .int .i64 0] 24) = w3 at *
    have hcell := howN.cell (n / 8).toNat (by rw [digs_length]; exact hj)
    rw [hy] at hcell
    have hfree := howN.free (n / 8).toNat
    have hne0 := howN.apart hk0 (by decide)
    have hne1 := howN.apart hk1 (by decide)
    obtain ⟨r0, r1, r2, r3⟩ := Box2.of hk1
    obtain ⟨c0, c1, c2, c3⟩ := Box2.of hk0
    have hset2 := howN.set (n / 8).toNat (y + β * p2 (n % 8))
    rw [hset] at hset2
    have HS := hid (And.intro (hkN.setOwn howN (n / 8).toNat (.int .u8 (y + β * p2 (n % 8)))) hset2)
    have hjL : n / 8 < (len : Int) := by omega
    clear hset2 hset howN hy hk0 hk1 hj
    go_loop [5, 6] (fun c t => ∃ k : Nat, (k : Int) ≤ n % 8 ∧ t = .int .i64 k ∧ c = .int .i64 (p2 k)) (fun _ t => 8 - (intOf t).toNat)
    case atStart => exact ⟨0, by omega, rfl, rfl⟩
    case round =>
      obtain ⟨k, hk, rfl, rfl⟩ := hrel
      have hpk := p2_le (show (k : Int) ≤ 8 by omega)
      have hpk0 := p2_pos k
      rw [p2_8] at hpk
      by_cases hlt : (k : Int) < n % 8
      · have e : p2 k * 2 = p2 ((k + 1 : Nat) : Int) := by rw [show ((k + 1 : Nat) : Int) = (k : Int) + 1 by omega, p2_add (by omega) (by omega)]; rfl
        have H := hid e
        clear e hcell hfree
        go_wp2
        go_round
        case rel => exact ⟨k + 1, by omega, by go_num, by rw [← H.out]⟩
        case measure => simp [intOf]; omega
      · have e : (k : Int) = n % 8 := by omega
        have e2 : p2 k = p2 (n % 8) := congrArg p2 e
        rw [e2] at hpk hpk0 ⊢
        have f1 : ((k : Int) < n % 8) = False := eq_false hlt
        have hβp : 0 ≤ β * p2 (n % 8) ∧ β * p2 (n % 8) ≤ 256 := by rcases hβ with rfl | rfl <;> omega
        obtain ⟨q, hq⟩ : ∃ q, β * p2 (n % 8) = q := ⟨_, rfl⟩
        obtain ⟨p, hp⟩ : ∃ p, p2 (n % 8) = p := ⟨_, rfl⟩
        rw [hp] at hq hpk hpk0 hy1
        rw [hp, hq] at hsum hβp
        simp only [hp]
        simp only [hp, hq] at HS
        clear e e2
        go_wp2
        refine bodyPost_ret_by (v := .agg #[.slice (some ⟨g, 0, none⟩) len cap, .int .i64 (n + 1)]) (by rw [results_cell1 rfl]; go_simp) rfl ?_
        obtain ⟨h3, h1, h2⟩ := HS.out
        have o1 := h1.other (g := B) (i := 1) (u := .int .i64 (n + 1)) (by simp [Value.ownBlock]; omega)
        have o2 := o1.other (g := B + 1) (i := 0) (u := .slice (some ⟨g, 0, none⟩) len cap) (by simp [Value.ownBlock]; omega)
        have o3 := o2.other (g := B + 1) (i := 1) (u := .int .i64 (n + 1)) (by simp [Value.ownBlock]; omega)
        exact ⟨_, _, _, rfl, o3, (((hbeN.trans h2).setCell (by dsimp only; omega) _).setCell (by dsimp only; omega) _).setCell (by dsimp only; omega) _, ((h3.setNew (by omega) _ _).setNew (by omega) _ _).setNew (by omega) _ _⟩
end Go.Proofs.Ytbhoodhcipegbaa.R02

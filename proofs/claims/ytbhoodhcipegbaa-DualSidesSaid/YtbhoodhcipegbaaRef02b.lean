/- The reference of layer 2: copies. -/
import Derived.Test.YtbhoodhcipegbaaRef02
import Derived.Test.YtbhoodhcipegbaaKit3
import Derived.Deep.RegionHeld3
namespace Go.Proofs.Ytbhoodhcipegbaa.R02
open Go.RowKit Go.Proofs.Ytbhoodhcipegbaa.Kit Go.Proofs.Ytbhoodhcipegbaa.M01 Go.Proofs.Ytbhoodhcipegbaa.M02 Go.Proofs.Ytbhoodhcipegbaa.Bt
set_option linter.unusedVariables false

set_option maxHeartbeats 4000000 in
theorem twin_any (a : Option Addr) (len cap : Nat) (xs : List Int) (n : Int) (w : World) (hr : RowIn .u8 w a len cap xs) (hl : len ≤ 100000) :
    Calls Try.prog 19 #[bv a len cap n] w fun e w' => ∃ v, e = .returned (.agg #[v, .int .i64 n]) ∧ OwnI .u8 w' w.heap.size 5 v xs ∧ Below w.heap.size w w' := by
  obtain ⟨i0, hi, hz0, hz1, hz2⟩ := info_parts info_u8
  have hrr := hr.rd
  have hll := hr.hl
  unfold bv
  go_enter Try.func19, Try.ntmps19
  go_wp2
  obtain ⟨c0, c1, c2, c3⟩ := Box2.of (blk2a w (.cells #[.slice a len cap, .int .i64 n] 24) (.cells #[.slice none 0 0, .int .i64 0] 24))
  have R := Box2.of (blk2 w (.cells #[.slice a len cap, .int .i64 n] 24) (.cells #[.slice none 0 0, .int .i64 0] 24))
  have hB := below2 w (.cells #[.slice a len cap, .int .i64 n] 24) (.cells #[.slice none 0 0, .int .i64 0] 24)
  have hsz := size2 w (.cells #[.slice a len cap, .int .i64 n] 24) (.cells #[.slice none 0 0, .int .i64 0] 24)
  generalize ((w.alloc (.cells #[.slice a len cap, .int .i64 n] 24)).alloc (.cells #[.slice none 0 0, .int .i64 0] 24)) = w1 at *
  have hs0 : w.heap.size < w1.heap.size := by omega
  have hs1 : w.heap.size + 1 < w1.heap.size := by omega
  obtain ⟨H, eH⟩ : ∃ H, w1.heap.size = H := ⟨_, rfl⟩
  have hlit : OwnI .u8 (w1.drew.alloc (.cells #[] 5)) (w.heap.size + 2) 5 (.slice (some ⟨w.heap.size + 2, 0, none⟩) 0 0) [] := by
    have h := OwnI.lit (k := .u8) w1.drew (w.heap.size + 2) 5 [] (by show _ ≤ w1.heap.size; omega) (by simp)
    rw [show w1.drew.heap.size = w.heap.size + 2 from hsz] at h
    exact h
  have hBd : Below w1.heap.size w1 (w1.drew.alloc (.cells #[] 5)) := (Below.refl _ _).drew.alloc (Nat.le_refl _) _
  have d0 : (w1.drew.alloc (.cells #[] 5)).cell? ⟨w.heap.size, 0, none⟩ = some (.slice a len cap) := by rw [hBd.cell hs0]; exact c0
  have d1 : (w1.drew.alloc (.cells #[] 5)).cell? ⟨w.heap.size, 1, none⟩ = some (.int .i64 n) := by rw [hBd.cell hs0]; exact c1
  go_region_held3 (fun w' => w'.cell? ⟨w.heap.size, 0, none⟩ = some (.slice a len cap) ∧ w'.cell? ⟨w.heap.size, 1, none⟩ = some (.int .i64 n)) (first | go_keep | (exact ⟨by rw [hbe.cell (by dsimp only; omega)]; exact d0, by rw [hbe.cell (by dsimp only; omega)]; exact d1⟩))
    ((refine appS rfl _ _ 22 (by rfl) (w.heap.size + 2) 5 i0 (.int .u8 0) 1 Try.underlying22 hi hz0 hz1 hz2 rfl .u8 _ [] hlit a len cap xs ((hrr.same hB).drew.alloc _) hll (by rfl) (by rfl) (by simp; omega) (by simp; omega) (by simp; omega) ?_; intro v' w2 hown hgr hbe; obtain ⟨a', cap', rfl, hrow⟩ := hown.row hrr.2.2; have R2 := (R.below hBd hs1).below hbe (by omega); obtain ⟨r0, r1, r2, r3⟩ := R2))
  go_wp2
  rw [List.nil_append, hll] at hown
  refine bodyPost_ret_by (v := .agg #[.slice a' len cap', .int .i64 n]) (by rw [results_cell1 rfl]; go_simp) rfl ?_
  refine ⟨_, rfl, ((hown.other (hown.far (by omega))).other (hown.far (by omega))).mono (by omega), ?_⟩
  have h1 : Below w.heap.size w w2 := hB.trans ((hBd.mono hB.size).trans ((show Below (w.heap.size + 2) (w1.drew.alloc (.cells #[] 5)) w2 from hbe).mono (by omega)))
  exact (h1.setCell (by dsimp only; omega) _).setCell (by dsimp only; omega) _

/-- The reference's own way of putting a bit behind bits. -/
theorem add_bl {n V β : Int} (hn : 0 ≤ n) (h0 : 0 ≤ V) (h1 : V < p2 n) (hβ : β = 0 ∨ β = 1) :
    (n % 8 = 0 → bl n V ++ [0] = digs V (sz (n + 1))) ∧ (n % 8 ≠ 0 → bl n V = digs V (sz (n + 1))) ∧ (n / 8).toNat < sz (n + 1) ∧
    ∃ y, (digs V (sz (n + 1))).getD (n / 8).toNat 0 = y ∧ 0 ≤ y ∧ y < p2 (n % 8) ∧ y + β * p2 (n % 8) < 256 ∧ (digs V (sz (n + 1))).set (n / 8).toNat (y + β * p2 (n % 8)) = bl (n + 1) (V + β * p2 n) := by
  have hp := p2_pos (n % 8)
  have hz := p2_sz hn
  have hsplit := p2_split hn
  have hs := sz_nat hn
  have hs1 := sz_nat (show 0 ≤ n + 1 by omega)
  obtain ⟨d, hd⟩ : ∃ d, (n / 8).toNat = d := ⟨_, rfl⟩
  rw [hd] at hsplit ⊢
  have hd2 : n / 8 = (d : Int) := by omega
  have hpj := pw_pos d
  have hL : sz (n + 1) = d + 1 := by omega
  have hy0 : 0 ≤ V / pw d := Int.ediv_nonneg h0 (by omega)
  have hy1 : V / pw d < p2 (n % 8) := Int.ediv_lt_of_lt_mul (by omega) (by rw [Int.mul_comm]; rw [hsplit] at h1; exact h1)
  have hp8 : 2 * p2 (n % 8) ≤ 256 := by
    have h := p2_le (show n % 8 + 1 ≤ 8 by omega)
    rw [p2_8, p2_add (by omega) (by omega), show p2 1 = 2 from rfl] at h; omega
  have hyb : V / pw d + β * p2 (n % 8) < 256 := by rcases hβ with rfl | rfl <;> omega
  refine ⟨fun h => ?_, fun h => ?_, by omega, V / pw d, ?_, hy0, hy1, hyb, ?_⟩
  · have : sz n = d := by omega
    unfold bl
    rw [this, hL, digs_snoc]
    congr 1
    rw [h] at hy1
    rw [show p2 0 = 1 from rfl] at hy1
    rw [show V / pw d = 0 by omega]; rfl
  · have : sz n = d + 1 := by omega
    unfold bl; rw [this, hL]
  · rw [digs_getD _ _ _ (by omega)]; omega
  · unfold bl
    rw [hL, digs_snoc, digs_snoc]
    have hdm := Int.emod_add_mul_ediv V (pw d)
    have hm0 := Int.emod_nonneg V (show pw d ≠ 0 by omega)
    have hm1 := Int.emod_lt_of_pos V (show 0 < pw d by omega)
    have e : V + β * p2 n = V % pw d + (V / pw d + β * p2 (n % 8)) * pw d := by
      rw [hsplit, Int.add_mul, Int.mul_comm (V / pw d), Int.mul_assoc, Int.mul_comm (pw d) (p2 (n % 8)), ← Int.mul_assoc]; omega
    have h2 := digs_split (V % pw d) (V / pw d + β * p2 (n % 8)) d 1 hm0 hm1
    have h3 := digs_split (V % pw d) (V / pw d) d 1 hm0 hm1
    rw [← e, digs_snoc] at h2
    have e2 : V % pw d + V / pw d * pw d = V := by rw [Int.mul_comm]; exact hdm
    rw [e2, digs_snoc] at h3
    rw [h2, h3, List.set_append_right _ _ (by rw [digs_length]; omega), digs_length, Nat.sub_self]
    have hb0 : 0 ≤ V / pw d + β * p2 (n % 8) := by rcases hβ with rfl | rfl <;> omega
    simp [digs]; omega
end Go.Proofs.Ytbhoodhcipegbaa.R02

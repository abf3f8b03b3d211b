/- What the reference's functions of layer 2 return: walks of their Go text. The reference of layer 2: copies. The reference of layer 2: a bit put behind bits. The reference of layer 2: bits between. The reference of layer 2: comparing, cutting, filling up. The reference of layer 2: bytes as bits, filled up bits. The reference of layer 2: bits joined. -/
import Derived.Test.YtmnhepcnbdbhoaaGB
import Derived.Laws.ResultCell
import Derived.StillTailTactics
import Derived.Test.YtmnhepcnbdbhoaaGK
import Derived.Deep.RegionHeld3
import Derived.Deep.RegionWith
namespace Go.Proofs.Ytmnhepcnbdbhoaa.R02
open Go.RowKit Go.Proofs.Ytmnhepcnbdbhoaa.Kit Go.Proofs.Ytmnhepcnbdbhoaa.M01 Go.Proofs.Ytmnhepcnbdbhoaa.M02 Go.Proofs.Ytmnhepcnbdbhoaa.Bt
attribute [local irreducible] wpStill
set_option linter.unusedVariables false

def greatB (len : Nat) : Bool := decide (190 < len ∧ len < 41230 ∨ 41350 < len)

set_option maxHeartbeats 4000000 in
theorem great_any (a : Option Addr) (len cap : Nat) (xs : List Int) (n : Int) (w : World) (hr : RowIn .u8 w a len cap xs) :
    Calls Try.prog 15 #[bv a len cap n] w fun e w' => e = .returned (.bool (greatB len)) ∧ Below w.heap.size w w' := by
  have hlen := hr.rd.len
  rw [hr.hl] at hlen
  unfold bv
  by_cases h1 : 190 < len
  · by_cases h2 : len < 41230
    · clear hr
      rw [show greatB len = true by unfold greatB; simp; omega]
      have g1 : ((190 : Int) < len) = True := eq_true (by omega)
      have g2 : ((len : Int) < 41230) = True := eq_true (by omega)
      go_enter Try.func15, Try.ntmps15
      go_wp2
      go_ret
      exact ⟨rfl, below1 _ _⟩
    · by_cases h3 : 41350 < len
      · clear hr
        rw [show greatB len = true by unfold greatB; simp; omega]
        have g1 : ((190 : Int) < len) = True := eq_true (by omega)
        have g2 : ((len : Int) < 41230) = False := eq_false (by omega)
        have g3 : ((41350 : Int) < len) = True := eq_true (by omega)
        go_enter Try.func15, Try.ntmps15
        go_wp2
        go_ret
        exact ⟨rfl, below1 _ _⟩
      · clear hr
        rw [show greatB len = false by unfold greatB; simp; omega]
        have g1 : ((190 : Int) < len) = True := eq_true (by omega)
        have g2 : ((len : Int) < 41230) = False := eq_false (by omega)
        have g3 : ((41350 : Int) < len) = False := eq_false (by omega)
        go_enter Try.func15, Try.ntmps15
        go_wp2
        go_ret
        exact ⟨rfl, below1 _ _⟩
  · clear hr
    rw [show greatB len = false by unfold greatB; simp; omega]
    have g1 : ((190 : Int) < len) = False := eq_false (by omega)
    have g3 : ((41350 : Int) < len) = False := eq_false (by omega)
    go_enter Try.func15, Try.ntmps15
    go_wp2
    go_ret
    exact ⟨rfl, below1 _ _⟩

set_option maxHeartbeats 4000000 in
theorem at_any (a : Option Addr) (len cap : Nat) (xs : List Int) (n i : Int) (w : World) (hr : RowIn .u8 w a len cap xs) (h0 : 0 ≤ i) (hi : i < 8 * len) (hl : len ≤ 50000) :
    Calls Try.prog 55 #[bv a len cap n, .int .i64 i] w fun e w' => e = .returned (.int .i64 (val xs / p2 i % 2)) ∧ Below w.heap.size w w' := by
  obtain rfl := hr.hl
  have hb := byte_of hr.rd
  rw [← val_bit hb h0 hi]
  have hj : (i / 8).toNat < xs.length := by omega
  obtain ⟨b, off, ea, hcc⟩ := (hr.rd.alloc (.cells #[.slice a xs.length cap, .int .i64 n] 27)).cells (by intro h; subst h; simp at hj)
  subst ea
  have hcell := hcc _ hj
  have hyb := isByte_at hb hj
  obtain ⟨y, ey⟩ : ∃ y, xs.getD (i / 8).toNat 0 = y := ⟨_, rfl⟩
  rw [ey] at hcell hyb ⊢
  have hj2 : i / 8 < (xs.length : Int) := by omega
  clear hcc ey
  unfold bv
  go_enter Try.func55, Try.ntmps55
  go_wp2
  go_loop [5, 6] (fun c t => ∃ k : Nat, (k : Int) ≤ i % 8 ∧ t = .int .i64 k ∧ c = .int .i64 (y / p2 k)) (fun _ t => 8 - (intOf t).toNat)
  case atStart => exact ⟨0, by omega, rfl, by rw [show ((0 : Nat) : Int) = 0 from rfl, p2_zero, Int.ediv_one]⟩
  case round =>
    obtain ⟨k, hk, rfl, rfl⟩ := hrel
    have hp := p2_pos k
    have hq0 : 0 ≤ y / p2 k := Int.ediv_nonneg hyb.1 (by omega)
    have hq1 : y / p2 k ≤ y := Int.ediv_le_self _ hyb.1
    by_cases hlt : (k : Int) < i % 8
    · have e : y / p2 k / 2 = y / p2 ((k + 1 : Nat) : Int) := by
        rw [show ((k + 1 : Nat) : Int) = (k : Int) + 1 by omega, p2_add (by omega) (by omega), show p2 1 = 2 from rfl, Int.ediv_ediv_of_nonneg (by omega)]
      have H := hid e
      clear e
      go_wp2
      go_round
      case rel => exact ⟨k + 1, by omega, by go_num, by rw [← H.out]⟩
      case measure => simp [intOf]; omega
    · have e : (k : Int) = i % 8 := by omega
      have H := hid (congrArg p2 e)
      have f1 : ((k : Int) < i % 8) = False := eq_false hlt
      clear e
      go_wp2
      go_ret
      exact ⟨by rw [← H.out]; rfl, below1 _ _⟩

theorem val_bits0 {V n k : Int} (hn : 0 ≤ n) (hk : n ≤ k) (h0 : 0 ≤ V) (h1 : V < p2 n) : V / p2 k % 2 = 0 := by
  rw [Int.ediv_eq_zero_of_lt h0 (by have := p2_le hk; omega)]; rfl

set_option maxHeartbeats 4000000 in
theorem rcheck_any (a : Option Addr) (len cap : Nat) (xs : List Int) (n : Int) (w : World) (hr : RowIn .u8 w a len cap xs) (hn : isInt n) :
    Calls Try.prog 38 #[bv a len cap n] w fun e w' => e = .returned (.int .i64 (chkE xs n)) ∧ Below w.heap.size w w' := by
  obtain rfl := hr.hl
  have hb := byte_of hr.rd
  have hlen := hr.rd.len
  obtain ⟨hn1, hn2⟩ := hn
  unfold bv
  by_cases t1 : n < 0
  · have e : chkE xs n = 8 := by simp [chkE, okB]; omega
    rw [e]
    have f1 : (n < 0) = True := eq_true t1
    go_enter Try.func38, Try.ntmps38
    go_wp2
    go_ret
    exact ⟨rfl, below1 _ _⟩
  by_cases t2 : 330000 < n
  · have e : chkE xs n = 8 := by simp [chkE, okB]; omega
    rw [e]
    have f1 : (n < 0) = False := eq_false t1
    have f2 : (330000 < n) = True := eq_true t2
    go_enter Try.func38, Try.ntmps38
    go_wp2
    go_ret
    exact ⟨rfl, below1 _ _⟩
  have f1 : (n < 0) = False := eq_false t1
  have f2 : (330000 < n) = False := eq_false t2
  by_cases t3 : (xs.length : Int) = (n + 7) / 8
  · have hL : xs.length ≤ 41250 := by omega
    have hA := fun i w' hb' h1 h2 => at_any a xs.length cap xs n i w' (hr.same hb') h1 h2 (by omega)
    unfold bv at hA
    obtain ⟨L, eL⟩ : ∃ L, xs.length = L := ⟨_, rfl⟩
    have hvl := val_lt hb
    rw [eL, ← p2_pw] at hvl
    have hv0 := val_nonneg hb
    have hE : chkE xs n = if val xs < p2 n then 0 else 8 := by
      unfold chkE okB
      have := p2_pos n
      by_cases h : val xs < p2 n
      · rw [if_pos h, if_pos]; exact decide_eq_true ⟨by omega, by omega, t3, h⟩
      · rw [if_neg h, if_neg]; rw [decide_eq_true_iff]; exact fun h' => h h'.2.2.2
    rw [hE]
    rw [eL] at t3 hL
    simp only [eL] at hA ⊢
    have hq : (n + 7) / 8 = (L : Int) := t3.symm
    obtain ⟨V, hV⟩ : ∃ V, val xs = V := ⟨_, rfl⟩
    rw [hV] at hvl hv0 ⊢
    simp only [hV] at hA
    have hLb : n ≤ 8 * (L : Int) ∧ 8 * (L : Int) ≤ n + 7 := by omega
    obtain ⟨E, hEE⟩ : ∃ E : Int, (if V < p2 n then 0 else 8) = E := ⟨_, rfl⟩
    rw [hEE]
    have HE := hid hEE
    clear hE hEE hr hb hV eL t3 hlen
    go_enter Try.func38, Try.ntmps38
    go_wp2
    have hbx := Box2.of (blk1 w (.cells #[.slice a L cap, .int .i64 n] 27))
    have hbe := below1 w (.cells #[.slice a L cap, .int .i64 n] 27)
    have hsz := size1 w (.cells #[.slice a L cap, .int .i64 n] 27)
    generalize w.alloc (.cells #[.slice a L cap, .int .i64 n] 27) = w1 at hbx hbe hsz ⊢
    go_loopw [3] (fun t wr => ∃ i : Int, n ≤ i ∧ i ≤ 8 * L ∧ t = .int .i64 i ∧ V % p2 i < p2 n ∧ Box2 wr w.heap.size (.slice a L cap) (.int .i64 n) ∧ Below w.heap.size w wr ∧ w.heap.size < wr.heap.size) (fun t _ => (8 * (L : Int) - intOf t).toNat)
    case atStart => exact ⟨n, Int.le_refl _, hLb.1, rfl, Int.emod_lt_of_pos _ (by have := p2_pos n; omega), hbx, hbe, by omega⟩
    case round =>
      obtain ⟨i, hni, hiL, rfl, hmod, ⟨c0, c1, c2, c3⟩, hbr, hsr⟩ := hrel
      clear hbx hbe hsz
      have hp := p2_pos i
      by_cases hlt : i < 8 * (L : Int)
      · have hcall := hA i wr hbr (by omega) hlt
        have hm2 := mod_p2_succ V (show 0 ≤ i by omega)
        obtain ⟨z, hz⟩ : ∃ z, V / p2 i % 2 = z := ⟨_, rfl⟩
        rw [hz] at hcall hm2
        by_cases hz0 : z = 0
        · subst hz0
          rw [Int.zero_mul, Int.add_zero] at hm2
          have HM := hid hm2
          have HMod := hid hmod
          clear hm2 hmod hz hp hvl hv0 hA
          go_wp2_with (go_at_call 55; refine hcall.mono ?_; rintro e w' ⟨rfl, hb2⟩)
          go_roundw
          case rel => exact ⟨i + 1, by omega, by omega, by go_num, by rw [HM.out]; exact HMod.out, (Box2.mk c0 c1 c2 c3).below hb2 hsr, hbr.trans (hb2.mono hbr.size), Nat.lt_of_lt_of_le hsr hb2.size⟩
          case measure => simp [intOf]; omega
        · have hV : ¬ V < p2 n := by
            intro h
            have := val_bits0 (k := i) (by omega) hni hv0 h
            omega
          obtain rfl : E = 8 := by rw [← HE.out, if_neg hV]
          have f3 : (z = 0) = False := eq_false hz0
          clear hm2 hmod hz hp hvl hv0 hA
          go_wp2_with (go_at_call 55; refine hcall.mono ?_; rintro e w' ⟨rfl, hb2⟩)
          go_ret
          exact ⟨rfl, hbr.trans (hb2.mono hbr.size)⟩
      · obtain rfl : i = 8 * (L : Int) := by omega
        rw [Int.emod_eq_of_lt hv0 hvl] at hmod
        obtain rfl : E = 0 := by rw [← HE.out, if_pos hmod]
        clear hmod hvl hv0 hA hp
        go_wp2
        go_ret
        exact ⟨rfl, hbr⟩
  · have e : chkE xs n = 8 := by simp [chkE, okB]; omega
    rw [e]
    have f3 : ((xs.length : Int) = (n + 7) / 8) = False := eq_false t3
    go_enter Try.func38, Try.ntmps38
    go_wp2
    go_ret
    exact ⟨rfl, below1 _ _⟩
end Go.Proofs.Ytmnhepcnbdbhoaa.R02

namespace Go.Proofs.Ytmnhepcnbdbhoaa.R02
open Go.RowKit Go.Proofs.Ytmnhepcnbdbhoaa.Kit Go.Proofs.Ytmnhepcnbdbhoaa.M01 Go.Proofs.Ytmnhepcnbdbhoaa.M02 Go.Proofs.Ytmnhepcnbdbhoaa.Bt
set_option linter.unusedVariables false

set_option maxHeartbeats 4000000 in
theorem twin_any (a : Option Addr) (len cap : Nat) (xs : List Int) (n : Int) (w : World) (hr : RowIn .u8 w a len cap xs) (hl : len ≤ 100000) :
    Calls Try.prog 17 #[bv a len cap n] w fun e w' => ∃ v, e = .returned (.agg #[v, .int .i64 n]) ∧ OwnI .u8 w' w.heap.size 5 v xs ∧ Below w.heap.size w w' := by
  obtain ⟨i0, hi, hz0, hz1, hz2⟩ := info_parts info_u8
  have hrr := hr.rd
  have hll := hr.hl
  unfold bv
  go_enter Try.func17, Try.ntmps17
  go_wp2
  obtain ⟨c0, c1, c2, c3⟩ := Box2.of (blk2a w (.cells #[.slice a len cap, .int .i64 n] 27) (.cells #[.slice none 0 0, .int .i64 0] 27))
  have R := Box2.of (blk2 w (.cells #[.slice a len cap, .int .i64 n] 27) (.cells #[.slice none 0 0, .int .i64 0] 27))
  have hB := below2 w (.cells #[.slice a len cap, .int .i64 n] 27) (.cells #[.slice none 0 0, .int .i64 0] 27)
  have hsz := size2 w (.cells #[.slice a len cap, .int .i64 n] 27) (.cells #[.slice none 0 0, .int .i64 0] 27)
  generalize ((w.alloc (.cells #[.slice a len cap, .int .i64 n] 27)).alloc (.cells #[.slice none 0 0, .int .i64 0] 27)) = w1 at *
  have hs0 : w.heap.size < w1.heap.size := by omega
  have hs1 : w.heap.size + 1 < w1.heap.size := by omega
  obtain ⟨H, eH⟩ : ∃ H, w1.heap.size = H := ⟨_, rfl⟩
  have hlit : OwnI .u8 (w1.drew.alloc (.cells #[] 5)) (w.heap.size + 2) 5 (.slice (some ⟨w.heap.size + 2, 0, none⟩) 0 0) [] := by
    have h := OwnI.lit (k := .u8) w1.drew (w.heap.size + 2) 5 [] (by show _ ≤ w1.heap.size; omega) (by simp)
    rw [show w1.drew.heap.size = w.heap.size + 2 from hsz] at h
    exact h
  have hBd : Below w1.heap.size w1 (w1.drew.alloc (.cells #[] 5)) := (Below.refl _ _).drew.alloc (Nat.le_refl _) _
  have d0 : (w1.drew.alloc (.cells #[] 5)).cell? ⟨w.heap.size, 0, none⟩ = some (.slice a len cap) := by rw [hBd.cell hs0]; exact c0
  have d1 : (w1.drew.alloc (.cells #[] 5)).cell? ⟨w.heap.size, 1, none⟩ = some (.int .i64 n) := by rw [hBd.cell hs0]; exact c1
  go_region_held3 (fun w' => w'.cell? ⟨w.heap.size, 0, none⟩ = some (.slice a len cap) ∧ w'.cell? ⟨w.heap.size, 1, none⟩ = some (.int .i64 n)) (first | go_keep | (exact ⟨by rw [hbe.cell (by dsimp only; omega)]; exact d0, by rw [hbe.cell (by dsimp only; omega)]; exact d1⟩))
    ((refine appS rfl _ _ 25 (by rfl) (w.heap.size + 2) 5 i0 (.int .u8 0) 1 Try.underlying25 hi hz0 hz1 hz2 rfl .u8 _ [] hlit a len cap xs ((hrr.same hB).drew.alloc _) hll (by rfl) (by rfl) (by simp; omega) (by simp; omega) (by simp; omega) ?_; intro v' w2 hown hgr hbe; obtain ⟨a', cap', rfl, hrow⟩ := hown.row hrr.2.2; have R2 := (R.below hBd hs1).below hbe (by omega); obtain ⟨r0, r1, r2, r3⟩ := R2))
  go_wp2
  rw [List.nil_append, hll] at hown
  refine bodyPost_ret_by (v := .agg #[.slice a' len cap', .int .i64 n]) (by rw [results_cell1 rfl]; go_simp) rfl ?_
  refine ⟨_, rfl, ((hown.other (hown.far (by omega))).other (hown.far (by omega))).mono (by omega), ?_⟩
  have h1 : Below w.heap.size w w2 := hB.trans ((hBd.mono hB.size).trans ((show Below (w.heap.size + 2) (w1.drew.alloc (.cells #[] 5)) w2 from hbe).mono (by omega)))
  exact (h1.setCell (by dsimp only; omega) _).setCell (by dsimp only; omega) _

/-- The reference's own way of putting a bit behind bits. -/
theorem add_bl {n V β : Int} (hn : 0 ≤ n) (h0 : 0 ≤ V) (h1 : V < p2 n) (hβ : β = 0 ∨ β = 1) :
    (n % 8 = 0 → bl n V ++ [0] = digs V (sz (n + 1))) ∧ (n % 8 ≠ 0 → bl n V = digs V (sz (n + 1))) ∧ (n / 8).toNat < sz (n + 1) ∧
    ∃ y, (digs V (sz (n + 1))).getD (n / 8).toNat 0 = y ∧ 0 ≤ y ∧ y < p2 (n % 8) ∧ y + β * p2 (n % 8) < 256 ∧ (digs V (sz (n + 1))).set (n / 8).toNat (y + β * p2 (n % 8)) = bl (n + 1) (V + β * p2 n) := by
  have hp := p2_pos (n % 8)
  have hz := p2_sz hn
  have hsplit := p2_split hn
  have hs := sz_nat hn
  have hs1 := sz_nat (show 0 ≤ n + 1 by omega)
  obtain ⟨d, hd⟩ : ∃ d, (n / 8).toNat = d := ⟨_, rfl⟩
  rw [hd] at hsplit ⊢
  have hd2 : n / 8 = (d : Int) := by omega
  have hpj := pw_pos d
  have hL : sz (n + 1) = d + 1 := by omega
  have hy0 : 0 ≤ V / pw d := Int.ediv_nonneg h0 (by omega)
  have hy1 : V / pw d < p2 (n % 8) := Int.ediv_lt_of_lt_mul (by omega) (by rw [Int.mul_comm]; rw [hsplit] at h1; exact h1)
  have hp8 : 2 * p2 (n % 8) ≤ 256 := by
    have h := p2_le (show n % 8 + 1 ≤ 8 by omega)
    rw [p2_8, p2_add (by omega) (by omega), show p2 1 = 2 from rfl] at h; omega
  have hyb : V / pw d + β * p2 (n % 8) < 256 := by rcases hβ with rfl | rfl <;> omega
  refine ⟨fun h => ?_, fun h => ?_, by omega, V / pw d, ?_, hy0, hy1, hyb, ?_⟩
  · have : sz n = d := by omega
    unfold bl
    rw [this, hL, digs_snoc]
    congr 1
    rw [h] at hy1
    rw [show p2 0 = 1 from rfl] at hy1
    rw [show V / pw d = 0 by omega]; rfl
  · have : sz n = d + 1 := by omega
    unfold bl; rw [this, hL]
  · rw [digs_getD _ _ _ (by omega)]; omega
  · unfold bl
    rw [hL, digs_snoc, digs_snoc]
    have hdm := Int.emod_add_mul_ediv V (pw d)
    have hm0 := Int.emod_nonneg V (show pw d ≠ 0 by omega)
    have hm1 := Int.emod_lt_of_pos V (show 0 < pw d by omega)
    have e : V + β * p2 n = V % pw d + (V / pw d + β * p2 (n % 8)) * pw d := by
      rw [hsplit, Int.add_mul, Int.mul_comm (V / pw d), Int.mul_assoc, Int.mul_comm (pw d) (p2 (n % 8)), ← Int.mul_assoc]; omega
    have h2 := digs_split (V % pw d) (V / pw d + β * p2 (n % 8)) d 1 hm0 hm1
    have h3 := digs_split (V % pw d) (V / pw d) d 1 hm0 hm1
    rw [← e, digs_snoc] at h2
    have e2 : V % pw d + V / pw d * pw d = V := by rw [Int.mul_comm]; exact hdm
    rw [e2, digs_snoc] at h3
    rw [h2, h3, List.set_append_right _ _ (by rw [digs_length]; omega), digs_length, Nat.sub_self]
    have hb0 : 0 ≤ V / pw d + β * p2 (n % 8) := by rcases hβ with rfl | rfl <;> omega
    simp [digs]; omega
end Go.Proofs.Ytmnhepcnbdbhoaa.R02

namespace Go.Proofs.Ytmnhepcnbdbhoaa.R02
open Go.RowKit Go.Proofs.Ytmnhepcnbdbhoaa.Kit Go.Proofs.Ytmnhepcnbdbhoaa.M01 Go.Proofs.Ytmnhepcnbdbhoaa.M02 Go.Proofs.Ytmnhepcnbdbhoaa.Bt
set_option linter.unusedVariables false

set_option maxRecDepth 100000 in
set_option maxHeartbeats 4000000 in
theorem add_any (a : Option Addr) (len cap base : Nat) (n V β : Int) (w : World) (hown : OwnI .u8 w base 5 (.slice a len cap) (bl n V)) (hbase : base ≤ w.heap.size) (hn : 0 ≤ n) (hn1 : n ≤ 330100) (h0 : 0 ≤ V) (h1 : V < p2 n) (hβ : β = 0 ∨ β = 1) :
    Calls Try.prog 66 #[bv a len cap n, .int .i64 β] w fun e w' => ∃ a' len' cap', e = .returned (bv a' len' cap' (n + 1)) ∧ OwnI .u8 w' base 5 (.slice a' len' cap') (bl (n + 1) (V + β * p2 n)) ∧ Below base w w' ∧ KeepT 5 w w' := by
  obtain ⟨i0, hi, hz0, hz1, hz2⟩ := info_parts info_u8
  obtain ⟨hA, hB, hj, y, hy, hy0, hy1, hsum, hset⟩ := add_bl hn h0 h1 hβ
  have hsn := sz_nat (show 0 ≤ n by omega)
  have hlb : (bl n V).length ≤ 50000 := by rw [bl_length]; omega
  have hwf : ∀ x ∈ bl n V, (Lit.int .u8 x).wf = true := wf_byte (bl_byte _ _)
  have hb0 := blk2a w (.cells #[.slice a len cap, .int .i64 n] 27) (.cells #[.slice none 0 0, .int .i64 0] 27)
  have hb1 := blk2 w (.cells #[.slice a len cap, .int .i64 n] 27) (.cells #[.slice none 0 0, .int .i64 0] 27)
  have hbe0 := below2 w (.cells #[.slice a len cap, .int .i64 n] 27) (.cells #[.slice none 0 0, .int .i64 0] 27)
  have hsz := size2 w (.cells #[.slice a len cap, .int .i64 n] 27) (.cells #[.slice none 0 0, .int .i64 0] 27)
  have hown1 := hown.below hbe0
  obtain ⟨L, hL⟩ : ∃ L, sz (n + 1) = L := ⟨_, rfl⟩
  rw [hL] at hA hB hj hy hset
  have hLb : n + 1 ≤ 8 * (L : Int) ∧ 8 * (L : Int) ≤ n + 8 := by have := sz_nat (show 0 ≤ n + 1 by omega); omega
  have hnd : digs V L ≠ [] := by intro h; have := congrArg List.length h; rw [digs_length] at this; simp at this; omega
  unfold bv
  obtain ⟨B, eB⟩ : ∃ B, w.heap.size = B := ⟨_, rfl⟩
  rw [eB] at hb0 hb1 hsz hbase hbe0
  have hobn : (Value.slice a len cap).ownBlock ≠ some B ∧ (Value.slice a len cap).ownBlock ≠ some (B + 1) := by
    constructor <;> intro h <;> have := (World.ownsRow.lt hown _ h).2 <;> omega
  have hwfL := wf_byte (digs_byte V L)
  by_cases h8 : n % 8 = 0
  · have hA := hA h8
    clear hB
    go_enter Try.func66, Try.ntmps66
    go_wp2_with (at_builtin; go_loud (refine app1H rfl _ _ 25 rfl base 5 i0 (.int .u8 0) 1 Try.underlying25 hi hz0 hz1 hz2 rfl .u8 _ _ hown1 0 (B + 2) hsz rfl rfl (by rw [hsz]; omega) (by omega) (by omega) ?_; intro v' w2 hown2 hgr hbe; rw [hA] at hown2; obtain ⟨g, cap', hv'⟩ := hown2.form hnd; rw [digs_length] at hv'; subst hv';  have hk0' := blk_grown hb0 hgr hobn.1.symm; have hk1' := blk_grown hb1 hgr hobn.2.symm; obtain ⟨c0, c1, c2, c3⟩ := Box2.of hk0'))
    have hk0 := heap_setCell_same w2 B 0 _ _ (.slice (some ⟨g, 0, none⟩) L cap') hk0'
    have hk1 := (Below.heap_setCell w2 ⟨B, 0, none⟩ (.slice (some ⟨g, 0, none⟩) L cap') (B + 1) (by simp)).trans hk1'
    have hapart := hown2.apart hk0' (by decide)
    have howN := hown2.other (g := B) (i := 0) (u := .slice (some ⟨g, 0, none⟩) L cap') (by simp [Value.ownBlock]; omega)
    have hkN : KeepT 5 w (w2.setCell ⟨B, 0, none⟩ (.slice (some ⟨g, 0, none⟩) L cap')) := ((KeepT.of_below (by rw [eB]; exact hbe0)).trans (KeepT.grown hown1 hgr)).setNew (by omega) _ _
    have hbeN : Below base w (w2.setCell ⟨B, 0, none⟩ (.slice (some ⟨g, 0, none⟩) L cap')) := ((hbe0.mono hbase).trans hbe).setCell hbase _
    clear hown hown1 hown2 hbe hgr hk0' hk1' c0 c1 c2 c3 h8 hb0 hb1 hbe0 hsz hA hwf hlb hobn
    generalize w2.setCell ⟨B, 0, none⟩ (.slice (some ⟨g, 0, none⟩) L cap') = w3 at *
    have hcell := howN.cell (n / 8).toNat (by rw [digs_length]; exact hj)
    rw [hy] at hcell
    have hfree := howN.free (n / 8).toNat
    have hne0 := howN.apart hk0 (by decide)
    have hne1 := howN.apart hk1 (by decide)
    obtain ⟨r0, r1, r2, r3⟩ := Box2.of hk1
    obtain ⟨c0, c1, c2, c3⟩ := Box2.of hk0
    have hset2 := howN.set (n / 8).toNat (y + β * p2 (n % 8))
    rw [hset] at hset2
    have HS := hid (And.intro (hkN.setOwn howN (n / 8).toNat (.int .u8 (y + β * p2 (n % 8)))) hset2)
    have hjL : n / 8 < (L : Int) := by omega
    clear hset2 hset howN hy hk0 hk1 hj
    go_wp2
    go_loop [5, 6] (fun c t => ∃ k : Nat, (k : Int) ≤ n % 8 ∧ t = .int .i64 k ∧ c = .int .i64 (p2 k)) (fun _ t => 8 - (intOf t).toNat)
    case atStart => exact ⟨0, by omega, rfl, rfl⟩
    case round =>
      obtain ⟨k, hk, rfl, rfl⟩ := hrel
      have hpk := p2_le (show (k : Int) ≤ 8 by omega)
      have hpk0 := p2_pos k
      rw [p2_8] at hpk
      by_cases hlt : (k : Int) < n % 8
      · have e : p2 k * 2 = p2 ((k + 1 : Nat) : Int) := by rw [show ((k + 1 : Nat) : Int) = (k : Int) + 1 by omega, p2_add (by omega) (by omega)]; rfl
        have H := hid e
        clear e hcell hfree
        go_wp2
        go_round
        case rel => exact ⟨k + 1, by omega, by go_num, by rw [← H.out]⟩
        case measure => simp [intOf]; omega
      · have e : (k : Int) = n % 8 := by omega
        have e2 : p2 k = p2 (n % 8) := congrArg p2 e
        rw [e2] at hpk hpk0 ⊢
        have f1 : ((k : Int) < n % 8) = False := eq_false hlt
        have hβp : 0 ≤ β * p2 (n % 8) ∧ β * p2 (n % 8) ≤ 256 := by rcases hβ with rfl | rfl <;> omega
        obtain ⟨q, hq⟩ : ∃ q, β * p2 (n % 8) = q := ⟨_, rfl⟩
        obtain ⟨p, hp⟩ : ∃ p, p2 (n % 8) = p := ⟨_, rfl⟩
        rw [hp] at hq hpk hpk0 hy1
        rw [hp, hq] at hsum hβp
        simp only [hp]
        simp only [hp, hq] at HS
        clear e e2
        go_wp2
        refine bodyPost_ret_by (v := .agg #[.slice (some ⟨g, 0, none⟩) L cap', .int .i64 (n + 1)]) (by rw [results_cell1 rfl]; go_simp) rfl ?_
        obtain ⟨h3, h1, h2⟩ := HS.out
        have o1 := h1.other (g := B) (i := 1) (u := .int .i64 (n + 1)) (by simp [Value.ownBlock]; omega)
        have o2 := o1.other (g := B + 1) (i := 0) (u := .slice (some ⟨g, 0, none⟩) L cap') (by simp [Value.ownBlock]; omega)
        have o3 := o2.other (g := B + 1) (i := 1) (u := .int .i64 (n + 1)) (by simp [Value.ownBlock]; omega)
        exact ⟨_, _, _, rfl, o3, (((hbeN.trans h2).setCell (by dsimp only; omega) _).setCell (by dsimp only; omega) _).setCell (by dsimp only; omega) _, ((h3.setNew (by omega) _ _).setNew (by omega) _ _).setNew (by omega) _ _⟩
  · have hB := hB h8
    clear hA
    rw [hB] at hown1
    obtain ⟨g, cap', hv'⟩ := hown1.form hnd
    rw [digs_length] at hv'
    cases hv'
    have hk0 := hb0
    have hk1 := hb1
    have howN := hown1
    have hbeN := hbe0.mono hbase
    have hkN : KeepT 5 w _ := KeepT.of_below (by rw [eB]; exact hbe0)
    go_enter Try.func66, Try.ntmps66
    have f8 : (n % 8 = 0) = False := eq_false h8
    clear hown hown1 hb0 hb1 hbe0 hsz hB hwf hlb hobn
    go_wp2
    generalize (w.alloc (.cells #[.slice (some ⟨g, 0, none⟩) len cap, .int .i64 n] 27)).alloc (.cells #[.slice none 0 0, .int .i64 0] 27) = w3 at *
    have hcell := howN.cell (n / 8).toNat (by rw [digs_length]; exact hj)
    rw [hy] at hcell
    have hfree := howN.free (n / 8).toNat
    have hne0 := howN.apart hk0 (by decide)
    have hne1 := howN.apart hk1 (by decide)
    obtain ⟨r0, r1, r2, r3⟩ := Box2.of hk1
    obtain ⟨c0, c1, c2, c3⟩ := Box2.of hk0
    have hset2 := howN.set (n / 8).toNat (y + β * p2 (n % 8))
    rw [hset] at hset2
    have HS := hid (And.intro (hkN.setOwn howN (n / 8).toNat (.int .u8 (y + β * p2 (n % 8)))) hset2)
    have hjL : n / 8 < (len : Int) := by omega
    clear hset2 hset howN hy hk0 hk1 hj
    go_loop [5, 6] (fun c t => ∃ k : Nat, (k : Int) ≤ n % 8 ∧ t = .int .i64 k ∧ c = .int .i64 (p2 k)) (fun _ t => 8 - (intOf t).toNat)
    case atStart => exact ⟨0, by omega, rfl, rfl⟩
    case round =>
      obtain ⟨k, hk, rfl, rfl⟩ := hrel
      have hpk := p2_le (show (k : Int) ≤ 8 by omega)
      have hpk0 := p2_pos k
      rw [p2_8] at hpk
      by_cases hlt : (k : Int) < n % 8
      · have e : p2 k * 2 = p2 ((k + 1 : Nat) : Int) := by rw [show ((k + 1 : Nat) : Int) = (k : Int) + 1 by omega, p2_add (by omega) (by omega)]; rfl
        have H := hid e
        clear e hcell hfree
        go_wp2
        go_round
        case rel => exact ⟨k + 1, by omega, by go_num, by rw [← H.out]⟩
        case measure => simp [intOf]; omega
      · have e : (k : Int) = n % 8 := by omega
        have e2 : p2 k = p2 (n % 8) := congrArg p2 e
        rw [e2] at hpk hpk0 ⊢
        have f1 : ((k : Int) < n % 8) = False := eq_false hlt
        have hβp : 0 ≤ β * p2 (n % 8) ∧ β * p2 (n % 8) ≤ 256 := by rcases hβ with rfl | rfl <;> omega
        obtain ⟨q, hq⟩ : ∃ q, β * p2 (n % 8) = q := ⟨_, rfl⟩
        obtain ⟨p, hp⟩ : ∃ p, p2 (n % 8) = p := ⟨_, rfl⟩
        rw [hp] at hq hpk hpk0 hy1
        rw [hp, hq] at hsum hβp
        simp only [hp]
        simp only [hp, hq] at HS
        clear e e2
        go_wp2
        refine bodyPost_ret_by (v := .agg #[.slice (some ⟨g, 0, none⟩) len cap, .int .i64 (n + 1)]) (by rw [results_cell1 rfl]; go_simp) rfl ?_
        obtain ⟨h3, h1, h2⟩ := HS.out
        have o1 := h1.other (g := B) (i := 1) (u := .int .i64 (n + 1)) (by simp [Value.ownBlock]; omega)
        have o2 := o1.other (g := B + 1) (i := 0) (u := .slice (some ⟨g, 0, none⟩) len cap) (by simp [Value.ownBlock]; omega)
        have o3 := o2.other (g := B + 1) (i := 1) (u := .int .i64 (n + 1)) (by simp [Value.ownBlock]; omega)
        exact ⟨_, _, _, rfl, o3, (((hbeN.trans h2).setCell (by dsimp only; omega) _).setCell (by dsimp only; omega) _).setCell (by dsimp only; omega) _, ((h3.setNew (by omega) _ _).setNew (by omega) _ _).setNew (by omega) _ _⟩
end Go.Proofs.Ytmnhepcnbdbhoaa.R02

namespace Go.Proofs.Ytmnhepcnbdbhoaa.R02
open Go.RowKit Go.Proofs.Ytmnhepcnbdbhoaa.Kit Go.Proofs.Ytmnhepcnbdbhoaa.M01 Go.Proofs.Ytmnhepcnbdbhoaa.M02 Go.Proofs.Ytmnhepcnbdbhoaa.Bt
set_option linter.unusedVariables false

theorem blk3x (w : World) (A B C : Obj) : (((w.alloc A).alloc B).alloc C).heap[w.heap.size]? = some A ∧ (((w.alloc A).alloc B).alloc C).heap[w.heap.size + 1]? = some B ∧ (((w.alloc A).alloc B).alloc C).heap[w.heap.size + 2]? = some C ∧ (((w.alloc A).alloc B).alloc C).heap.size = w.heap.size + 3 ∧ Below w.heap.size w (((w.alloc A).alloc B).alloc C) :=
  ⟨blk3a w A B C, blk3b w A B C, blk3 w A B C, by simp, below3 w A B C⟩

theorem OwnI_nil_bl {w : World} {base : Nat} {e : TypeId} {V : Int} : OwnI .u8 w base e (.slice none 0 0) (bl 0 V) := OwnI.nil

set_option maxHeartbeats 4000000 in
theorem between_any (a : Option Addr) (len cap : Nat) (xs : List Int) (n f t : Int) (w : World) (hr : RowIn .u8 w a len cap xs) (hok : okB xs n = true) (hf : 0 ≤ f) (hft : f ≤ t) (htn : t ≤ n) :
    Calls Try.prog 53 #[bv a len cap n, .int .i64 f, .int .i64 t] w fun e w' => ∃ a' len' cap', e = .returned (bv a' len' cap' (t - f)) ∧ OwnI .u8 w' w.heap.size 5 (.slice a' len' cap') (bl (t - f) (val xs / p2 f % p2 (t - f))) ∧ Below w.heap.size w w' := by
  obtain ⟨hn0, hn1, hxl, hval⟩ := okB_iff.1 hok
  have hll := hr.hl
  obtain ⟨k0, k1, k2, hsz, hbe⟩ := blk3x w (.cells #[.slice a len cap, .int .i64 n] 27) (.cells #[.slice none 0 0, .int .i64 0] 27) (.cells #[.slice none 0 0, .int .i64 0] 27)
  obtain ⟨B, eB⟩ : ∃ B, w.heap.size = B := ⟨_, rfl⟩
  have hAt := fun i w' (hb : Below w.heap.size w w') h1 h2 => at_any a len cap xs n i w' (hr.same hb) h1 h2 (by omega)
  unfold bv at hAt ⊢
  rw [eB] at k0 k1 k2 hsz hbe hAt ⊢
  go_enter Try.func53, Try.ntmps53
  go_wp2
  simp only [Nat.add_assoc, Nat.reduceAdd]
  generalize ((w.alloc (.cells #[.slice a len cap, .int .i64 n] 27)).alloc (.cells #[.slice none 0 0, .int .i64 0] 27)).alloc (.cells #[.slice none 0 0, .int .i64 0] 27) = w1 at *
  go_loopw [8] (fun s wr => ∃ i : Int, f ≤ i ∧ i ≤ t ∧ s = .int .i64 i ∧ ∃ a' len' cap', Box2 wr B (.slice a len cap) (.int .i64 n) ∧ Box2 wr (B + 1) (.slice none 0 0) (.int .i64 0) ∧ Box2 wr (B + 2) (.slice a' len' cap') (.int .i64 (i - f)) ∧
    OwnI .u8 wr (B + 3) 5 (.slice a' len' cap') (bl (i - f) (val xs / p2 f % p2 (i - f))) ∧ Below B w wr ∧ B + 3 ≤ wr.heap.size) (fun s _ => (t - intOf s).toNat)
  case atStart => exact ⟨f, Int.le_refl _, hft, rfl, none, 0, 0, Box2.of k0, Box2.of k1, by rw [Int.sub_self]; exact Box2.of k2, by rw [Int.sub_self]; exact OwnI_nil_bl, hbe, by omega⟩
  case round =>
    obtain ⟨i, hfi, hit, rfl, a', len', cap', ⟨c0, c1, c2, c3⟩, B1, B2, howN, hbr, hsr⟩ := hrel
    clear k0 k1 k2 hbe
    by_cases hlt : i < t
    · obtain ⟨z, hz⟩ : ∃ z, val xs / p2 i % 2 = z := ⟨_, rfl⟩
      have hcall := fun w' hb => hAt i w' hb (by omega) (by omega)
      simp only [hz] at hcall
      obtain ⟨V, hV⟩ : ∃ V, val xs / p2 f % p2 (i - f) = V := ⟨_, rfl⟩
      have hp := p2_pos (i - f)
      have hV0 : 0 ≤ V := by rw [← hV]; exact Int.emod_nonneg _ (by omega)
      have hV1 : V < p2 (i - f) := by rw [← hV]; exact Int.emod_lt_of_pos _ (by omega)
      have hnew := mod_p2_succ (val xs / p2 f) (show 0 ≤ i - f by omega)
      have hdd : val xs / p2 f / p2 (i - f) = val xs / p2 i := by
        rw [Int.ediv_ediv_of_nonneg (by have := p2_pos f; omega), ← p2_add hf (by omega)]; congr 2; omega
      rw [hdd, hz, hV, show i - f + 1 = i + 1 - f by omega] at hnew
      rw [hV] at howN
      have hAdd := fun w' (ho : OwnI .u8 w' (B + 3) 5 (.slice a' len' cap') (bl (i - f) V)) hbs => add_any a' len' cap' (B + 3) (i - f) V z w' ho hbs (by omega) (by omega) hV0 hV1 (by omega)
      unfold bv at hAdd
      rw [← hnew, show i - f + 1 = i + 1 - f by omega] at hAdd
      obtain ⟨d0, d1, d2, d3⟩ := B2
      clear hnew hV hz hdd hp hok hxl hval hAt
      go_wp2
      go_region_with
        (first | (go_at_call 55; refine (hcall _ hbr.drew).mono ?_; rintro e w2 ⟨rfl, hb2⟩; have hs2 := Nat.le_trans hsr (show wr.heap.size ≤ w2.heap.size from hb2.size); have D2 := Box2.below (w := wr.drew) ⟨d0, d1, d2, d3⟩ hb2 (show B + 2 < wr.heap.size by omega); have HO := (howN.below (Below.refl _ _).drew).below hb2;  have x0 : w2.cell? ⟨B + 2, 0, none⟩ = some (.slice a' len' cap') := (by rw [hb2.cell (show B + 2 < wr.heap.size by omega)]; exact d0); have x1 : w2.cell? ⟨B + 2, 1, none⟩ = some (.int .i64 (i - f)) := (by rw [hb2.cell (show B + 2 < wr.heap.size by omega)]; exact d1);  have x2 : w2.cell? ⟨B, 0, none⟩ = some (.slice a len cap) := (by rw [hb2.cell (show B < wr.heap.size by omega)]; exact c0); have x3 : w2.cell? ⟨B, 1, none⟩ = some (.int .i64 n) := (by rw [hb2.cell (show B < wr.heap.size by omega)]; exact c1))  | (go_at_call 66; refine (hAdd _ HO hs2).mono ?_; rintro e w3 ⟨a2, len2, cap2, rfl, HO2, hb3, _⟩; obtain ⟨y0, y1, y2, y3⟩ := D2.below hb3 (by omega)))
      all_goals
        go_wp2
        go_roundw
        case rel =>
          have hs3 := Nat.le_trans hs2 hb3.size
          have X0 := (Box2.below (w := wr.drew) ⟨c0, c1, c2, c3⟩ hb2 (show B < wr.heap.size by omega)).below hb3 (by omega)
          have X1 := (Box2.below (w := wr.drew) ⟨B1.c0, B1.c1, B1.f0, B1.f1⟩ hb2 (show B + 1 < wr.heap.size by omega)).below hb3 (by omega)
          exact ⟨i + 1, by omega, by omega, by go_num, a2, len2, cap2, (X0.set (by omega)).set (by omega), (X1.set (by omega)).set (by omega), Box2.put ⟨y0, y1, y2, y3⟩ _ _,
            (HO2.other (HO2.far (by omega))).other (HO2.far (by omega)), (((hbr.drew.trans (hb2.mono (show B ≤ wr.heap.size by omega))).trans (hb3.mono (by omega))).setCell (by dsimp only; omega) _).setCell (by dsimp only; omega) _, by simp only [World.size_setCell]; omega⟩
        case measure => simp [intOf]; omega
    · obtain rfl : i = t := by omega
      obtain ⟨d0, d1, d2, d3⟩ := B2
      obtain ⟨r0, r1, r2, r3⟩ := B1
      clear hAt
      go_wp2
      refine bodyPost_ret_by (v := .agg #[.slice a' len' cap', .int .i64 (i - f)]) (by rw [results_cell1 rfl]; go_simp) rfl ?_
      exact ⟨_, _, _, rfl, ((howN.other (howN.far (by omega))).other (howN.far (by omega))).mono (by omega), (hbr.setCell (by dsimp only; omega) _).setCell (by dsimp only; omega) _⟩
end Go.Proofs.Ytmnhepcnbdbhoaa.R02

namespace Go.Proofs.Ytmnhepcnbdbhoaa.R02
open Go.RowKit Go.Proofs.Ytmnhepcnbdbhoaa.Kit Go.Proofs.Ytmnhepcnbdbhoaa.M01 Go.Proofs.Ytmnhepcnbdbhoaa.M02 Go.Proofs.Ytmnhepcnbdbhoaa.Bt
set_option linter.unusedVariables false

def sameB (xs : List Int) (n : Int) (ys : List Int) (m : Int) : Bool := decide (n = m ∧ xs = ys)

set_option maxHeartbeats 4000000 in
theorem same_any (a : Option Addr) (len cap : Nat) (xs : List Int) (n : Int) (b : Option Addr) (blen bcap : Nat) (ys : List Int) (m : Int) (w : World) (hr : RowIn .u8 w a len cap xs) (hrb : RowIn .u8 w b blen bcap ys) :
    Calls Try.prog 26 #[bv a len cap n, bv b blen bcap m] w fun e w' => e = .returned (.bool (sameB xs n ys m)) ∧ Below w.heap.size w w' := by
  have hs1 := (((hr.rd.alloc (.cells #[.slice a len cap, .int .i64 n] 27)).alloc (.cells #[.slice b blen bcap, .int .i64 m] 27)).strD len cap hr.hl Try.underlying25 Try.underlying5 Try.underlying9).1
  have hs2 := (((hrb.rd.alloc (.cells #[.slice a len cap, .int .i64 n] 27)).alloc (.cells #[.slice b blen bcap, .int .i64 m] 27)).strD blen bcap hrb.hl Try.underlying25 Try.underlying5 Try.underlying9).1
  have hbeq := beq_bstr hr.rd.2.2 hrb.rd.2.2
  by_cases h : n = m
  · subst h
    have e : sameB xs n ys n = decide (xs = ys) := by simp [sameB]
    rw [e]
    unfold bv
    go_enter Try.func26, Try.ntmps26
    go_wp2
    go_ret
    exact ⟨rfl, below2 _ _ _⟩
  · have e : sameB xs n ys m = false := by simp [sameB, h]
    rw [e]
    have f1 : (n = m) = False := eq_false h
    unfold bv
    go_enter Try.func26, Try.ntmps26
    go_wp2
    go_ret
    exact ⟨rfl, below2 _ _ _⟩

end Go.Proofs.Ytmnhepcnbdbhoaa.R02

namespace Go.Proofs.Ytmnhepcnbdbhoaa.R02
open Go.RowKit Go.Proofs.Ytmnhepcnbdbhoaa.Kit Go.Proofs.Ytmnhepcnbdbhoaa.M01 Go.Proofs.Ytmnhepcnbdbhoaa.M02 Go.Proofs.Ytmnhepcnbdbhoaa.Bt
set_option linter.unusedVariables false



end Go.Proofs.Ytmnhepcnbdbhoaa.R02

namespace Go.Proofs.Ytmnhepcnbdbhoaa.R02
open Go.RowKit Go.Proofs.Ytmnhepcnbdbhoaa.Kit Go.Proofs.Ytmnhepcnbdbhoaa.M01 Go.Proofs.Ytmnhepcnbdbhoaa.M02 Go.Proofs.Ytmnhepcnbdbhoaa.Bt
set_option linter.unusedVariables false

theorem join_step {V Y z n i : Int} (hn : 0 ≤ n) (hi : 0 ≤ i) (hz : Y / p2 i % 2 = z) : V + Y % p2 i * p2 n + z * p2 (n + i) = V + Y % p2 (i + 1) * p2 n := by
  rw [mod_p2_succ Y hi, hz, p2_add hn hi, Int.add_mul, Int.mul_assoc z, Int.mul_comm (p2 i) (p2 n)]; omega

end Go.Proofs.Ytmnhepcnbdbhoaa.R02

/- What the reference's functions of layer 2 return: walks of their Go text. -/
import Derived.Test.YtbhoodhcipegbaaBits7
import Derived.Laws.ResultCell
import Derived.StillTailTactics
namespace Go.Proofs.Ytbhoodhcipegbaa.R02
open Go.RowKit Go.Proofs.Ytbhoodhcipegbaa.Kit Go.Proofs.Ytbhoodhcipegbaa.M01 Go.Proofs.Ytbhoodhcipegbaa.M02 Go.Proofs.Ytbhoodhcipegbaa.Bt
attribute [local irreducible] wpStill
set_option linter.unusedVariables false

def greatB (len : Nat) : Bool := decide (190 < len ∧ len < 41230 ∨ 41350 < len)

set_option maxHeartbeats 4000000 in
theorem great_any (a : Option Addr) (len cap : Nat) (xs : List Int) (n : Int) (w : World) (hr : RowIn .u8 w a len cap xs) :
    Calls Try.prog 18 #[bv a len cap n] w fun e w' => e = .returned (.bool (greatB len)) ∧ Below w.heap.size w w' := by
  have hlen := hr.rd.len
  rw [hr.hl] at hlen
  unfold bv
  by_cases h1 : 190 < len
  · by_cases h2 : len < 41230
    · clear hr
      rw [show greatB len = true by unfold greatB; simp; omega]
      have g1 : ((190 : Int) < len) = True := eq_true (by omega)
      have g2 : ((len : Int) < 41230) = True := eq_true (by omega)
      go_enter Try.func18, Try.ntmps18
      go_wp2
      go_ret
      exact ⟨rfl, below1 _ _⟩
    · by_cases h3 : 41350 < len
      · clear hr
        rw [show greatB len = true by unfold greatB; simp; omega]
        have g1 : ((190 : Int) < len) = True := eq_true (by omega)
        have g2 : ((len : Int) < 41230) = False := eq_false (by omega)
        have g3 : ((41350 : Int) < len) = True := eq_true (by omega)
        go_enter Try.func18, Try.ntmps18
        go_wp2
        go_ret
        exact ⟨rfl, below1 _ _⟩
      · clear hr
        rw [show greatB len = false by unfold greatB; simp; omega]
        have g1 : ((190 : Int) < len) = True := eq_true (by omega)
        have g2 : ((len : Int) < 41230) = False := eq_false (by omega)
        have g3 : ((41350 : Int) < len) = False := eq_false (by omega)
        go_enter Try.func18, Try.ntmps18
        go_wp2
        go_ret
        exact ⟨rfl, below1 _ _⟩
  · clear hr
    rw [show greatB len = false by unfold greatB; simp; omega]
    have g1 : ((190 : Int) < len) = False := eq_false (by omega)
    have g3 : ((41350 : Int) < len) = False := eq_false (by omega)
    go_enter Try.func18, Try.ntmps18
    go_wp2
    go_ret
    exact ⟨rfl, below1 _ _⟩

set_option maxHeartbeats 4000000 in
theorem at_any (a : Option Addr) (len cap : Nat) (xs : List Int) (n i : Int) (w : World) (hr : RowIn .u8 w a len cap xs) (h0 : 0 ≤ i) (hi : i < 8 * len) (hl : len ≤ 50000) :
    Calls Try.prog 47 #[bv a len cap n, .int .i64 i] w fun e w' => e = .returned (.int .i64 (val xs / p2 i % 2)) ∧ Below w.heap.size w w' := by
  obtain rfl := hr.hl
  have hb := byte_of hr.rd
  rw [← val_bit hb h0 hi]
  have hj : (i / 8).toNat < xs.length := by omega
  obtain ⟨b, off, ea, hcc⟩ := (hr.rd.alloc (.cells #[.slice a xs.length cap, .int .i64 n] 24)).cells (by intro h; subst h; simp at hj)
  subst ea
  have hcell := hcc _ hj
  have hyb := isByte_at hb hj
  obtain ⟨y, ey⟩ : ∃ y, xs.getD (i / 8).toNat 0 = y := ⟨_, rfl⟩
  rw [ey] at hcell hyb ⊢
  have hj2 : i / 8 < (xs.length : Int) := by omega
  clear hcc ey
  unfold bv
  go_enter Try.func47, Try.ntmps47
  go_wp2
  go_loop [5, 6] (fun c t => ∃ k : Nat, (k : Int) ≤ i % 8 ∧ t = .int .i64 k ∧ c = .int .i64 (y / p2 k)) (fun _ t => 8 - (intOf t).toNat)
  case atStart => exact ⟨0, by omega, rfl, by rw [show ((0 : Nat) : Int) = 0 from rfl, p2_zero, Int.ediv_one]⟩
  case round =>
    obtain ⟨k, hk, rfl, rfl⟩ := hrel
    have hp := p2_pos k
    have hq0 : 0 ≤ y / p2 k := Int.ediv_nonneg hyb.1 (by omega)
    have hq1 : y / p2 k ≤ y := Int.ediv_le_self _ hyb.1
    by_cases hlt : (k : Int) < i % 8
    · have e : y / p2 k / 2 = y / p2 ((k + 1 : Nat) : Int) := by
        rw [show ((k + 1 : Nat) : Int) = (k : Int) + 1 by omega, p2_add (by omega) (by omega), show p2 1 = 2 from rfl, Int.ediv_ediv_of_nonneg (by omega)]
      have H := hid e
      clear e
      go_wp2
      go_round
      case rel => exact ⟨k + 1, by omega, by go_num, by rw [← H.out]⟩
      case measure => simp [intOf]; omega
    · have e : (k : Int) = i % 8 := by omega
      have H := hid (congrArg p2 e)
      have f1 : ((k : Int) < i % 8) = False := eq_false hlt
      clear e
      go_wp2
      go_ret
      exact ⟨by rw [← H.out]; rfl, below1 _ _⟩

theorem val_bits0 {V n k : Int} (hn : 0 ≤ n) (hk : n ≤ k) (h0 : 0 ≤ V) (h1 : V < p2 n) : V / p2 k % 2 = 0 := by
  rw [Int.ediv_eq_zero_of_lt h0 (by have := p2_le hk; omega)]; rfl

set_option maxHeartbeats 4000000 in
theorem rcheck_any (a : Option Addr) (len cap : Nat) (xs : List Int) (n : Int) (w : World) (hr : RowIn .u8 w a len cap xs) (hn : isInt n) :
    Calls Try.prog 28 #[bv a len cap n] w fun e w' => e = .returned (.int .i64 (chkE xs n)) ∧ Below w.heap.size w w' := by
  obtain rfl := hr.hl
  have hb := byte_of hr.rd
  have hlen := hr.rd.len
  obtain ⟨hn1, hn2⟩ := hn
  unfold bv
  by_cases t1 : n < 0
  · have e : chkE xs n = 8 := by simp [chkE, okB]; omega
    rw [e]
    have f1 : (n < 0) = True := eq_true t1
    go_enter Try.func28, Try.ntmps28
    go_wp2
    go_ret
    exact ⟨rfl, below1 _ _⟩
  by_cases t2 : 330000 < n
  · have e : chkE xs n = 8 := by simp [chkE, okB]; omega
    rw [e]
    have f1 : (n < 0) = False := eq_false t1
    have f2 : (330000 < n) = True := eq_true t2
    go_enter Try.func28, Try.ntmps28
    go_wp2
    go_ret
    exact ⟨rfl, below1 _ _⟩
  have f1 : (n < 0) = False := eq_false t1
  have f2 : (330000 < n) = False := eq_false t2
  by_cases t3 : (xs.length : Int) = (n + 7) / 8
  · have hL : xs.length ≤ 41250 := by omega
    have hA := fun i w' hb' h1 h2 => at_any a xs.length cap xs n i w' (hr.same hb') h1 h2 (by omega)
    unfold bv at hA
    obtain ⟨L, eL⟩ : ∃ L, xs.length = L := ⟨_, rfl⟩
    have hvl := val_lt hb
    rw [eL, ← p2_pw] at hvl
    have hv0 := val_nonneg hb
    have hE : chkE xs n = if val xs < p2 n then 0 else 8 := by
      unfold chkE okB
      have := p2_pos n
      by_cases h : val xs < p2 n
      · rw [if_pos h, if_pos]; exact decide_eq_true ⟨by omega, by omega, t3, h⟩
      · rw [if_neg h, if_neg]; rw [decide_eq_true_iff]; exact fun h' => h h'.2.2.2
    rw [hE]
    rw [eL] at t3 hL
    simp only [eL] at hA ⊢
    have hq : (n + 7) / 8 = (L : Int) := t3.symm
    obtain ⟨V, hV⟩ : ∃ V, val xs = V := ⟨_, rfl⟩
    rw [hV] at hvl hv0 ⊢
    simp only [hV] at hA
    have hLb : n ≤ 8 * (L : Int) ∧ 8 * (L : Int) ≤ n + 7 := by omega
    obtain ⟨E, hEE⟩ : ∃ E : Int, (if V < p2 n then 0 else 8) = E := ⟨_, rfl⟩
    rw [hEE]
    have HE := hid hEE
    clear hE hEE hr hb hV eL t3 hlen
    go_enter Try.func28, Try.ntmps28
    go_wp2
    have hbx := Box2.of (blk1 w (.cells #[.slice a L cap, .int .i64 n] 24))
    have hbe := below1 w (.cells #[.slice a L cap, .int .i64 n] 24)
    have hsz := size1 w (.cells #[.slice a L cap, .int .i64 n] 24)
    generalize w.alloc (.cells #[.slice a L cap, .int .i64 n] 24) = w1 at hbx hbe hsz ⊢
    go_loopw [3] (fun t wr => ∃ i : Int, n ≤ i ∧ i ≤ 8 * L ∧ t = .int .i64 i ∧ V % p2 i < p2 n ∧ Box2 wr w.heap.size (.slice a L cap) (.int .i64 n) ∧ Below w.heap.size w wr ∧ w.heap.size < wr.heap.size) (fun t _ => (8 * (L : Int) - intOf t).toNat)
    case atStart => exact ⟨n, Int.le_refl _, hLb.1, rfl, Int.emod_lt_of_pos _ (by have := p2_pos n; omega), hbx, hbe, by omega⟩
    case round =>
      obtain ⟨i, hni, hiL, rfl, hmod, ⟨c0, c1, c2, c3⟩, hbr, hsr⟩ := hrel
      clear hbx hbe hsz
      have hp := p2_pos i
      by_cases hlt : i < 8 * (L : Int)
      · have hcall := hA i wr hbr (by omega) hlt
        have hm2 := mod_p2_succ V (show 0 ≤ i by omega)
        obtain ⟨z, hz⟩ : ∃ z, V / p2 i % 2 = z := ⟨_, rfl⟩
        rw [hz] at hcall hm2
        by_cases hz0 : z = 0
        · subst hz0
          rw [Int.zero_mul, Int.add_zero] at hm2
          have HM := hid hm2
          have HMod := hid hmod
          clear hm2 hmod hz hp hvl hv0 hA
          go_wp2_with (go_at_call 47; refine hcall.mono ?_; rintro e w' ⟨rfl, hb2⟩)
          go_roundw
          case rel => exact ⟨i + 1, by omega, by omega, by go_num, by rw [HM.out]; exact HMod.out, (Box2.mk c0 c1 c2 c3).below hb2 hsr, hbr.trans (hb2.mono hbr.size), Nat.lt_of_lt_of_le hsr hb2.size⟩
          case measure => simp [intOf]; omega
        · have hV : ¬ V < p2 n := by
            intro h
            have := val_bits0 (k := i) (by omega) hni hv0 h
            omega
          obtain rfl : E = 8 := by rw [← HE.out, if_neg hV]
          have f3 : (z = 0) = False := eq_false hz0
          clear hm2 hmod hz hp hvl hv0 hA
          go_wp2_with (go_at_call 47; refine hcall.mono ?_; rintro e w' ⟨rfl, hb2⟩)
          go_ret
          exact ⟨rfl, hbr.trans (hb2.mono hbr.size)⟩
      · obtain rfl : i = 8 * (L : Int) := by omega
        rw [Int.emod_eq_of_lt hv0 hvl] at hmod
        obtain rfl : E = 0 := by rw [← HE.out, if_pos hmod]
        clear hmod hvl hv0 hA hp
        go_wp2
        go_ret
        exact ⟨rfl, hbr⟩
  · have e : chkE xs n = 8 := by simp [chkE, okB]; omega
    rw [e]
    have f3 : ((xs.length : Int) = (n + 7) / 8) = False := eq_false t3
    go_enter Try.func28, Try.ntmps28
    go_wp2
    go_ret
    exact ⟨rfl, below1 _ _⟩
end Go.Proofs.Ytbhoodhcipegbaa.R02

/- What the reference's functions of layer 6 return: walks of their Go text. -/
import Derived.Test.YtogoiolpngbodaaGR2
import Derived.Test.YtogoiolpngbodaaUnary
import Derived.Deep.QuietTactic
import Derived.BigQuiet
namespace Go.Proofs.Ytogoiolpngbodaa.R06
open Go.Proofs Go.RowKit Go.Proofs.Ytogoiolpngbodaa.Kit Go.Proofs.Ytogoiolpngbodaa.M01 Go.Proofs.Ytogoiolpngbodaa.M02 Go.Proofs.Ytogoiolpngbodaa.M06 Go.Proofs.Ytogoiolpngbodaa.Bt Go.Proofs.Ytogoiolpngbodaa.R02 Go.Proofs.Ytogoiolpngbodaa.Un
set_option linter.unusedVariables false



theorem own_ne {w : World} {base : Nat} {a : Option Addr} {n cap : Nat} {xs : List Int} {g : Nat} {cs : Array Value} (h : OwnI .u8 w base 5 (.slice a n cap) xs) (hb : w.heap[g]? = some (.cells cs 24)) : (Value.slice a n cap).ownBlock ≠ some g := by
  rcases h.2 with ⟨h', _⟩ | ⟨g', c, cur, h', _⟩
  · cases h'; simp [Value.ownBlock]
  · rw [h'] at h
    have := h.apart hb (by decide)
    rw [h']; simp [Value.ownBlock]; omega

theorem ones_step {V n i : Int} (hn : 0 ≤ n) (hi : 0 ≤ i) : V + (p2 i - 1) * p2 n + 1 * p2 (n + i) = V + (p2 (i + 1) - 1) * p2 n := by
  rw [p2_add hi (by omega), p2_add hn hi, show p2 1 = 2 from rfl, Int.sub_mul, Int.sub_mul, Int.mul_comm (p2 n) (p2 i), Int.one_mul, Int.one_mul, Int.mul_right_comm (p2 i) 2]; omega

theorem ones_lt {V n i : Int} (hn : 0 ≤ n) (hi : 0 ≤ i) (h0 : 0 ≤ V) (h1 : V < p2 n) : 0 ≤ V + (p2 i - 1) * p2 n ∧ V + (p2 i - 1) * p2 n < p2 (n + i) := by
  have hp := p2_pos i
  have hq := p2_pos n
  have := Int.mul_nonneg (show 0 ≤ p2 i - 1 by omega) (show 0 ≤ p2 n by omega)
  exact ⟨by omega, join_lt hn hi h1 (by omega)⟩

set_option maxHeartbeats 4000000 in
theorem rrun_any (a : Option Addr) (len cap base : Nat) (n V m : Int) (w : World) (hown : OwnI .u8 w base 5 (.slice a len cap) (bl n V)) (hbase : base ≤ w.heap.size) (hn : 0 ≤ n) (hm0 : 0 ≤ m) (hm : m ≤ 48) (hn1 : n ≤ 330000) (h0 : 0 ≤ V) (h1 : V < p2 n) :
    Calls Try.prog 75 #[bv a len cap n, .int .i64 m] w fun e w' => ∃ a' len' cap', e = .returned (bv a' len' cap' (n + runS m)) ∧ OwnI .u8 w' base 5 (.slice a' len' cap') (bl (n + runS m) (V + (p2 m - 1) * p2 n)) ∧ Below base w w' ∧ KeepT 5 w w' := by
  have k0 := blk2a w (.cells #[.slice a len cap, .int .i64 n] 24) (.cells #[.slice none 0 0, .int .i64 0] 24)
  have k1 := blk2 w (.cells #[.slice a len cap, .int .i64 n] 24) (.cells #[.slice none 0 0, .int .i64 0] 24)
  have hbe := below2 w (.cells #[.slice a len cap, .int .i64 n] 24) (.cells #[.slice none 0 0, .int .i64 0] 24)
  have hsz := size2 w (.cells #[.slice a len cap, .int .i64 n] 24) (.cells #[.slice none 0 0, .int .i64 0] 24)
  have o1 := hown.below hbe
  have hbw : Below base w _ := hbe.mono hbase
  have hkw : KeepT 5 w _ := KeepT.of_below hbe
  obtain ⟨B, eB⟩ : ∃ B, w.heap.size = B := ⟨_, rfl⟩
  unfold bv
  rw [eB] at k0 k1 hsz hbase
  go_enter Try.func75, Try.ntmps75
  go_wp2
  clear hown hbe
  generalize ((w.alloc (.cells #[.slice a len cap, .int .i64 n] 24)).alloc (.cells #[.slice none 0 0, .int .i64 0] 24)) = w1 at *
  go_loopw [5] (fun s wr => ∃ i : Int, 0 ≤ i ∧ i ≤ m ∧ s = .int .i64 i ∧ ∃ a' len' cap', wr.heap[B]? = some (.cells #[.slice a' len' cap', .int .i64 (n + i)] 24) ∧ wr.heap[B + 1]? = some (.cells #[.slice none 0 0, .int .i64 0] 24) ∧
    OwnI .u8 wr base 5 (.slice a' len' cap') (bl (n + i) (V + (p2 i - 1) * p2 n)) ∧ Below base w wr ∧ KeepT 5 w wr) (fun s _ => (m - intOf s).toNat)
  case atStart => exact ⟨0, Int.le_refl _, hm0, rfl, a, len, cap, by rw [Int.add_zero]; exact k0, k1, by rw [Int.add_zero, p2_zero, Int.sub_self, Int.zero_mul, Int.add_zero]; exact o1, hbw, hkw⟩
  case round =>
    clear k0 k1 o1 hbw hsz hkw
    obtain ⟨i, hi0, him, rfl, a', len', cap', k0, k1, howN, hbr, hkr⟩ := hrel
    have hsr : B + 1 < wr.heap.size := (Array.getElem?_eq_some_iff.1 k1).1
    obtain ⟨c0, c1, c2, c3⟩ := Box2.of k0
    have hlo := ones_lt hn hi0 h0 h1
    by_cases hlt : i < m
    · have hnew := ones_step (V := V) hn hi0
      obtain ⟨W, hW⟩ : ∃ W, V + (p2 i - 1) * p2 n = W := ⟨_, rfl⟩
      rw [hW] at howN hnew hlo
      have hAdd := add_any a' len' cap' base (n + i) W 1 wr howN (by omega) (by omega) (by omega) hlo.1 hlo.2 (.inr rfl)
      unfold bv at hAdd
      rw [hnew, show n + i + 1 = n + (i + 1) by omega] at hAdd
      clear hnew hW hlo howN
      go_wp2_with (go_at_call 66; refine hAdd.mono ?_; rintro e w6 ⟨a2, len2, cap2, rfl, HO2, hb6, hk6⟩; have K0 := hk6 B _ _ k0 (by decide); have K1 := hk6 (B + 1) _ _ k1 (by decide); obtain ⟨y0, y1, y2, y3⟩ := Box2.of K0)
      go_roundw
      case rel =>
        have q1 := heap_setCell_same w6 B 0 _ _ (.slice a2 len2 cap2) K0
        have q2 := heap_setCell_same _ B 1 _ _ (.int .i64 (n + (i + 1))) q1
        have p1 := (Below.heap_setCell w6 ⟨B, 0, none⟩ (.slice a2 len2 cap2) (B + 1) (by simp)).trans K1
        have p2 := (Below.heap_setCell _ ⟨B, 1, none⟩ (.int .i64 (n + (i + 1))) (B + 1) (by simp)).trans p1
        have hne := own_ne HO2 K0
        exact ⟨i + 1, by omega, by omega, by go_num, a2, len2, cap2, q2, p2, (HO2.other hne).other hne, ((hbr.trans hb6).setCell (by dsimp only; omega) _).setCell (by dsimp only; omega) _, ((hkr.trans hk6).setNew (by omega) _ _).setNew (by omega) _ _⟩
      case measure => simp [intOf]; omega
    · obtain rfl : i = m := by omega
      by_cases h48 : i < 48
      · have f2 : (i < 48) = True := eq_true h48
        have hr := runS_lt h48
        obtain ⟨W, hW⟩ : ∃ W, V + (p2 i - 1) * p2 n = W := ⟨_, rfl⟩
        rw [hW] at howN hlo
        have HW := hid hW
        have HR := hid hr
        have hAdd := add_any a' len' cap' base (n + i) W 0 wr howN (by omega) (by omega) (by omega) hlo.1 hlo.2 (.inl rfl)
        unfold bv at hAdd
        rw [show n + i + 1 = n + (i + 1) by omega, Int.zero_mul, Int.add_zero] at hAdd
        clear hW hlo howN hr
        go_wp2_with (go_at_call 66; refine hAdd.mono ?_; rintro e w6 ⟨a2, len2, cap2, rfl, HO2, hb6, hk6⟩; have K0 := hk6 B _ _ k0 (by decide); have K1 := hk6 (B + 1) _ _ k1 (by decide); obtain ⟨y0, y1, y2, y3⟩ := Box2.of K0; obtain ⟨r0, r1, r2, r3⟩ := Box2.of K1)
        refine bodyPost_ret_by (v := .agg #[.slice a2 len2 cap2, .int .i64 (n + (i + 1))]) (by rw [results_cell1 rfl]; go_simp) rfl ?_
        have hne := own_ne HO2 K0
        have hne1 := own_ne HO2 K1
        rw [HR.out, HW.out]
        exact ⟨_, _, _, rfl, (((HO2.other hne).other hne).other hne1).other hne1, ((((hbr.trans hb6).setCell (by dsimp only; omega) _).setCell (by dsimp only; omega) _).setCell (by dsimp only; omega) _).setCell (by dsimp only; omega) _, ((((hkr.trans hk6).setNew (by omega) _ _).setNew (by omega) _ _).setNew (by omega) _ _).setNew (by omega) _ _⟩
      · obtain rfl : i = 48 := by omega
        obtain ⟨r0, r1, r2, r3⟩ := Box2.of k1
        obtain ⟨W, hW⟩ : ∃ W, V + (p2 48 - 1) * p2 n = W := ⟨_, rfl⟩
        rw [hW] at howN
        have HW := hid hW
        clear hlo hW
        go_wp2
        refine bodyPost_ret_by (v := .agg #[.slice a' len' cap', .int .i64 (n + 48)]) (by rw [results_cell1 rfl]; go_simp) rfl ?_
        have hne1 := own_ne howN k1
        rw [runS_48, HW.out]
        exact ⟨_, _, _, rfl, (howN.other hne1).other hne1, (hbr.setCell (by dsimp only; omega) _).setCell (by dsimp only; omega) _, (hkr.setNew (by omega) _ _).setNew (by omega) _ _⟩


theorem get_is {xs : List Int} {n p : Int} (hok : okB xs n = true) (h0 : 0 ≤ p) (h1 : p < n) : getE xs n p 1 = 0 ∧ getN xs n p 1 = val xs / p2 p % 2 := by
  have e : getE xs n p 1 = 0 := by rw [getE, if_pos hok, if_neg (by omega), if_neg (by omega)]
  exact ⟨e, by rw [getN, if_pos e]; rfl⟩

/-- What Got returns: -1 where the bits end before the run. -/
def gotN (xs : List Int) (n p : Int) : Int := if rdE xs n p = 0 then rdN xs n p else -1

set_option maxHeartbeats 4000000 in
theorem rgot_any (a : Option Addr) (len cap : Nat) (xs : List Int) (n p : Int) (w : World) (hr : RowIn .u8 w a len cap xs) (hok : okB xs n = true) (h0 : 0 ≤ p) (h1 : p < n) :
    Calls Try.prog 68 #[bv a len cap n, .int .i64 p] w fun e w' => e = .returned (.tuple #[.int .i64 (gotN xs n p), .int .i64 (rdX xs n p)]) ∧ Below w.heap.size w w' := by
  obtain ⟨hn0, hn1, hxl, hval⟩ := okB_iff.1 hok
  have hll := hr.hl
  have hby := byte_of hr.rd
  have hA := fun i w' (hb : Below w.heap.size w w') h1 h2 => at_any a len cap xs n i w' (hr.same hb) h1 h2 (by omega)
  have b0 := Box2.of (blk1 w (.cells #[.slice a len cap, .int .i64 n] 24))
  have hbe := below1 w (.cells #[.slice a len cap, .int .i64 n] 24)
  have hsz := size1 w (.cells #[.slice a len cap, .int .i64 n] 24)
  have hlb : n ≤ 8 * (len : Int) := by omega
  unfold bv at hA ⊢
  go_enter Try.func68, Try.ntmps68
  go_wp2
  generalize w.alloc (.cells #[.slice a len cap, .int .i64 n] 24) = w1 at *
  go_loopw [6] (fun t wr => ∃ j : Nat, t = .int .i64 j ∧ Hid (rdInv xs n p j) ∧ j ≤ 48 ∧ p + j ≤ n ∧ Box2 wr w.heap.size (.slice a len cap) (.int .i64 n) ∧ Below w.heap.size w wr ∧ w.heap.size < wr.heap.size) (fun t _ => 48 - (intOf t).toNat)
  case atStart => exact ⟨0, by go_num, hid (rdInv_start xs n p), by omega, by omega, b0, hbe, by omega⟩
  case round =>
    obtain ⟨j, rfl, hinv, hj48, hpj, ⟨c0, c1, c2, c3⟩, hbr, hsr⟩ := hrel
    clear b0 hbe hsz
    by_cases h48 : j = 48
    · subst h48
      have hR := rdInv_full hinv.out rfl
      have eG : gotN xs n p = 48 := by rw [gotN, if_pos hR.1, hR.2.1]; rfl
      have HR := hid (And.intro eG hR.2.2)
      clear hR eG hA
      rcases (show p + ((48 : Nat) : Int) < n ∨ p + ((48 : Nat) : Int) = n by omega) with t | t
      · have t1 : (p + 48 < n) = True := eq_true t
        clear t
        go_wp2
        go_ret2
        exact ⟨by rw [HR.out.1, HR.out.2]; rfl, hbr⟩
      · have t1 : (p + 48 < n) = False := eq_false (by omega)
        clear t
        go_wp2
        go_ret2
        exact ⟨by rw [HR.out.1, HR.out.2]; rfl, hbr⟩
    · have hlt : j < 48 := by omega
      have t3 : ((j : Int) = 48) = False := eq_false (by omega)
      rcases (show p + (j : Int) < n ∨ p + (j : Int) = n by omega) with t | t
      · have t1 : (p + (j : Int) < n) = True := eq_true t
        have t4 : (n ≤ p + (j : Int)) = False := eq_false (by omega)
        have hcall := hA (p + j) wr hbr (by omega) (by omega)
        obtain ⟨gE, gN⟩ := get_is (xs := xs) hok (show 0 ≤ p + j by omega) t
        obtain ⟨z, hz⟩ : ∃ z, val xs / p2 (p + j) % 2 = z := ⟨_, rfl⟩
        rw [hz] at hcall gN
        by_cases hz1 : z = 1
        · subst hz1
          have HI := hid (rdInv_more hinv.out hlt gE gN)
          clear gE gN hz t
          go_wp2_with (go_at_call 41; refine hcall.mono ?_; rintro e w2 ⟨rfl, hb2⟩)
          go_roundw
          case rel => exact ⟨j + 1, by go_num, HI, by omega, by have h := t1; simp at h; omega, (Box2.mk c0 c1 c2 c3).below hb2 hsr, hbr.trans (hb2.mono hbr.size), Nat.lt_of_lt_of_le hsr hb2.size⟩
          case measure => simp [intOf]; omega
        · have t5 : (z == 1) = false := beq_eq_false_iff_ne.2 hz1
          have hR := rdInv_got hinv.out hlt gE (by rw [gN]; exact hz1)
          have eG : gotN xs n p = j := by rw [gotN, if_pos hR.1, hR.2.1]
          have HR := hid (And.intro eG hR.2.2)
          clear gE gN hz t hR eG
          go_wp2_with (go_at_call 41; refine hcall.mono ?_; rintro e w2 ⟨rfl, hb2⟩; obtain ⟨d0, d1, d2, d3⟩ := (Box2.mk c0 c1 c2 c3).below hb2 hsr; clear c0 c1 c2 c3)
          go_ret2
          exact ⟨by rw [HR.out.1, HR.out.2]; rfl, hbr.trans (hb2.mono hbr.size)⟩
      · have t1 : (p + (j : Int) < n) = False := eq_false (by omega)
        have t4 : (n ≤ p + (j : Int)) = True := eq_true (by omega)
        have hE : getE xs n (p + j) 1 = 24 := by rw [getE, if_pos hok, if_neg (by omega), if_pos (by omega)]
        have hR := rdInv_stop hby hinv.out hlt (by rw [hE]; decide)
        rw [hE] at hR
        have eG : gotN xs n p = -1 := by rw [gotN, if_neg (by rw [hR]; decide)]
        have eX : rdX xs n p = 0 := by rw [rdX, if_neg (by rw [hR]; decide)]
        have HR := hid (And.intro eG eX)
        clear hE hR eG eX t hA
        go_wp2
        go_ret2
        exact ⟨by rw [HR.out.1, HR.out.2]; rfl, hbr⟩

end Go.Proofs.Ytogoiolpngbodaa.R06

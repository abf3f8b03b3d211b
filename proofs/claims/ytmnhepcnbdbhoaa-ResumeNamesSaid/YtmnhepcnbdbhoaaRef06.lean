/- What the reference's functions of layer 6 return: walks of their Go text. -/
import Derived.Test.YtmnhepcnbdbhoaaGR2
import Derived.Test.YtmnhepcnbdbhoaaUnary
import Derived.Deep.QuietTactic
import Derived.BigQuiet
namespace Go.Proofs.Ytmnhepcnbdbhoaa.R06
open Go.Proofs Go.RowKit Go.Proofs.Ytmnhepcnbdbhoaa.Kit Go.Proofs.Ytmnhepcnbdbhoaa.M01 Go.Proofs.Ytmnhepcnbdbhoaa.M02 Go.Proofs.Ytmnhepcnbdbhoaa.M06 Go.Proofs.Ytmnhepcnbdbhoaa.Bt Go.Proofs.Ytmnhepcnbdbhoaa.R02 Go.Proofs.Ytmnhepcnbdbhoaa.Un
set_option linter.unusedVariables false



theorem own_ne {w : World} {base : Nat} {a : Option Addr} {n cap : Nat} {xs : List Int} {g : Nat} {cs : Array Value} (h : OwnI .u8 w base 5 (.slice a n cap) xs) (hb : w.heap[g]? = some (.cells cs 27)) : (Value.slice a n cap).ownBlock ≠ some g := by
  rcases h.2 with ⟨h', _⟩ | ⟨g', c, cur, h', _⟩
  · cases h'; simp [Value.ownBlock]
  · rw [h'] at h
    have := h.apart hb (by decide)
    rw [h']; simp [Value.ownBlock]; omega

theorem ones_step {V n i : Int} (hn : 0 ≤ n) (hi : 0 ≤ i) : V + (p2 i - 1) * p2 n + 1 * p2 (n + i) = V + (p2 (i + 1) - 1) * p2 n := by
  rw [p2_add hi (by omega), p2_add hn hi, show p2 1 = 2 from rfl, Int.sub_mul, Int.sub_mul, Int.mul_comm (p2 n) (p2 i), Int.one_mul, Int.one_mul, Int.mul_right_comm (p2 i) 2]; omega

theorem ones_lt {V n i : Int} (hn : 0 ≤ n) (hi : 0 ≤ i) (h0 : 0 ≤ V) (h1 : V < p2 n) : 0 ≤ V + (p2 i - 1) * p2 n ∧ V + (p2 i - 1) * p2 n < p2 (n + i) := by
  have hp := p2_pos i
  have hq := p2_pos n
  have := Int.mul_nonneg (show 0 ≤ p2 i - 1 by omega) (show 0 ≤ p2 n by omega)
  exact ⟨by omega, join_lt hn hi h1 (by omega)⟩



theorem get_is {xs : List Int} {n p : Int} (hok : okB xs n = true) (h0 : 0 ≤ p) (h1 : p < n) : getE xs n p 1 = 0 ∧ getN xs n p 1 = val xs / p2 p % 2 := by
  have e : getE xs n p 1 = 0 := by rw [getE, if_pos hok, if_neg (by omega), if_neg (by omega)]
  exact ⟨e, by rw [getN, if_pos e]; rfl⟩

/-- What Got returns: -1 where the bits end before the run. -/
def gotN (xs : List Int) (n p : Int) : Int := if rdE xs n p = 0 then rdN xs n p else -1

set_option maxHeartbeats 4000000 in
theorem rgot_any (a : Option Addr) (len cap : Nat) (xs : List Int) (n p : Int) (w : World) (hr : RowIn .u8 w a len cap xs) (hok : okB xs n = true) (h0 : 0 ≤ p) (h1 : p < n) :
    Calls Try.prog 70 #[bv a len cap n, .int .i64 p] w fun e w' => e = .returned (.tuple #[.int .i64 (gotN xs n p), .int .i64 (rdX xs n p)]) ∧ Below w.heap.size w w' := by
  obtain ⟨hn0, hn1, hxl, hval⟩ := okB_iff.1 hok
  have hll := hr.hl
  have hby := byte_of hr.rd
  have hA := fun i w' (hb : Below w.heap.size w w') h1 h2 => at_any a len cap xs n i w' (hr.same hb) h1 h2 (by omega)
  have b0 := Box2.of (blk1 w (.cells #[.slice a len cap, .int .i64 n] 27))
  have hbe := below1 w (.cells #[.slice a len cap, .int .i64 n] 27)
  have hsz := size1 w (.cells #[.slice a len cap, .int .i64 n] 27)
  have hlb : n ≤ 8 * (len : Int) := by omega
  unfold bv at hA ⊢
  go_enter Try.func70, Try.ntmps70
  go_wp2
  generalize w.alloc (.cells #[.slice a len cap, .int .i64 n] 27) = w1 at *
  go_loopw [6] (fun t wr => ∃ j : Nat, t = .int .i64 j ∧ Hid (rdInv xs n p j) ∧ j ≤ 48 ∧ p + j ≤ n ∧ Box2 wr w.heap.size (.slice a len cap) (.int .i64 n) ∧ Below w.heap.size w wr ∧ w.heap.size < wr.heap.size) (fun t _ => 48 - (intOf t).toNat)
  case atStart => exact ⟨0, by go_num, hid (rdInv_start xs n p), by omega, by omega, b0, hbe, by omega⟩
  case round =>
    obtain ⟨j, rfl, hinv, hj48, hpj, ⟨c0, c1, c2, c3⟩, hbr, hsr⟩ := hrel
    clear b0 hbe hsz
    by_cases h48 : j = 48
    · subst h48
      have hR := rdInv_full hinv.out rfl
      have eG : gotN xs n p = 48 := by rw [gotN, if_pos hR.1, hR.2.1]; rfl
      have HR := hid (And.intro eG hR.2.2)
      clear hR eG hA
      rcases (show p + ((48 : Nat) : Int) < n ∨ p + ((48 : Nat) : Int) = n by omega) with t | t
      · have t1 : (p + 48 < n) = True := eq_true t
        clear t
        go_wp2
        go_ret2
        exact ⟨by rw [HR.out.1, HR.out.2]; rfl, hbr⟩
      · have t1 : (p + 48 < n) = False := eq_false (by omega)
        clear t
        go_wp2
        go_ret2
        exact ⟨by rw [HR.out.1, HR.out.2]; rfl, hbr⟩
    · have hlt : j < 48 := by omega
      have t3 : ((j : Int) = 48) = False := eq_false (by omega)
      rcases (show p + (j : Int) < n ∨ p + (j : Int) = n by omega) with t | t
      · have t1 : (p + (j : Int) < n) = True := eq_true t
        have t4 : (n ≤ p + (j : Int)) = False := eq_false (by omega)
        have hcall := hA (p + j) wr hbr (by omega) (by omega)
        obtain ⟨gE, gN⟩ := get_is (xs := xs) hok (show 0 ≤ p + j by omega) t
        obtain ⟨z, hz⟩ : ∃ z, val xs / p2 (p + j) % 2 = z := ⟨_, rfl⟩
        rw [hz] at hcall gN
        by_cases hz1 : z = 1
        · subst hz1
          have HI := hid (rdInv_more hinv.out hlt gE gN)
          clear gE gN hz t
          go_wp2_with (go_at_call 55; refine hcall.mono ?_; rintro e w2 ⟨rfl, hb2⟩)
          go_roundw
          case rel => exact ⟨j + 1, by go_num, HI, by omega, by have h := t1; simp at h; omega, (Box2.mk c0 c1 c2 c3).below hb2 hsr, hbr.trans (hb2.mono hbr.size), Nat.lt_of_lt_of_le hsr hb2.size⟩
          case measure => simp [intOf]; omega
        · have t5 : (z == 1) = false := beq_eq_false_iff_ne.2 hz1
          have hR := rdInv_got hinv.out hlt gE (by rw [gN]; exact hz1)
          have eG : gotN xs n p = j := by rw [gotN, if_pos hR.1, hR.2.1]
          have HR := hid (And.intro eG hR.2.2)
          clear gE gN hz t hR eG
          go_wp2_with (go_at_call 55; refine hcall.mono ?_; rintro e w2 ⟨rfl, hb2⟩; obtain ⟨d0, d1, d2, d3⟩ := (Box2.mk c0 c1 c2 c3).below hb2 hsr; clear c0 c1 c2 c3)
          go_ret2
          exact ⟨by rw [HR.out.1, HR.out.2]; rfl, hbr.trans (hb2.mono hbr.size)⟩
      · have t1 : (p + (j : Int) < n) = False := eq_false (by omega)
        have t4 : (n ≤ p + (j : Int)) = True := eq_true (by omega)
        have hE : getE xs n (p + j) 1 = 24 := by rw [getE, if_pos hok, if_neg (by omega), if_pos (by omega)]
        have hR := rdInv_stop hby hinv.out hlt (by rw [hE]; decide)
        rw [hE] at hR
        have eG : gotN xs n p = -1 := by rw [gotN, if_neg (by rw [hR]; decide)]
        have eX : rdX xs n p = 0 := by rw [rdX, if_neg (by rw [hR]; decide)]
        have HR := hid (And.intro eG eX)
        clear hE hR eG eX t hA
        go_wp2
        go_ret2
        exact ⟨by rw [HR.out.1, HR.out.2]; rfl, hbr⟩

end Go.Proofs.Ytmnhepcnbdbhoaa.R06

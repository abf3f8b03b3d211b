/- The reference of layer 2: comparing, cutting, filling up. -/
import Derived.Test.YtbhoodhcipegbaaRef02d
namespace Go.Proofs.Ytbhoodhcipegbaa.R02
open Go.RowKit Go.Proofs.Ytbhoodhcipegbaa.Kit Go.Proofs.Ytbhoodhcipegbaa.M01 Go.Proofs.Ytbhoodhcipegbaa.M02 Go.Proofs.Ytbhoodhcipegbaa.Bt
set_option linter.unusedVariables false

def sameB (xs : List Int) (n : Int) (ys : List Int) (m : Int) : Bool := decide (n = m ∧ xs = ys)

set_option maxHeartbeats 4000000 in
theorem same_any (a : Option Addr) (len cap : Nat) (xs : List Int) (n : Int) (b : Option Addr) (blen bcap : Nat) (ys : List Int) (m : Int) (w : World) (hr : RowIn .u8 w a len cap xs) (hrb : RowIn .u8 w b blen bcap ys) :
    Calls Try.prog 26 #[bv a len cap n, bv b blen bcap m] w fun e w' => e = .returned (.bool (sameB xs n ys m)) ∧ Below w.heap.size w w' := by
  have hs1 := (((hr.rd.alloc (.cells #[.slice a len cap, .int .i64 n] 24)).alloc (.cells #[.slice b blen bcap, .int .i64 m] 24)).strD len cap hr.hl Try.underlying22 Try.underlying5 Try.underlying9).1
  have hs2 := (((hrb.rd.alloc (.cells #[.slice a len cap, .int .i64 n] 24)).alloc (.cells #[.slice b blen bcap, .int .i64 m] 24)).strD blen bcap hrb.hl Try.underlying22 Try.underlying5 Try.underlying9).1
  have hbeq := beq_bstr hr.rd.2.2 hrb.rd.2.2
  by_cases h : n = m
  · subst h
    have e : sameB xs n ys n = decide (xs = ys) := by simp [sameB]
    rw [e]
    unfold bv
    go_enter Try.func26, Try.ntmps26
    go_wp2
    go_ret
    exact ⟨rfl, below2 _ _ _⟩
  · have e : sameB xs n ys m = false := by simp [sameB, h]
    rw [e]
    have f1 : (n = m) = False := eq_false h
    unfold bv
    go_enter Try.func26, Try.ntmps26
    go_wp2
    go_ret
    exact ⟨rfl, below2 _ _ _⟩

end Go.Proofs.Ytbhoodhcipegbaa.R02

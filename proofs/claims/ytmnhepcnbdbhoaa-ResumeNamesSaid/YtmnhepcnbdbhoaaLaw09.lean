/- The laws of layer 9: the chapter's examples. -/
import Derived.Test.YtmnhepcnbdbhoaaLaw06
import Derived.Test.YtmnhepcnbdbhoaaGC
import Derived.Test.YtmnhepcnbdbhoaaGR9
namespace Go.Proofs.Ytmnhepcnbdbhoaa.Wk
open Go.Proofs Go.RowKit Go.Proofs.Ytmnhepcnbdbhoaa.Kit Go.Proofs.Ytmnhepcnbdbhoaa.M01 Go.Proofs.Ytmnhepcnbdbhoaa.M02 Go.Proofs.Ytmnhepcnbdbhoaa.M05 Go.Proofs.Ytmnhepcnbdbhoaa.M06 Go.Proofs.Ytmnhepcnbdbhoaa.M07 Go.Proofs.Ytmnhepcnbdbhoaa.M08 Go.Proofs.Ytmnhepcnbdbhoaa.M09 Go.Proofs.Ytmnhepcnbdbhoaa.Bt Go.Proofs.Ytmnhepcnbdbhoaa.R02 Go.Proofs.Ytmnhepcnbdbhoaa.Co Go.Proofs.Ytmnhepcnbdbhoaa.R09
set_option linter.unusedVariables false
set_option linter.unusedSimpArgs false


theorem same9b (a : Option Addr) (len cap : Nat) (xs : List Int) (b : Option Addr) (blen bcap : Nat) (ys : List Int) (w : World) (r : RowIn .u32 w a len cap xs) (r2 : RowIn .u32 w b blen bcap ys) :
    Calls Try.prog 13 #[.slice a len cap, .slice b blen bcap] w fun e w' => e = .returned (.bool (sameL xs ys)) ∧ Below w.heap.size w w' :=
  (same9_any a len cap xs b blen bcap ys w r r2).mono (fun e w' h => ⟨h.1, by obtain ⟨q, rfl⟩ := h.2; exact below_drewN (Below.refl _ _) q⟩)
theorem rowK {k : IntKind} {w : World} {a : Option Addr} {len cap : Nat} {xs : List Int} {g i : Nat} {u : Value} (h : RowIn k w a len cap xs) (hne : xs ≠ [] → ∀ x, a = some x → x.block ≠ g) : RowIn k (w.setCell ⟨g, i, none⟩ u) a len cap xs := by
  by_cases hx : xs = []
  · subst hx; exact ⟨Reads.nil, h.hl, h.hc, h.hm⟩
  · exact h.set (hne hx)
theorem rowLit {k : IntKind} (w : World) (T : TypeId) (xs : List Int) (C : Array Value) (n : Nat) (hn : xs.length = n) (hC : C = (xs.map (Value.int k)).toArray) (hm : xs.length ≤ maxLen) (hw : ∀ x ∈ xs, (Lit.int k x).wf = true) : RowIn k (w.alloc (.cells C T)) (some ⟨w.heap.size, 0, none⟩) n n xs := by
  subst hC hn
  exact (OwnI.lit w 0 T xs (Nat.zero_le _) hm).rowLit hw
theorem ex9 (w : World) : RowIn .u32 (w.alloc (.cells #[.int .u32 5, .int .u32 2000] 40)) (some ⟨w.heap.size, 0, none⟩) 2 2 [5, 2000] :=
  rowLit w _ [5, 2000] _ 2 rfl rfl (by unfold maxLen; simp) (by decide)

end Go.Proofs.Ytmnhepcnbdbhoaa.Wk

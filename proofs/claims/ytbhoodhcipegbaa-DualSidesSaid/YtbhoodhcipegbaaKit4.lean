/- More of what a walk is told of slices: literals of bytes made from a string. No Go here. -/
import Derived.Test.YtbhoodhcipegbaaKit3
import Derived.Lib.SlBytesConst
import Derived.Lib.SmallJoins
namespace Go.Proofs.Ytbhoodhcipegbaa.Kit
open Go.RowKit

/-- '[]byte("..")': the row behind its mark. -/
theorem litMark {k : IntKind} (w : World) (e : TypeId) (xs : List Int) (n : Nat) (C : Array Value) (fr : Nat × Nat) (hn : xs.length = n) (hC : C = (xs.map (Value.int k)).toArray) (hm : xs.length ≤ maxLen) (hw : ∀ x ∈ xs, (Lit.int k x).wf = true) :
    RowIn k (w.alloc (.cells C e fr)) (some ⟨w.heap.size, 0, none⟩) n n xs := by
  subst hC hn
  refine ⟨⟨.inr ⟨_, _, rfl, fun i hi => ?_⟩, hm, hw⟩, rfl, Nat.le_refl _, by unfold maxLen at hm; exact hm⟩
  rw [Nat.zero_add, World.cell?_alloc_mark]
  simp [List.getD_eq_getElem?_getD, hi]
end Go.Proofs.Ytbhoodhcipegbaa.Kit

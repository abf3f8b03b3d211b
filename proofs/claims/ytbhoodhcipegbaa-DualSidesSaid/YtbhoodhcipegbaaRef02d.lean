/- The reference of layer 2: bits between. -/
import Derived.Test.YtbhoodhcipegbaaRef02c
import Derived.Deep.RegionWith
namespace Go.Proofs.Ytbhoodhcipegbaa.R02
open Go.RowKit Go.Proofs.Ytbhoodhcipegbaa.Kit Go.Proofs.Ytbhoodhcipegbaa.M01 Go.Proofs.Ytbhoodhcipegbaa.M02 Go.Proofs.Ytbhoodhcipegbaa.Bt
set_option linter.unusedVariables false

theorem blk3x (w : World) (A B C : Obj) : (((w.alloc A).alloc B).alloc C).heap[w.heap.size]? = some A ∧ (((w.alloc A).alloc B).alloc C).heap[w.heap.size + 1]? = some B ∧ (((w.alloc A).alloc B).alloc C).heap[w.heap.size + 2]? = some C ∧ (((w.alloc A).alloc B).alloc C).heap.size = w.heap.size + 3 ∧ Below w.heap.size w (((w.alloc A).alloc B).alloc C) :=
  ⟨blk3a w A B C, blk3b w A B C, blk3 w A B C, by simp, below3 w A B C⟩

theorem OwnI_nil_bl {w : World} {base : Nat} {e : TypeId} {V : Int} : OwnI .u8 w base e (.slice none 0 0) (bl 0 V) := OwnI.nil

end Go.Proofs.Ytbhoodhcipegbaa.R02

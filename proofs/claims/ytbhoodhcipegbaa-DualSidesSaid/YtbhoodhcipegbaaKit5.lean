/- Blocks of four cells, and results of several cells. No Go here. -/
import Derived.Test.YtbhoodhcipegbaaKit4
namespace Go.Proofs.Ytbhoodhcipegbaa.Kit
open Go.RowKit
set_option linter.unusedSimpArgs false

/-- A block of four cells that holds these. -/
structure Box4 (w : World) (g : Nat) (p q r s : Value) : Prop where
  c0 : w.cell? ⟨g, 0, none⟩ = some p
  c1 : w.cell? ⟨g, 1, none⟩ = some q
  c2 : w.cell? ⟨g, 2, none⟩ = some r
  c3 : w.cell? ⟨g, 3, none⟩ = some s
  f0 : w.frozen? ⟨g, 0, none⟩ = false
  f1 : w.frozen? ⟨g, 1, none⟩ = false
  f2 : w.frozen? ⟨g, 2, none⟩ = false
  f3 : w.frozen? ⟨g, 3, none⟩ = false

theorem Box4.of {w : World} {g : Nat} {p q r s : Value} {t : TypeId} (h : w.heap[g]? = some (.cells #[p, q, r, s] t)) : Box4 w g p q r s :=
  ⟨by simp [World.cell?, h], by simp [World.cell?, h], by simp [World.cell?, h], by simp [World.cell?, h], by simp [World.frozen?, h], by simp [World.frozen?, h], by simp [World.frozen?, h], by simp [World.frozen?, h]⟩

theorem Box4.block {w w' : World} {g : Nat} {p q r s : Value} (h : Box4 w g p q r s) (e : w'.heap[g]? = w.heap[g]?) : Box4 w' g p q r s := by
  have ec : ∀ i, w'.cell? ⟨g, i, none⟩ = w.cell? ⟨g, i, none⟩ := fun i => World.cell?_of_block e
  have ef : ∀ i, w'.frozen? ⟨g, i, none⟩ = w.frozen? ⟨g, i, none⟩ := fun i => World.frozen?_of_block e
  exact ⟨by rw [ec]; exact h.c0, by rw [ec]; exact h.c1, by rw [ec]; exact h.c2, by rw [ec]; exact h.c3, by rw [ef]; exact h.f0, by rw [ef]; exact h.f1, by rw [ef]; exact h.f2, by rw [ef]; exact h.f3⟩

theorem Box4.below {w w' : World} {g B : Nat} {p q r s : Value} (h : Box4 w g p q r s) (hb : Below B w w') (hg : g < B) : Box4 w' g p q r s := h.block (hb.block g hg)
theorem Box4.set {w : World} {g g' i : Nat} {p q r s x : Value} (h : Box4 w g p q r s) (hne : g ≠ g') : Box4 (w.setCell ⟨g', i, none⟩ x) g p q r s := h.block (Below.heap_setCell w ⟨g', i, none⟩ x g hne)
theorem Box4.lt {w : World} {g : Nat} {p q r s : Value} (h : Box4 w g p q r s) : g < w.heap.size := World.block_lt_of_cell? w _ h.c0

/-- A store into one of them. -/
theorem cell_put {w : World} {g i : Nat} {u x : Value} (h : w.cell? ⟨g, i, none⟩ = some u) : (w.setCell ⟨g, i, none⟩ x).cell? ⟨g, i, none⟩ = some x := World.cell?_setCell_same (u := u) (h := h) ..
theorem cell_keep {w : World} {g i j : Nat} {u x : Value} (h : w.cell? ⟨g, i, none⟩ = some u) (hne : i ≠ j) : (w.setCell ⟨g, j, none⟩ x).cell? ⟨g, i, none⟩ = some u := by
  have n1 : (⟨g, j, none⟩ : Addr) ≠ ⟨g, i, none⟩ := by intro h; cases h; exact hne rfl
  exact (World.cell?_setCell_other (h := n1) ..).trans h
theorem frozen_keep {w : World} {g i j : Nat} {b : Bool} {x : Value} (h : w.frozen? ⟨g, i, none⟩ = b) : (w.setCell ⟨g, j, none⟩ x).frozen? ⟨g, i, none⟩ = b := by rw [World.frozen?_setCell]; exact h
theorem Box4.put0 {w : World} {g : Nat} {p q r s : Value} (h : Box4 w g p q r s) (x : Value) : Box4 (w.setCell ⟨g, 0, none⟩ x) g x q r s := ⟨cell_put h.c0, cell_keep h.c1 (by decide), cell_keep h.c2 (by decide), cell_keep h.c3 (by decide), frozen_keep h.f0, frozen_keep h.f1, frozen_keep h.f2, frozen_keep h.f3⟩
theorem Box4.put1 {w : World} {g : Nat} {p q r s : Value} (h : Box4 w g p q r s) (x : Value) : Box4 (w.setCell ⟨g, 1, none⟩ x) g p x r s := ⟨cell_keep h.c0 (by decide), cell_put h.c1, cell_keep h.c2 (by decide), cell_keep h.c3 (by decide), frozen_keep h.f0, frozen_keep h.f1, frozen_keep h.f2, frozen_keep h.f3⟩
theorem Box4.put2 {w : World} {g : Nat} {p q r s : Value} (h : Box4 w g p q r s) (x : Value) : Box4 (w.setCell ⟨g, 2, none⟩ x) g p q x s := ⟨cell_keep h.c0 (by decide), cell_keep h.c1 (by decide), cell_put h.c2, cell_keep h.c3 (by decide), frozen_keep h.f0, frozen_keep h.f1, frozen_keep h.f2, frozen_keep h.f3⟩
theorem Box4.put3 {w : World} {g : Nat} {p q r s : Value} (h : Box4 w g p q r s) (x : Value) : Box4 (w.setCell ⟨g, 3, none⟩ x) g p q r x := ⟨cell_keep h.c0 (by decide), cell_keep h.c1 (by decide), cell_keep h.c2 (by decide), cell_put h.c3, frozen_keep h.f0, frozen_keep h.f1, frozen_keep h.f2, frozen_keep h.f3⟩
theorem Box4.putAll {w : World} {g : Nat} {p q r s : Value} (h : Box4 w g p q r s) (p' q' r' s' : Value) : Box4 ((((w.setCell ⟨g, 0, none⟩ p').setCell ⟨g, 1, none⟩ q').setCell ⟨g, 2, none⟩ r').setCell ⟨g, 3, none⟩ s') g p' q' r' s' := (((h.put0 p').put1 q').put2 r').put3 s'
/-- Four stores leave what lies below. -/
theorem Below.set4 {w w' : World} {B g : Nat} (h : Below B w w') (hg : B ≤ g) (p q r s : Value) : Below B w ((((w'.setCell ⟨g, 0, none⟩ p).setCell ⟨g, 1, none⟩ q).setCell ⟨g, 2, none⟩ r).setCell ⟨g, 3, none⟩ s) :=
  (((h.setCell (by dsimp only; omega) _).setCell (by dsimp only; omega) _).setCell (by dsimp only; omega) _).setCell (by dsimp only; omega) _
theorem Below.set2 {w w' : World} {B g : Nat} (h : Below B w w') (hg : B ≤ g) (p q : Value) : Below B w ((w'.setCell ⟨g, 0, none⟩ p).setCell ⟨g, 1, none⟩ q) :=
  (h.setCell (by dsimp only; omega) _).setCell (by dsimp only; omega) _
theorem cellS1 {w : World} {a : Addr} {u v : Value} {g i : Nat} (h : w.cell? a = some u) (hne : a.block ≠ g) : (w.setCell ⟨g, i, none⟩ v).cell? a = some u := by
  rw [World.cell?_of_block (Below.heap_setCell w ⟨g, i, none⟩ v a.block hne)]; exact h
theorem cellS2 {w : World} {a : Addr} {u v x : Value} {g i j : Nat} (h : w.cell? a = some u) (hne : a.block ≠ g) : ((w.setCell ⟨g, i, none⟩ v).setCell ⟨g, j, none⟩ x).cell? a = some u := cellS1 (cellS1 h hne) hne
theorem size4 (w : World) (A B C D : Obj) : ((((w.alloc A).alloc B).alloc C).alloc D).heap.size = w.heap.size + 4 := by simp
theorem below4 (w : World) (A B C D : Obj) : Below w.heap.size w ((((w.alloc A).alloc B).alloc C).alloc D) := (below3 w A B C).alloc (by simp; omega) _
theorem blk4 (w : World) (A B C D : Obj) : ((((w.alloc A).alloc B).alloc C).alloc D).heap[w.heap.size + 3]? = some D := by
  have h : (((w.alloc A).alloc B).alloc C).heap.size = w.heap.size + 3 := by simp
  rw [← h]; exact blk1 _ _
theorem blk4a (w : World) (A B C D : Obj) : ((((w.alloc A).alloc B).alloc C).alloc D).heap[w.heap.size]? = some A := blkOld _ (blk3a w A B C)
theorem blk4b (w : World) (A B C D : Obj) : ((((w.alloc A).alloc B).alloc C).alloc D).heap[w.heap.size + 1]? = some B := blkOld _ (blk3b w A B C)
theorem blk4c (w : World) (A B C D : Obj) : ((((w.alloc A).alloc B).alloc C).alloc D).heap[w.heap.size + 2]? = some C := blkOld _ (blk3 w A B C)
theorem Box2.drew {w : World} {g : Nat} {u v : Value} (h : Box2 w g u v) : Box2 w.drew g u v := ⟨h.c0, h.c1, h.f0, h.f1⟩
theorem Box4.drew {w : World} {g : Nat} {p q r s : Value} (h : Box4 w g p q r s) : Box4 w.drew g p q r s := ⟨h.c0, h.c1, h.c2, h.c3, h.f0, h.f1, h.f2, h.f3⟩
theorem RowIn.drew {k : IntKind} {w : World} {a : Option Addr} {len cap : Nat} {xs : List Int} (h : RowIn k w a len cap xs) : RowIn k w.drew a len cap xs := h.same (Below.refl _ _).drew
end Go.Proofs.Ytbhoodhcipegbaa.Kit

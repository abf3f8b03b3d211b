/- What stands behind a region that draws its order: cells, blocks and rows behind stores and new blocks, as rules for simp only and for repeat. No Go here. -/
import Derived.Test.YtbhoodhcipegbaaKit5
namespace Go.Proofs.Ytbhoodhcipegbaa.Kit
open Go.RowKit
set_option linter.unusedSimpArgs false

theorem kS {w : World} {a : Addr} {g i : Nat} {v : Value} (h : a.block ≠ g) : (w.setCell ⟨g, i, none⟩ v).cell? a = w.cell? a := World.cell?_of_block (Below.heap_setCell w ⟨g, i, none⟩ v a.block h)
theorem kA {w : World} {a : Addr} {o : Obj} (h : a.block < w.heap.size) : (w.alloc o).cell? a = w.cell? a := World.cell?_of_block ((below1 w o).block a.block h)
theorem kD {w : World} {a : Addr} : w.drew.cell? a = w.cell? a := rfl
theorem bA {w w' : World} {B : Nat} {o : Obj} (h : Below B w w') (hs : B ≤ w'.heap.size) : Below B w (w'.alloc o) := h.alloc hs o
theorem bS {w w' : World} {B g i : Nat} {v : Value} (h : Below B w w') (hg : B ≤ g) : Below B w (w'.setCell ⟨g, i, none⟩ v) := h.setCell (by dsimp only; omega) v
theorem box2_lt {w : World} {g : Nat} {u v : Value} (h : Box2 w g u v) : g < w.heap.size := World.block_lt_of_cell? w _ h.c0
theorem box2A {w : World} {g : Nat} {u v : Value} {o : Obj} (h : Box2 w g u v) : Box2 (w.alloc o) g u v := h.below (below1 w o) (box2_lt h)
theorem box4A {w : World} {g : Nat} {p q r s : Value} {o : Obj} (h : Box4 w g p q r s) : Box4 (w.alloc o) g p q r s := h.below (below1 w o) h.lt
theorem box2N {w : World} {g : Nat} {p q : Value} {t : TypeId} (h : g = w.heap.size) : Box2 (w.alloc (.cells #[p, q] t)) g p q := by subst h; exact Box2.of (blk1 _ _)
theorem box4N {w : World} {g : Nat} {p q r s : Value} {t : TypeId} (h : g = w.heap.size) : Box4 (w.alloc (.cells #[p, q, r, s] t)) g p q r s := by subst h; exact Box4.of (blk1 _ _)
theorem box2S {w : World} {g G i : Nat} {u v x : Value} (h : Box2 w g u v) (hne : g ≠ G) : Box2 (w.setCell ⟨G, i, none⟩ x) g u v := h.set hne
theorem box4S {w : World} {g G i : Nat} {p q r s x : Value} (h : Box4 w g p q r s) (hne : g ≠ G) : Box4 (w.setCell ⟨G, i, none⟩ x) g p q r s := h.set hne
/-- A block of two, or of four cells, whatever it holds. -/
def Blk2 (w : World) (g : Nat) : Prop := ∃ u v, Box2 w g u v
def Blk4 (w : World) (g : Nat) : Prop := ∃ p q r s, Box4 w g p q r s
theorem Blk2.of {w : World} {g : Nat} {u v : Value} (h : Box2 w g u v) : Blk2 w g := ⟨u, v, h⟩
theorem Blk4.of {w : World} {g : Nat} {p q r s : Value} (h : Box4 w g p q r s) : Blk4 w g := ⟨p, q, r, s, h⟩
theorem box2P {w : World} {g : Nat} {p q : Value} (h : Blk2 w g) : Box2 ((w.setCell ⟨g, 0, none⟩ p).setCell ⟨g, 1, none⟩ q) g p q := by obtain ⟨u, v, h⟩ := h; exact Box2.put h p q
theorem box4P {w : World} {g : Nat} {p q r s : Value} (h : Blk4 w g) : Box4 ((((w.setCell ⟨g, 0, none⟩ p).setCell ⟨g, 1, none⟩ q).setCell ⟨g, 2, none⟩ r).setCell ⟨g, 3, none⟩ s) g p q r s := by obtain ⟨a, b, c, d, h⟩ := h; exact h.putAll p q r s
theorem blk2S {w : World} {g G i : Nat} {x : Value} (h : Blk2 w g) (hne : g ≠ G) : Blk2 (w.setCell ⟨G, i, none⟩ x) g := by obtain ⟨u, v, h⟩ := h; exact ⟨u, v, h.set hne⟩
theorem blk4S {w : World} {g G i : Nat} {x : Value} (h : Blk4 w g) (hne : g ≠ G) : Blk4 (w.setCell ⟨G, i, none⟩ x) g := by obtain ⟨p, q, r, s, h⟩ := h; exact ⟨p, q, r, s, h.set hne⟩
theorem blk2A {w : World} {g : Nat} {o : Obj} (h : Blk2 w g) : Blk2 (w.alloc o) g := by obtain ⟨u, v, h⟩ := h; exact ⟨u, v, box2A h⟩
theorem blk4A {w : World} {g : Nat} {o : Obj} (h : Blk4 w g) : Blk4 (w.alloc o) g := by obtain ⟨p, q, r, s, h⟩ := h; exact ⟨p, q, r, s, box4A h⟩
theorem rowA {k : IntKind} {w : World} {a : Option Addr} {len cap : Nat} {xs : List Int} {o : Obj} (h : RowIn k w a len cap xs) : RowIn k (w.alloc o) a len cap xs := h.same (below1 w o)
theorem rowS {k : IntKind} {w : World} {a : Option Addr} {len cap : Nat} {xs : List Int} {g i : Nat} {u : Value} (h : RowIn k w a len cap xs) (hne : ∀ x, a = some x → x.block ≠ g) : RowIn k (w.setCell ⟨g, i, none⟩ u) a len cap xs := h.set hne
theorem cell_below {w w' : World} {B : Nat} {a : Addr} {u : Value} (h : w.cell? a = some u) (hb : Below B w w') (hl : a.block < B) : w'.cell? a = some u := by rw [hb.cell hl]; exact h
end Go.Proofs.Ytbhoodhcipegbaa.Kit

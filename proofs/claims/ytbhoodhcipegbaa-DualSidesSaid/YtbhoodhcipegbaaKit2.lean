/- Copying into a row of the call's own, and facts on cells. No program here. -/
import Derived.Test.YtbhoodhcipegbaaKit
import Derived.Laws.CopyOwn
namespace Go.Proofs.Ytbhoodhcipegbaa.Kit
open Go.RowKit
set_option linter.unusedSimpArgs false

theorem add_none (b off j : Nat) : (⟨b, off, none⟩ : Addr).add j = ⟨b, off + j, none⟩ := by unfold Addr.add; split <;> simp_all

/-- 'copy(s, t)': numbers over the first ones of a row of the call's own. -/
theorem copyI {P : Program} {ops : Array Oper} {rest : List Oper} {o : Oper} {a : Act} {Q : Exit → Act → World → Prop} {w : World} (hgd : o.guard = none) (d s : Operand) (t : TypeId)
    (ho : o.op = .call { callee := .builtin .copy, args := #[d, s], argTypes := #[t, t] }) (e : TypeId) (ht : P.underlying t = some (.slice e)) (hsz : (P.info? e).map (·.size) = some 1)
    (k : IntKind) (base g n cap : Nat) (xs : List Int) (hown : OwnI k w base e (.slice (some ⟨g, 0, none⟩) n cap) xs)
    (sa : Option Addr) (len scap : Nat) (ys : List Int) (hr : Reads k w sa ys) (hl : ys.length = len) (hle : len ≤ n) (hd : a.eval d = .slice (some ⟨g, 0, none⟩) n cap) (hs : a.eval s = .slice sa len scap)
    (h : ∀ w', OwnI k w' base e (.slice (some ⟨g, 0, none⟩) n cap) (ys ++ xs.drop len) → Below base w w' → wpList P ops Q rest (a.put o.dst (goInt len)) w') :
    wpList P ops Q (o :: rest) a w := by
  subst hl
  obtain ⟨hlen, hrow⟩ := hown
  rcases hrow with ⟨h', _⟩ | ⟨g', cap', cur, h', hb, hg, hnc, hcm, hcs, htk⟩
  · simp at h'
  · simp only [Value.slice.injEq, Option.some.injEq, Addr.mk.injEq, and_true, true_and] at h'
    obtain ⟨rfl, hn, rfl⟩ := h'
    subst hn
    have hcl : (ys.map (Value.int k)).length = ys.length := by simp
    refine wpList_copy_splice hgd d s t t ho e ht hsz _ sa xs.length cap ys.length scap hd hs g 0 cur.toList e (by simpa using hg) (ys.map (Value.int k)) (by rw [hcl]; exact (Nat.min_eq_left hle).symm) ?_ (by simp; omega) (by
      intro v hv; rw [List.mem_map] at hv; obtain ⟨_, _, rfl⟩ := hv; rfl) base w (Below.refl _ _) hb ?_
    · intro hp
      refine ⟨rfl, ?_⟩
      obtain ⟨b, off, rfl, hc⟩ := hr.cells (by intro h0; subst h0; simp at hp)
      refine ⟨_, rfl, fun j v hv => ?_⟩
      rw [List.getElem?_map] at hv
      have hj : j < ys.length := by
        rcases Nat.lt_or_ge j ys.length with hj | hj
        · exact hj
        · rw [List.getElem?_eq_none (by omega)] at hv; cases hv
      rw [List.getElem?_eq_getElem hj] at hv
      simp only [Option.map_some, Option.some.injEq] at hv
      rw [add_none, hc j hj, List.getD_eq_getElem?_getD, List.getElem?_eq_getElem hj, ← hv]; rfl
    · intro w' hg' hbw
      rw [hcl]
      refine h w' ?_ hbw
      have hg' := hg'.out
      unfold OwnI World.ownsRow
      have hl2 : (ys ++ xs.drop ys.length).length = xs.length := by simp; omega
      refine ⟨by simp, .inr ⟨g, cap, (splice cur.toList 0 (ys.map (Value.int k))).toArray, by rw [hl2], hb, hg', by omega, hcm, ?_, ?_⟩⟩
      · simp only [List.size_toArray]; rw [length_splice _ _ _ (by simp; omega)]; simpa using hcs
      · rw [hl2, Nat.mul_one]
        rw [Nat.mul_one] at htk
        unfold splice
        simp only [List.take_zero, List.nil_append, Nat.zero_add, List.map_append, hcl]
        rw [List.take_append, hcl, List.take_of_length_le (by simp; omega)]
        congr 1
        rw [List.map_drop, ← htk, List.drop_take]

theorem blk1 (w : World) (A : Obj) : (w.alloc A).heap[w.heap.size]? = some A := by unfold World.alloc; simp
theorem blk2 (w : World) (A B : Obj) : ((w.alloc A).alloc B).heap[w.heap.size + 1]? = some B := by
  have h : (w.alloc A).heap.size = w.heap.size + 1 := by simp
  rw [← h]; exact blk1 _ _
theorem blk2a (w : World) (A B : Obj) : ((w.alloc A).alloc B).heap[w.heap.size]? = some A := by
  have h : w.heap.size < (w.alloc A).heap.size := by simp
  have h2 : ((w.alloc A).alloc B).heap[w.heap.size]? = (w.alloc A).heap[w.heap.size]? := by
    generalize w.alloc A = W at *
    unfold World.alloc; simp [Array.getElem?_push]; omega
  rw [h2]; exact blk1 w A


theorem blkOld {w : World} {k : Nat} {o : Obj} (A : Obj) (h : w.heap[k]? = some o) : (w.alloc A).heap[k]? = some o := by
  have hk : k < w.heap.size := (Array.getElem?_eq_some_iff.1 h).1
  rw [← h]; unfold World.alloc; simp [Array.getElem?_push]; omega
theorem blk3 (w : World) (A B C : Obj) : (((w.alloc A).alloc B).alloc C).heap[w.heap.size + 2]? = some C := by
  have h : ((w.alloc A).alloc B).heap.size = w.heap.size + 2 := by simp
  rw [← h]; exact blk1 _ _
theorem blk3a (w : World) (A B C : Obj) : (((w.alloc A).alloc B).alloc C).heap[w.heap.size]? = some A := blkOld _ (blk2a w A B)
theorem blk3b (w : World) (A B C : Obj) : (((w.alloc A).alloc B).alloc C).heap[w.heap.size + 1]? = some B := blkOld _ (blk2 w A B)
theorem below2 (w : World) (A B : Obj) : Below w.heap.size w ((w.alloc A).alloc B) := ((Below.refl _ _).alloc (Nat.le_refl _) _).alloc (by simp) _
theorem below1 (w : World) (A : Obj) : Below w.heap.size w (w.alloc A) := (Below.refl _ _).alloc (Nat.le_refl _) _
theorem below3 (w : World) (A B C : Obj) : Below w.heap.size w (((w.alloc A).alloc B).alloc C) := (below2 w A B).alloc (by simp; omega) _
theorem cell1 {w : World} {g : Nat} {u : Value} {t : TypeId} (h : w.heap[g]? = some (.cells #[u] t)) : w.cell? ⟨g, 0, none⟩ = some u := by simp [World.cell?, h]

/-- A block of two cells that holds these. -/
structure Box2 (w : World) (g : Nat) (u v : Value) : Prop where
  c0 : w.cell? ⟨g, 0, none⟩ = some u
  c1 : w.cell? ⟨g, 1, none⟩ = some v
  f0 : w.frozen? ⟨g, 0, none⟩ = false
  f1 : w.frozen? ⟨g, 1, none⟩ = false

theorem Box2.of {w : World} {g : Nat} {u v : Value} {t : TypeId} (h : w.heap[g]? = some (.cells #[u, v] t)) : Box2 w g u v :=
  ⟨by simp [World.cell?, h], by simp [World.cell?, h], by simp [World.frozen?, h], by simp [World.frozen?, h]⟩

theorem Box2.below {w w' : World} {g B : Nat} {u v : Value} (h : Box2 w g u v) (hb : Below B w w') (hg : g < B) : Box2 w' g u v := by
  have e := hb.block g hg
  have ec : ∀ i, w'.cell? ⟨g, i, none⟩ = w.cell? ⟨g, i, none⟩ := fun i => World.cell?_of_block e
  have ef : ∀ i, w'.frozen? ⟨g, i, none⟩ = w.frozen? ⟨g, i, none⟩ := fun i => World.frozen?_of_block e
  exact ⟨by rw [ec]; exact h.c0, by rw [ec]; exact h.c1, by rw [ef]; exact h.f0, by rw [ef]; exact h.f1⟩

theorem grownBy_set (w : World) (g i : Nat) (v : Value) : w.grownBy (w.setCell ⟨g, i, none⟩ v) (some g) :=
  ⟨rfl, rfl, rfl, by simp, fun k hk hne => Below.heap_setCell w ⟨g, i, none⟩ v k (by intro h; subst h; exact hne rfl)⟩

theorem OwnI.other {k : IntKind} {w : World} {base : Nat} {e : TypeId} {v : Value} {xs : List Int} {g i : Nat} {u : Value} (h : OwnI k w base e v xs) (hne : v.ownBlock ≠ some g) : OwnI k (w.setCell ⟨g, i, none⟩ u) base e v xs :=
  World.ownsRow.kept h (grownBy_set w g i u) (.inr hne)

theorem results_cell1 {fn : Func} {p : Tmp} {ty : TypeId} (h : fn.results = #[.cell p ty]) (tmps : Array Value) (P : Program) (w : World) :
    (results fn tmps).run P w = ((asAddr (tmps.getD p undef)).run P w).andThen fun a w₁ => (loadVar ty a).run P w₁ := by
  simp only [results, h]
  simp [Sem.run_bind, Result.andThen]

theorem RowIn.set {k : IntKind} {w : World} {a : Option Addr} {len cap : Nat} {xs : List Int} {g i : Nat} {u : Value} (h : RowIn k w a len cap xs) (hne : ∀ x, a = some x → x.block ≠ g) : RowIn k (w.setCell ⟨g, i, none⟩ u) a len cap xs := by
  refine ⟨⟨?_, h.rd.2⟩, h.hl, h.hc, h.hm⟩
  rcases h.rd.1 with h1 | ⟨b, off, rfl, hc⟩
  · exact .inl h1
  · refine .inr ⟨b, off, rfl, fun j hj => ?_⟩
    rw [World.cell?_of_block (Below.heap_setCell w ⟨g, i, none⟩ u b (hne _ rfl))]
    exact hc j hj

theorem Box2.set {w : World} {g g' i : Nat} {u v x : Value} (h : Box2 w g u v) (hne : g ≠ g') : Box2 (w.setCell ⟨g', i, none⟩ x) g u v := by
  have e := Below.heap_setCell w ⟨g', i, none⟩ x g hne
  exact ⟨by rw [World.cell?_of_block e]; exact h.c0, by rw [World.cell?_of_block e]; exact h.c1, by rw [World.frozen?_of_block e]; exact h.f0, by rw [World.frozen?_of_block e]; exact h.f1⟩
end Go.Proofs.Ytbhoodhcipegbaa.Kit

/- Appending inside a region that draws its order. No program here. -/
import Derived.Test.YtbhoodhcipegbaaKit2
import Derived.Deep.AppendLies
namespace Go.Proofs.Ytbhoodhcipegbaa.Kit
open Go.RowKit
set_option linter.unusedSimpArgs false

theorem OwnI.mono {k : IntKind} {w : World} {base base' : Nat} {e : TypeId} {v : Value} {xs : List Int} (h : OwnI k w base e v xs) (hb : base' ≤ base) : OwnI k w base' e v xs := by
  obtain ⟨h1, h2⟩ := h
  refine ⟨h1, ?_⟩
  rcases h2 with h | ⟨g, cap, cur, hv, hg, r⟩
  · exact .inl h
  · exact .inr ⟨g, cap, cur, hv, Nat.le_trans hb hg, r⟩

theorem OwnI.far {k : IntKind} {w : World} {base : Nat} {e : TypeId} {v : Value} {xs : List Int} {g : Nat} (h : OwnI k w base e v xs) (hg : g < base) : v.ownBlock ≠ some g := by
  intro he
  have := (World.ownsRow.lt h g he).1
  omega

/-- 'append(s, b...)', one operation. -/
theorem appW {P : Program} {o : Oper} {a : Act} {K : Act → World → Prop} {Q : Exit → Act → World → Prop} {w : World} (s x : Operand) (t : TypeId)
    (ho : o.op = .call { callee := .builtin .append, args := #[s, x], argTypes := #[t, t] })
    (base : Nat) (e : TypeId) (i : TypeInfo) (z : Value) (bytes : Nat) (ht : P.underlying t = some (.slice e)) (hi : P.info? e = some i) (hz : i.zero = some z)
    (hsize : i.size = 1) (hby : i.bytes = bytes) (hzs : z.cells.size = 1)
    (k : IntKind) (v : Value) (xs : List Int) (hown : OwnI k w base e v xs) (sa : Option Addr) (len cap : Nat) (ys : List Int) (hr : Reads k w sa ys) (hl : ys.length = len) (hs : a.eval s = v) (hx : a.eval x = .slice sa len cap) (hbase : base ≤ w.heap.size)
    (hbytes : (xs.length + len) * bytes ≤ 140737488355328) (h63 : xs.length + len ≤ 140737488355328)
    (h : ∀ v' w', OwnI k w' base e v' (xs ++ ys) → w.grownBy w' v.ownBlock → Below base w w' → K (a.put o.dst v') w') :
    o.wp P a w K Q := by
  subst hl
  have hown' : w.ownsRow base e 1 v xs.length (xs.map (Value.int k)) := hown
  by_cases hy : ys = []
  · subst hy
    have hrun : (Builtin.append_ #[t, t] o.type #[v, .slice sa 0 cap]).run P w = .ok v w := by
      rcases hown'.2 with ⟨rfl, hn⟩ | ⟨g, cp, cur, rfl, _, _, hnc, _⟩
      · cases sa <;> simp [Builtin.append_, run_underlying ht, sizeOf, typeInfo, hi, hsize, Builtin.lenOf, Builtin.firstCells, loadCells, loadCellsFrom]
      · cases sa <;> simp [Builtin.append_, run_underlying ht, sizeOf, typeInfo, hi, hsize, Builtin.lenOf, Builtin.firstCells, hnc, storeCells, loadCells, loadCellsFrom]
    unfold Oper.wp execOp
    simp only [List.length_nil] at hx
    simp only [ho, resolve, invoke, builtin, Sem.run_bind, Sem.run_pure, Result.andThen_ok, List.map_toArray, List.map_cons, List.map_nil, hs, hx, hrun]
    exact h v w (by rw [List.append_nil]; exact hown) ⟨rfl, rfl, rfl, Nat.le_refl _, fun _ _ _ => rfl⟩ (Below.refl _ _)
  · obtain ⟨b, off, rfl, hc⟩ := hr.cells hy
    have hpos : 0 < ys.length := List.length_pos_iff.2 hy
    refine wp_append_lies w s x t ho base e i z 1 bytes ht hi hz hsize hby hzs (by decide) v xs.length (xs.map (Value.int k)) hs hown' ⟨b, off, none⟩ ys.length cap (ys.map (Value.int k)) hx (by simp) ?_ ?_ hpos (by unfold maxLen; omega) hbytes hbase w.heap.size rfl ?_
    · intro j u hu
      rw [List.getElem?_map] at hu
      have hj : j < ys.length := by
        rcases Nat.lt_or_ge j ys.length with hj | hj
        · exact hj
        · rw [List.getElem?_eq_none (by omega)] at hu; cases hu
      rw [List.getElem?_eq_getElem hj] at hu
      simp only [Option.map_some, Option.some.injEq] at hu
      rw [add_none, hc j hj, List.getD_eq_getElem?_getD, List.getElem?_eq_getElem hj, ← hu]; rfl
    · intro u hu
      rw [List.mem_map] at hu
      obtain ⟨_, _, rfl⟩ := hu
      rfl
    · intro g cp w' h1 h2 _ _
      refine h _ w' ?_ h2 (below_of_grown h2 (fun j hj => (World.ownsRow.lt hown' j hj).1) hbase)
      unfold OwnI
      rw [List.length_append, List.map_append]
      exact h1

/-- .. at a step of a region that draws. -/
theorem appS {P : Program} {ops : Array Oper} {o : Oper} {a : Act} {K : Act → World → Prop} {Q : Exit → Act → World → Prop} {E : Prop} {w : World} (hgd : o.guard = none) (s x : Operand) (t : TypeId)
    (ho : o.op = .call { callee := .builtin .append, args := #[s, x], argTypes := #[t, t] })
    (base : Nat) (e : TypeId) (i : TypeInfo) (z : Value) (bytes : Nat) (ht : P.underlying t = some (.slice e)) (hi : P.info? e = some i) (hz : i.zero = some z)
    (hsize : i.size = 1) (hby : i.bytes = bytes) (hzs : z.cells.size = 1)
    (k : IntKind) (v : Value) (xs : List Int) (hown : OwnI k w base e v xs) (sa : Option Addr) (len cap : Nat) (ys : List Int) (hr : Reads k w sa ys) (hl : ys.length = len) (hs : a.eval s = v) (hx : a.eval x = .slice sa len cap) (hbase : base ≤ w.heap.size)
    (hbytes : (xs.length + len) * bytes ≤ 140737488355328) (h63 : xs.length + len ≤ 140737488355328)
    (h : ∀ v' w', OwnI k w' base e v' (xs ++ ys) → w.grownBy w' v.ownBlock → Below base w w' → K (a.put o.dst v') w') :
    if Region.wanted o (yielded ops a.tmps) = true then Oper.wp P o a w K Q else E := by
  have hw : Region.wanted o (yielded ops a.tmps) = true := by simp [Region.wanted, hgd]
  rw [if_pos hw]
  exact appW s x t ho base e i z bytes ht hi hz hsize hby hzs k v xs hown sa len cap ys hr hl hs hx hbase hbytes h63 h

theorem OwnI.form {k : IntKind} {w : World} {base : Nat} {e : TypeId} {v : Value} {xs : List Int} (h : OwnI k w base e v xs) (hne : xs ≠ []) : ∃ g cap, v = .slice (some ⟨g, 0, none⟩) xs.length cap := by
  rcases h.2 with ⟨_, h0⟩ | ⟨g, cap, cur, rfl, _⟩
  · exact absurd (List.eq_nil_of_length_eq_zero h0) hne
  · exact ⟨g, cap, rfl⟩

theorem OwnI.apart {k : IntKind} {w : World} {base : Nat} {e t : TypeId} {g g' n cap : Nat} {xs : List Int} {cs : Array Value} (h : OwnI k w base e (.slice (some ⟨g, 0, none⟩) n cap) xs) (hb : w.heap[g']? = some (.cells cs t)) (hne : t ≠ e) : g' ≠ g := by
  rintro rfl
  rcases h.2 with ⟨h', _⟩ | ⟨g2, cp, cur, h', _, hg, _⟩
  · simp at h'
  · simp only [Value.slice.injEq, Option.some.injEq, Addr.mk.injEq, and_true, true_and] at h'
    obtain ⟨rfl, _⟩ := h'
    rw [hg] at hb
    simp at hb
    exact hne hb.2.symm

theorem blk_grown {w w' : World} {g : Nat} {row : Option Nat} {o : Obj} (h : w.heap[g]? = some o) (hg : w.grownBy w' row) (hne : some g ≠ row) : w'.heap[g]? = some o := by
  have hk : g < w.heap.size := (Array.getElem?_eq_some_iff.1 h).1
  rw [hg.block g hk hne]; exact h

/-- 'append(s, y)', the new block's number by a name. -/
theorem app1H {P : Program} {ops : Array Oper} {rest : List Oper} {o : Oper} {a : Act} {Q : Exit → Act → World → Prop} {w : World} (hgd : o.guard = none) (s x : Operand) (t : TypeId)
    (ho : o.op = .call { callee := .builtin .append, args := #[s, x], argTypes := #[t, t] })
    (base : Nat) (e : TypeId) (i : TypeInfo) (z : Value) (bytes : Nat) (ht : P.underlying t = some (.slice e)) (hi : P.info? e = some i) (hz : i.zero = some z)
    (hsize : i.size = 1) (hby : i.bytes = bytes) (hzs : z.cells.size = 1)
    (k : IntKind) (v : Value) (xs : List Int) (hown : OwnI k w base e v xs) (y : Int) (H : Nat) (hH : w.heap.size = H) (hs : a.eval s = v) (hx : a.eval x = .slice (some ⟨H, 0, none⟩) 1 1) (hbase : base ≤ w.heap.size)
    (hbytes : (xs.length + 1) * bytes ≤ 140737488355328) (h63 : xs.length + 1 ≤ 140737488355328)
    (h : ∀ v' w', OwnI k w' base e v' (xs ++ [y]) → w.grownBy w' v.ownBlock → Below base w w' → wpList P ops Q rest (a.put o.dst v') w') :
    wpList P ops Q (o :: rest) a (w.alloc (.cells #[.int k y] e)) := by
  subst hH
  exact app1 hgd s x t ho base e i z bytes ht hi hz hsize hby hzs k v xs hown y hs hx hbase hbytes h63 h

theorem Box2.put {w : World} {g : Nat} {u v : Value} (h : Box2 w g u v) (u' v' : Value) : Box2 ((w.setCell ⟨g, 0, none⟩ u').setCell ⟨g, 1, none⟩ v') g u' v' := by
  obtain ⟨h0, h1, h2, h3⟩ := h
  refine ⟨?_, ?_, ?_, ?_⟩
  · have n1 : (⟨g, 1, none⟩ : Addr) ≠ ⟨g, 0, none⟩ := by intro h; cases h
    exact (World.cell?_setCell_other (h := n1) ..).trans (World.cell?_setCell_same (h := h0) ..)
  · have n1 : (⟨g, 0, none⟩ : Addr) ≠ ⟨g, 1, none⟩ := by intro h; cases h
    exact World.cell?_setCell_same (u := v) (h := (World.cell?_setCell_other (h := n1) ..).trans h1) ..
  · rw [World.frozen?_setCell, World.frozen?_setCell]; exact h2
  · rw [World.frozen?_setCell, World.frozen?_setCell]; exact h3

/-- Blocks of another type than T are as they were. -/
def KeepT (T : TypeId) (w w' : World) : Prop := ∀ (g : Nat) (cs : Array Value) (t : TypeId), w.heap[g]? = some (.cells cs t) → t ≠ T → w'.heap[g]? = some (.cells cs t)

theorem KeepT.trans {T : TypeId} {a b c : World} (h1 : KeepT T a b) (h2 : KeepT T b c) : KeepT T a c := fun g cs t h ht => h2 g cs t (h1 g cs t h ht) ht
theorem KeepT.of_below {T : TypeId} {w w' : World} (h : Below w.heap.size w w') : KeepT T w w' := fun g cs t hg _ => by
  rw [h.block g (Array.getElem?_eq_some_iff.1 hg).1]; exact hg
theorem KeepT.drew {T : TypeId} {w : World} : KeepT T w w.drew := fun _ _ _ h _ => h
theorem KeepT.grown {k : IntKind} {T : TypeId} {w w' : World} {base : Nat} {v : Value} {xs : List Int} (ho : OwnI k w base T v xs) (hg : w.grownBy w' v.ownBlock) : KeepT T w w' := fun g cs t h ht => by
  refine blk_grown h hg ?_
  rcases ho.2 with ⟨rfl, _⟩ | ⟨g2, cap, cur, rfl, _⟩
  · simp [Value.ownBlock]
  · have := ho.apart h ht
    simp [Value.ownBlock]; exact this
theorem KeepT.setNew {T : TypeId} {w w' : World} (h : KeepT T w w') {g : Nat} (hg : w.heap.size ≤ g) (i : Nat) (u : Value) : KeepT T w (w'.setCell ⟨g, i, none⟩ u) := fun g2 cs t h2 ht => by
  have hk : g2 < w.heap.size := (Array.getElem?_eq_some_iff.1 h2).1
  rw [Below.heap_setCell w' ⟨g, i, none⟩ u g2 (by dsimp only; omega)]; exact h g2 cs t h2 ht
theorem KeepT.setOwn {k : IntKind} {T : TypeId} {w w' : World} {base g n cap : Nat} {xs : List Int} (h : KeepT T w w') (ho : OwnI k w' base T (.slice (some ⟨g, 0, none⟩) n cap) xs) (i : Nat) (u : Value) : KeepT T w (w'.setCell ⟨g, i, none⟩ u) := fun g2 cs t h2 ht => by
  have h3 := h g2 cs t h2 ht
  rw [Below.heap_setCell w' ⟨g, i, none⟩ u g2 (ho.apart h3 ht)]; exact h3
end Go.Proofs.Ytbhoodhcipegbaa.Kit

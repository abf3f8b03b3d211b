/- What a walk is told of slices of integers that are read or made: small facts over any program. Copying into a row of the call's own, and facts on cells. No program here. Appending inside a region that draws its order. No program here. More of what a walk is told of slices: literals of bytes made from a string. Blocks of four cells, and results of several cells. What stands behind a region that draws its order: cells, blocks and rows behind stores and new blocks, as rules for simp only and for repeat. Blocks of seven cells, rows of values, and rows of rows of bytes. A struct by value that holds two structs (one cell, four cells, two cells): opened. -/
import Derived.WalkKit
import Derived.WalkSpells
import Derived.WalkLawsBesides
import Derived.ProofKit
import Derived.OpenShut
import Derived.SizedLaws
import Derived.Handy
import Derived.Carry
import Derived.Laws.BytesString
import Derived.StillTailTactics
import Derived.Laws.CopyOwn
import Derived.Deep.AppendLies
import Derived.Lib.SlBytesConst
import Derived.Lib.SmallJoins
import Derived.ChangeSame
namespace Go.Proofs.Ytmnhepcnbdbhoaa.Kit
open Go.RowKit

theorem hid {p : Prop} (h : p) : Hid p := h

/-- A slice at address a of length xs.length reads as the numbers xs of kind k. -/
def Reads (k : IntKind) (w : World) (a : Option Addr) (xs : List Int) : Prop :=
  (xs = [] ∨ ∃ b off, a = some ⟨b, off, none⟩ ∧ ∀ i, i < xs.length → w.cell? ⟨b, off + i, none⟩ = some (.int k (xs.getD i 0))) ∧ xs.length ≤ maxLen ∧ ∀ x ∈ xs, (Lit.int k x).wf = true

theorem Reads.nil {k : IntKind} {w : World} {a : Option Addr} : Reads k w a [] := ⟨.inl rfl, by simp, by simp⟩

theorem Reads.len {k : IntKind} {w : World} {a : Option Addr} {xs : List Int} (h : Reads k w a xs) : xs.length ≤ 9223372036854775807 := by
  have := h.2.1; unfold maxLen at this; exact this

theorem Reads.same {k : IntKind} {w w' : World} {a : Option Addr} {xs : List Int} (h : Reads k w a xs) (hb : Below w.heap.size w w') : Reads k w' a xs := by
  refine ⟨?_, h.2⟩
  rcases h.1 with h1 | ⟨b, off, rfl, hc⟩
  · exact .inl h1
  · exact .inr ⟨b, off, rfl, fun i hi => by
      rw [hb.cell (World.block_lt_of_cell? w _ (hc i hi))]; exact hc i hi⟩

theorem Reads.alloc {k : IntKind} {w : World} {a : Option Addr} {xs : List Int} (h : Reads k w a xs) (o : Obj) : Reads k (w.alloc o) a xs :=
  h.same ((Below.refl _ _).alloc (Nat.le_refl _) o)

theorem Reads.drew {k : IntKind} {w : World} {a : Option Addr} {xs : List Int} (h : Reads k w a xs) : Reads k w.drew a xs :=
  h.same (Below.refl _ _).drew

theorem Reads.cells {k : IntKind} {w : World} {a : Option Addr} {xs : List Int} (h : Reads k w a xs) (hx : xs ≠ []) :
    ∃ b off, a = some ⟨b, off, none⟩ ∧ ∀ i, i < xs.length → w.cell? ⟨b, off + i, none⟩ = some (.int k (xs.getD i 0)) := by
  rcases h.1 with h1 | h1
  · exact absurd h1 hx
  · exact h1

theorem Reads.take {k : IntKind} {w : World} {a : Option Addr} {xs : List Int} (h : Reads k w a xs) (n : Nat) : Reads k w a (xs.take n) := by
  refine ⟨?_, Nat.le_trans (by rw [List.length_take]; omega) h.2.1, fun x hx => h.2.2 x (List.mem_of_mem_take hx)⟩
  rcases h.1 with h1 | ⟨b, off, rfl, hc⟩
  · exact .inl (by simp [h1])
  · refine .inr ⟨b, off, rfl, fun i hi => ?_⟩
    rw [List.length_take] at hi
    rw [hc i (by omega), List.getD_eq_getElem?_getD, List.getD_eq_getElem?_getD, List.getElem?_take_of_lt (by omega)]

theorem Reads.drop {k : IntKind} {w : World} {b off : Nat} {xs : List Int} (h : Reads k w (some ⟨b, off, none⟩) xs) (n : Nat) : Reads k w (some ⟨b, off + n, none⟩) (xs.drop n) := by
  refine ⟨?_, Nat.le_trans (by rw [List.length_drop]; omega) h.2.1, fun x hx => h.2.2 x (List.mem_of_mem_drop hx)⟩
  rcases h.1 with h1 | ⟨b', off', e, hc⟩
  · exact .inl (by simp [h1])
  · simp only [Option.some.injEq, Addr.mk.injEq, and_true] at e
    obtain ⟨rfl, rfl⟩ := e
    refine .inr ⟨b, off + n, rfl, fun i hi => ?_⟩
    rw [List.length_drop] at hi
    rw [show off + n + i = off + (n + i) from by omega, hc (n + i) (by omega), List.getD_eq_getElem?_getD, List.getD_eq_getElem?_getD, List.getElem?_drop]

/-- What a row that came in gives. -/
theorem Reads.of_row {k : IntKind} {w : World} {x : Addr} {len cap : Nat} {zs : List Int} (hl : len ≤ cap) (hm : cap ≤ maxLen) (hz : zs.length = cap)
    (hc : ∀ i, i < zs.length → w.cell? (x.add i) = some (.int k (zs.getD i 0))) (hw : ∀ n ∈ zs, (Lit.int k n).wf = true) : Reads k w (some x) (zs.take len) ∧ (zs.take len).length = len := by
  refine ⟨⟨?_, ?_, fun y hy => hw y (List.mem_of_mem_take hy)⟩, ?_⟩
  · by_cases h0 : len = 0
    · exact .inl (by simp [h0])
    · obtain ⟨b, off, spot⟩ := x
      have h1 := hc 0 (by omega)
      have hs : spot = none := by simpa [Addr.add] using World.cell?_spot h1
      subst hs
      refine .inr ⟨b, off, rfl, fun i hi => ?_⟩
      rw [List.length_take] at hi
      have h2 := hc i (by omega)
      have ea : (⟨b, off, none⟩ : Addr).add i = ⟨b, off + i, none⟩ := by unfold Addr.add; split <;> simp_all
      rw [ea] at h2
      rw [h2, List.getD_eq_getElem?_getD, List.getD_eq_getElem?_getD, List.getElem?_take_of_lt (by omega)]
  · rw [List.length_take]; omega
  · rw [List.length_take]; omega

/-- What is owned reads as what it owns. -/
theorem Reads.of_own {k : IntKind} {w : World} {base : Nat} {e : TypeId} {v : Value} {xs : List Int} (h : w.ownsRow base e 1 v xs.length (xs.map (Value.int k))) (hw : ∀ x ∈ xs, (Lit.int k x).wf = true) :
    ∃ a cap, v = .slice a xs.length cap ∧ Reads k w a xs ∧ xs.length ≤ cap ∧ cap ≤ maxLen ∧ (a = none → cap = 0) ∧ ∀ x, a = some x → base ≤ x.block ∧ x.block < w.heap.size := by
  rcases h.2 with ⟨hv, hn⟩ | ⟨g, cap, cur, hv, hb, hg, hnc, hcm, hcs, htake⟩
  · have hx : xs = [] := List.eq_nil_of_length_eq_zero hn
    subst hx
    exact ⟨none, 0, hv, Reads.nil, Nat.le_refl _, by simp, fun _ => rfl, fun x hx => by cases hx⟩
  · refine ⟨some ⟨g, 0, none⟩, cap, hv, ⟨.inr ⟨g, 0, rfl, fun i hi => ?_⟩, Nat.le_trans hnc hcm, hw⟩, hnc, hcm, (fun h => by cases h), (fun x hx => ?_)⟩
    · subst hv
      rw [Nat.zero_add, h.cellAt i (by omega), List.getElem?_map, List.getD_eq_getElem?_getD, List.getElem?_eq_getElem hi]
      rfl
    · cases hx
      exact ⟨hb, (Array.getElem?_eq_some_iff.1 hg).1⟩

/-- The string of some bytes. -/
def bstr (xs : List Int) : ByteArray := ⟨(xs.map fun n => UInt8.ofNat n.toNat).toArray⟩

theorem foldl_push (xs : List Int) (s : ByteArray) : xs.foldl (fun r n => r.push (UInt8.ofNat n.toNat)) s = ⟨s.data ++ (xs.map fun n => UInt8.ofNat n.toNat).toArray⟩ := by
  induction xs generalizing s with
  | nil => simp
  | cons x xs ih =>
    rw [List.foldl_cons, ih]
    congr 1
    show (s.data.push (UInt8.ofNat x.toNat)) ++ _ = _
    simp

theorem foldl_bstr (xs : List Int) : xs.foldl (fun r n => r.push (UInt8.ofNat n.toNat)) ByteArray.empty = bstr xs := by
  rw [foldl_push]; unfold bstr; congr 1; simp [ByteArray.empty, ByteArray.emptyWithCapacity]; rfl

theorem bstr_inj {xs ys : List Int} (hx : ∀ x ∈ xs, (Lit.int .u8 x).wf = true) (hy : ∀ x ∈ ys, (Lit.int .u8 x).wf = true) (h : bstr xs = bstr ys) : xs = ys := by
  unfold bstr at h
  have h1 := congrArg (fun b => b.data.toList) h
  simp only at h1
  clear h
  induction xs generalizing ys with
  | nil => cases ys with
    | nil => rfl
    | cons y ys => simp at h1
  | cons x xs ih =>
    cases ys with
    | nil => simp at h1
    | cons y ys =>
      simp only [List.map_cons, List.cons.injEq] at h1
      have hx1 := bounds_u8 (hx x (by simp))
      have hy1 := bounds_u8 (hy y (by simp))
      have h2 : x = y := by
        have := congrArg UInt8.toNat h1.1
        simp only [UInt8.toNat_ofNat'] at this
        omega
      rw [h2, ih (fun z hz => hx z (by simp [hz])) (fun z hz => hy z (by simp [hz])) h1.2]

/-- The walk's own spelling of '==' on strings. -/
theorem beq_bstr {xs ys : List Int} (hx : ∀ x ∈ xs, (Lit.int .u8 x).wf = true) (hy : ∀ x ∈ ys, (Lit.int .u8 x).wf = true) : ((bstr xs).toList == (bstr ys).toList) = decide (xs = ys) := by
  by_cases h : xs = ys
  · subst h; simp
  · rw [decide_eq_false h, beq_eq_false_iff_ne]
    intro h2
    refine h (bstr_inj hx hy ?_)
    rw [ByteArray.toList_eq, ByteArray.toList_eq] at h2
    exact congrArg ByteArray.mk (Array.toList_inj.1 h2)

theorem loadCellsFrom_run {P : Program} {w : World} {k : IntKind} {b : Nat} (xs : List Int) : ∀ (off : Nat), (∀ i, i < xs.length → w.cell? ⟨b, off + i, none⟩ = some (.int k (xs.getD i 0))) →
    (loadCells ⟨b, off, none⟩ xs.length).run P w = .ok (xs.map (Value.int k)).toArray w := by
  intro off h
  have hr := Go.run_loadCells_list (P := P) w ⟨b, off, none⟩ (xs.map (Value.int k)) (fun j u hu => by
    rw [List.getElem?_map] at hu
    have hj : j < xs.length := by
      rcases Nat.lt_or_ge j xs.length with hj | hj
      · exact hj
      · rw [List.getElem?_eq_none (by omega)] at hu; cases hu
    rw [List.getElem?_eq_getElem hj] at hu
    simp only [Option.map_some, Option.some.injEq] at hu
    have ea : (⟨b, off, none⟩ : Addr).add j = ⟨b, off + j, none⟩ := by unfold Addr.add; split <;> simp_all
    rw [ea, h j hj, List.getD_eq_getElem?_getD, List.getElem?_eq_getElem hj, ← hu]; rfl)
  simpa using hr

/-- string(b): the bytes. -/
theorem Reads.str {P : Program} {w : World} {a : Option Addr} {xs : List Int} (h : Reads .u8 w a xs) (cap : Nat) {src dst e : TypeId}
    (hs : P.underlying src = some (.slice e)) (he : P.underlying e = some (.int .u8)) (hd : P.underlying dst = some .string) (hn : xs = [] → a = none ∨ True) :
    (convert src dst (.slice a xs.length cap)).run P w = .ok (.string (bstr xs)) w := by
  rw [run_convert_bytes_string w src dst e a xs.length cap hs he hd]
  by_cases h0 : xs = []
  · subst h0
    cases a with
    | none => rfl
    | some x =>
      have := run_bytesToString (P := P) w x 0 cap [] (by rfl)
      exact this
  · obtain ⟨b, off, rfl, hc⟩ := h.cells h0
    have := run_bytesToString (P := P) w ⟨b, off, none⟩ xs.length cap xs (loadCellsFrom_run xs off hc)
    rw [foldl_bstr] at this
    exact this

theorem Reads.drewN {k : IntKind} {w : World} {a : Option Addr} {xs : List Int} (h : Reads k w a xs) (n : Nat) : Reads k (w.drewN n) a xs :=
  h.same (below_drewN (Below.refl _ _) n)

/-- string(b), behind whatever draws. -/
theorem Reads.strD {P : Program} {w : World} {a : Option Addr} {xs : List Int} (h : Reads .u8 w a xs) (len cap : Nat) (hl : xs.length = len) {src dst e : TypeId}
    (hs : P.underlying src = some (.slice e)) (he : P.underlying e = some (.int .u8)) (hd : P.underlying dst = some .string) :
    (convert src dst (.slice a len cap)).run P w = .ok (.string (bstr xs)) w ∧ ∀ n, (convert src dst (.slice a len cap)).run P (w.drewN n) = .ok (.string (bstr xs)) (w.drewN n) := by
  subst hl
  exact ⟨h.str cap hs he hd (fun _ => .inr trivial), fun n => (h.drewN n).str cap hs he hd (fun _ => .inr trivial)⟩

/-- A region that draws its order, whose operations but the last ones only read: those last ones stand behind a K of which nothing is known. -/
theorem region_tail {P : Program} {id : Nat} {Q : Exit → Act → World → Prop} {a : Act} {w : World} {l : List Oper} (n : Nat) (hm : P.follows .mixedOrders = true) (hB : Region.lexTailB .any l.toArray n = true)
    (h : ∀ K : Act → Prop, (∀ a', wpList P l.toArray Q (l.drop n) a' w.drew → K a') → wpStill P l.toArray w.drew K (l.take n) a) : (Code.region id l.toArray true).wp P Q a w :=
  wp_region_still_tail n hm hB (h _ (fun _ h => h))
theorem still_want {P : Program} {ops : Array Oper} {w : World} {Q : Act → Prop} {a : Act} {o : Oper} {rest : List Oper} (hw : Region.wanted o (yielded ops a.tmps) = true)
    (h : ∀ K : Act → Prop, (∀ a, wpStill P ops w Q rest a → K a) → o.still P a w K) : wpStill P ops w Q (o :: rest) a :=
  wpStill_step fun K hK => by rw [if_pos hw]; exact h K hK
theorem still_skip {P : Program} {ops : Array Oper} {w : World} {Q : Act → Prop} {a : Act} {o : Oper} {rest : List Oper} (hw : Region.wanted o (yielded ops a.tmps) = false)
    (h : wpStill P ops w Q rest (a.put o.dst undef)) : wpStill P ops w Q (o :: rest) a :=
  wpStill_step fun K hK => by rw [if_neg (by rw [hw]; exact Bool.false_ne_true)]; exact hK _ h

/-- The numbers xs are the call's own, in a row of its own from block 'base' on. -/
def OwnI (k : IntKind) (w : World) (base : Nat) (e : TypeId) (v : Value) (xs : List Int) : Prop := w.ownsRow base e 1 v xs.length (xs.map (Value.int k))

theorem OwnI.nil {k : IntKind} {w : World} {base : Nat} {e : TypeId} : OwnI k w base e (.slice none 0 0) [] := World.ownsRow_nil w base e 1

theorem OwnI.reads {k : IntKind} {w : World} {base : Nat} {e : TypeId} {v : Value} {xs : List Int} (h : OwnI k w base e v xs) (hw : ∀ x ∈ xs, (Lit.int k x).wf = true) :
    ∃ a cap, v = .slice a xs.length cap ∧ Reads k w a xs ∧ xs.length ≤ cap ∧ cap ≤ maxLen ∧ (a = none → cap = 0) ∧ ∀ x, a = some x → base ≤ x.block ∧ x.block < w.heap.size := Reads.of_own h hw

theorem OwnI.kept {k : IntKind} {w w' : World} {base : Nat} {e : TypeId} {v : Value} {xs : List Int} {row : Option Nat} (h : OwnI k w base e v xs) (hg : w.grownBy w' row) (hne : v.ownBlock = none ∨ v.ownBlock ≠ row) : OwnI k w' base e v xs := World.ownsRow.kept h hg hne

/-- What is owned stays owned where nothing that was there has turned. -/
theorem OwnI.below {k : IntKind} {w w' : World} {base : Nat} {e : TypeId} {v : Value} {xs : List Int} (h : OwnI k w base e v xs) (hb : Below w.heap.size w w') : OwnI k w' base e v xs := by
  refine World.ownsRow.kept (row := none) h ⟨hb.os, hb.tape, hb.output, hb.size, fun k hk _ => hb.block k hk⟩ ?_
  cases v.ownBlock <;> simp

theorem below_of_grown {w w' : World} {base : Nat} {row : Option Nat} (hg : w.grownBy w' row) (hr : ∀ k, row = some k → base ≤ k) (hb : base ≤ w.heap.size) : Below base w w' :=
  (Below.refl _ _).grown hg hb hr

/-- 'append(s, y)': one number more, behind the block in which it was laid. -/
theorem app1 {P : Program} {ops : Array Oper} {rest : List Oper} {o : Oper} {a : Act} {Q : Exit → Act → World → Prop} {w : World} (hgd : o.guard = none) (s x : Operand) (t : TypeId)
    (ho : o.op = .call { callee := .builtin .append, args := #[s, x], argTypes := #[t, t] })
    (base : Nat) (e : TypeId) (i : TypeInfo) (z : Value) (bytes : Nat) (ht : P.underlying t = some (.slice e)) (hi : P.info? e = some i) (hz : i.zero = some z)
    (hsize : i.size = 1) (hby : i.bytes = bytes) (hzs : z.cells.size = 1)
    (k : IntKind) (v : Value) (xs : List Int) (hown : OwnI k w base e v xs) (y : Int) (hs : a.eval s = v) (hx : a.eval x = .slice (some ⟨w.heap.size, 0, none⟩) 1 1) (hbase : base ≤ w.heap.size)
    (hbytes : (xs.length + 1) * bytes ≤ 140737488355328) (h63 : xs.length + 1 ≤ 140737488355328)
    (h : ∀ v' w', OwnI k w' base e v' (xs ++ [y]) → w.grownBy w' v.ownBlock → Below base w w' → wpList P ops Q rest (a.put o.dst v') w') :
    wpList P ops Q (o :: rest) a (w.alloc (.cells #[.int k y] e)) := by
  have hown' : w.ownsRow base e 1 v xs.length (xs.map (Value.int k)) := hown
  refine wpList_append_own _ hgd s x t ho base e i z 1 bytes ht hi hz hsize hby hzs (by decide) v xs.length (xs.map (Value.int k)) hs (hown'.alloc _) ⟨w.heap.size, 0, none⟩ 1 1 [.int k y] hx rfl ?_ ?_ ?_ hbytes ?_ ?_
  · intro j u hu
    match j, hu with
    | 0, hu => simp at hu; subst hu; simp [Addr.add]
  · intro u hu; simp at hu; subst hu; rfl
  · unfold maxLen; omega
  · simp; omega
  · intro v' w' h1 h2 _
    have hg : w.grownBy w' v.ownBlock := by
      refine ⟨h2.os, h2.tape, h2.output, ?_, fun j hj hne => ?_⟩
      · have := h2.size; simp at this; omega
      · rw [h2.block j (by simp; omega) hne]; exact heap_alloc_old w _ hj
    refine h v' w' ?_ hg ?_
    · unfold OwnI
      rw [List.length_append, List.map_append]
      exact h1
    · exact below_of_grown hg (fun j hj => (World.ownsRow.lt hown' j hj).1) hbase

/-- 'append(s, b...)': the numbers of a slice behind those that are the call's own. -/
theorem appN {P : Program} {ops : Array Oper} {rest : List Oper} {o : Oper} {a : Act} {Q : Exit → Act → World → Prop} {w : World} (hgd : o.guard = none) (s x : Operand) (t : TypeId)
    (ho : o.op = .call { callee := .builtin .append, args := #[s, x], argTypes := #[t, t] })
    (base : Nat) (e : TypeId) (i : TypeInfo) (z : Value) (bytes : Nat) (ht : P.underlying t = some (.slice e)) (hi : P.info? e = some i) (hz : i.zero = some z)
    (hsize : i.size = 1) (hby : i.bytes = bytes) (hzs : z.cells.size = 1)
    (k : IntKind) (v : Value) (xs : List Int) (hown : OwnI k w base e v xs) (sa : Option Addr) (len cap : Nat) (ys : List Int) (hr : Reads k w sa ys) (hl : ys.length = len) (hs : a.eval s = v) (hx : a.eval x = .slice sa len cap) (hbase : base ≤ w.heap.size)
    (hbytes : (xs.length + len) * bytes ≤ 140737488355328) (h63 : xs.length + len ≤ 140737488355328)
    (h : ∀ v' w', OwnI k w' base e v' (xs ++ ys) → w.grownBy w' v.ownBlock → Below base w w' → wpList P ops Q rest (a.put o.dst v') w') :
    wpList P ops Q (o :: rest) a w := by
  subst hl
  have hown' : w.ownsRow base e 1 v xs.length (xs.map (Value.int k)) := hown
  cases sa with
  | none =>
    have hy : ys = [] := by
      rcases hr.1 with h0 | ⟨b, off, h0, _⟩
      · exact h0
      · cases h0
    subst hy
    have hrun : (Builtin.append_ #[t, t] o.type #[v, .slice none 0 cap]).run P w = .ok v w := by
      rcases hown'.2 with ⟨rfl, hn⟩ | ⟨g, cp, cur, rfl, _, _, hnc, _⟩
      · simp [Builtin.append_, run_underlying ht, sizeOf, typeInfo, hi, Builtin.lenOf, Builtin.firstCells]
      · simp [Builtin.append_, run_underlying ht, sizeOf, typeInfo, hi, Builtin.lenOf, Builtin.firstCells, hnc, storeCells]
    refine wpList_plain hgd fun K hK' => ?_
    unfold Oper.wp execOp
    simp only [List.length_nil] at hx
    simp only [ho, resolve, invoke, builtin, Sem.run_bind, Sem.run_pure, Result.andThen_ok, List.map_toArray, List.map_cons, List.map_nil, hs, hx, hrun]
    exact hK' _ _ (h v w (by rw [List.append_nil]; exact hown) ⟨rfl, rfl, rfl, Nat.le_refl _, fun _ _ _ => rfl⟩ (Below.refl _ _))
  | some ad =>
    refine wpList_append_own _ hgd s x t ho base e i z 1 bytes ht hi hz hsize hby hzs (by decide) v xs.length (xs.map (Value.int k)) hs hown' ad ys.length cap (ys.map (Value.int k)) hx (by simp) ?_ ?_ ?_ hbytes hbase ?_
    · intro j u hu
      rw [List.getElem?_map] at hu
      have hj : j < ys.length := by
        rcases Nat.lt_or_ge j ys.length with hj | hj
        · exact hj
        · rw [List.getElem?_eq_none (by omega)] at hu; cases hu
      obtain ⟨b, off, he, hc⟩ := hr.cells (by intro h0; subst h0; simp at hj)
      cases he
      rw [List.getElem?_eq_getElem hj] at hu
      simp only [Option.map_some, Option.some.injEq] at hu
      have ea : (⟨b, off, none⟩ : Addr).add j = ⟨b, off + j, none⟩ := by unfold Addr.add; split <;> simp_all
      rw [ea, hc j hj, List.getD_eq_getElem?_getD, List.getElem?_eq_getElem hj, ← hu]; rfl
    · intro u hu
      rw [List.mem_map] at hu
      obtain ⟨_, _, rfl⟩ := hu
      rfl
    · unfold maxLen; omega
    · intro v' w' h1 h2 _
      refine h v' w' ?_ h2 ?_
      · unfold OwnI
        rw [List.length_append, List.map_append]
        exact h1
      · exact below_of_grown h2 (fun j hj => (World.ownsRow.lt hown' j hj).1) hbase

/-- '[]T{}' and '[]T{x, ..}', just laid. -/
theorem OwnI.lit {k : IntKind} (w : World) (base : Nat) (e : TypeId) (xs : List Int) (hb : base ≤ w.heap.size) (hm : xs.length ≤ maxLen) :
    OwnI k (w.alloc (.cells (xs.map (Value.int k)).toArray e)) base e (.slice (some ⟨w.heap.size, 0, none⟩) xs.length xs.length) xs := by
  have := World.ownsRow_lit (base := base) (e := e) (size := 1) w (xs.map (Value.int k)).toArray xs.length hb hm (by simp)
  simpa [OwnI] using this

/-- 'make([]T, n)': n zeros of the call's own. -/
theorem makeI {P : Program} {w : World} {ops : Array Oper} {rest : List Oper} {o : Oper} {a : Act} {Q : Exit → Act → World → Prop}
    (hg : o.guard = none) (l c : Operand) (t : TypeId) (hop : o.op = Op.makeSlice t l c)
    (base : Nat) (e : TypeId) (i : TypeInfo) (bytes : Nat) (k : IntKind) (h1 : P.underlying t = some (.slice e)) (h2 : P.info? e = some i) (h3 : i.zero = some (.int k 0)) (h4 : i.size = 1) (h5 : i.bytes = bytes)
    (L : Int) (n : Nat) (hL : L = (n : Int)) (hl : a.eval l = .int .i64 L) (hc : a.eval c = .int .i64 L) (b2 : bytes * n ≤ 281474976710656) (b3 : n ≤ 281474976710656) (b4 : base ≤ w.heap.size)
    (hK : ∀ w', OwnI k w' base e (.slice (some ⟨w.heap.size, 0, none⟩) n n) (List.replicate n 0) → w.grownBy w' none → Below w.heap.size w w' → w.heap.size < w'.heap.size → wpList P ops Q rest (a.put o.dst (.slice (some ⟨w.heap.size, 0, none⟩) n n)) w') :
    wpList P ops Q (o :: rest) a w := by
  subst h5
  refine wpList_make_full w hg l c t hop base e i (.int k 0) 1 h1 h2 h3 h4 .i64 .i64 L L n hl hc hL hL b2 (by unfold maxLen; omega) b4 ?_
  intro w' hown hgr
  refine hK w' ?_ hgr (below_of_grown hgr (fun _ h => by cases h) (Nat.le_refl _)) ?_
  · have e1 : (madeCells (Value.int k 0).cells (n * 1)).toList = (List.replicate n (0 : Int)).map (Value.int k) := by
      rw [show (Value.int k 0).cells = #[Value.int k 0] from rfl, toList_madeCells_one]; simp
    rw [e1] at hown
    unfold OwnI
    rw [List.length_replicate]
    exact hown
  · rcases hown.2 with ⟨h, _⟩ | ⟨g, cap, cur, h, _, hg, _⟩
    · simp at h
    · simp only [Value.slice.injEq, Option.some.injEq, Addr.mk.injEq, and_true, true_and] at h
      obtain ⟨rfl, rfl⟩ := h
      exact (Array.getElem?_eq_some_iff.1 hg).1

theorem OwnI.cell {k : IntKind} {w : World} {base : Nat} {e : TypeId} {g n cap : Nat} {xs : List Int} (h : OwnI k w base e (.slice (some ⟨g, 0, none⟩) n cap) xs) (j : Nat) (hj : j < xs.length) :
    w.cell? ⟨g, j, none⟩ = some (.int k (xs.getD j 0)) := by
  have hn : n = xs.length := by
    rcases h.2 with ⟨h', _⟩ | ⟨_, _, _, h', _⟩
    · simp at h'
    · simp only [Value.slice.injEq] at h'; omega
  subst hn
  have := World.ownsRow.cellAt h j (by omega)
  rw [this, List.getElem?_map, List.getD_eq_getElem?_getD, List.getElem?_eq_getElem hj]; rfl

theorem OwnI.free {k : IntKind} {w : World} {base : Nat} {e : TypeId} {g n cap : Nat} {xs : List Int} (h : OwnI k w base e (.slice (some ⟨g, 0, none⟩) n cap) xs) (j : Nat) : w.frozen? ⟨g, j, none⟩ = false := by
  have hn : n = xs.length := by
    rcases h.2 with ⟨h', _⟩ | ⟨_, _, _, h', _⟩
    · simp at h'
    · simp only [Value.slice.injEq] at h'; omega
  subst hn
  exact World.ownsRow.frozenAt h j

theorem OwnI.base {k : IntKind} {w : World} {base : Nat} {e : TypeId} {g n cap : Nat} {xs : List Int} (h : OwnI k w base e (.slice (some ⟨g, 0, none⟩) n cap) xs) : base ≤ g ∧ g < w.heap.size := World.ownsRow.lt h g rfl

theorem OwnI.set {k : IntKind} {w : World} {base : Nat} {e : TypeId} {g n cap : Nat} {xs : List Int} (h : OwnI k w base e (.slice (some ⟨g, 0, none⟩) n cap) xs) (j : Nat) (y : Int) :
    OwnI k (w.setCell ⟨g, j, none⟩ (.int k y)) base e (.slice (some ⟨g, 0, none⟩) n cap) (xs.set j y) ∧ Below base w (w.setCell ⟨g, j, none⟩ (.int k y)) := by
  have hn : n = xs.length := by
    rcases h.2 with ⟨h', _⟩ | ⟨_, _, _, h', _⟩
    · simp at h'
    · simp only [Value.slice.injEq] at h'; omega
  subst hn
  refine ⟨?_, (Below.refl _ _).setCell h.base.1 _⟩
  unfold OwnI
  rw [List.length_set, List.map_set]
  exact (World.ownsRow.stored h j _).1

/-- A slice of integers that came in. -/
structure RowIn (k : IntKind) (w : World) (a : Option Addr) (len cap : Nat) (xs : List Int) : Prop where
  rd : Reads k w a xs
  hl : xs.length = len
  hc : len ≤ cap
  hm : cap ≤ 9223372036854775807

theorem RowIn.of {k : IntKind} {w : World} {a : Option Addr} {len cap : Nat} {zs : List Int}
    (h : (a = none ∧ len = 0 ∧ cap = 0 ∧ zs = []) ∨
      ∃ x, a = some x ∧ len ≤ cap ∧ cap ≤ maxLen ∧ zs.length = cap ∧ (∀ i, i < zs.length → w.cell? (x.add i) = some (.int k (zs.getD i 0))) ∧ ∀ n ∈ zs, (Lit.int k n).wf = true) : RowIn k w a len cap (zs.take len) := by
  rcases h with ⟨rfl, rfl, rfl, rfl⟩ | ⟨x, rfl, hl, hm, hz, hc, hw⟩
  · exact ⟨Reads.nil, rfl, Nat.le_refl _, by omega⟩
  · obtain ⟨h1, h2⟩ := Reads.of_row hl hm hz hc hw
    exact ⟨h1, h2, hl, by unfold maxLen at hm; exact hm⟩

theorem RowIn.same {k : IntKind} {w w' : World} {a : Option Addr} {len cap : Nat} {xs : List Int} (h : RowIn k w a len cap xs) (hb : Below w.heap.size w w') : RowIn k w' a len cap xs :=
  ⟨h.rd.same hb, h.hl, h.hc, h.hm⟩

theorem RowIn.nil {k : IntKind} {w : World} : RowIn k w none 0 0 [] := ⟨Reads.nil, rfl, Nat.le_refl _, by omega⟩

/-- What is the call's own, as a slice that is handed on. -/
theorem OwnI.row {k : IntKind} {w : World} {base : Nat} {e : TypeId} {v : Value} {xs : List Int} (h : OwnI k w base e v xs) (hw : ∀ x ∈ xs, (Lit.int k x).wf = true) :
    ∃ a cap, v = .slice a xs.length cap ∧ RowIn k w a xs.length cap xs := by
  obtain ⟨a, cap, hv, hr, hc, hm, _⟩ := h.reads hw
  exact ⟨a, cap, hv, hr, rfl, hc, by unfold maxLen at hm; exact hm⟩

theorem OwnI.rowLit {k : IntKind} {w : World} {base : Nat} {e : TypeId} {a : Option Addr} {n cap : Nat} {xs : List Int} (h : OwnI k w base e (.slice a n cap) xs) (hw : ∀ x ∈ xs, (Lit.int k x).wf = true) :
    RowIn k w a n cap xs := by
  obtain ⟨a', cap', hv, hr⟩ := h.row hw
  cases hv
  exact hr

theorem bd_i64 {x : Int} (h : (Lit.int .i64 x).wf = true) : -9223372036854775808 ≤ x ∧ x ≤ 9223372036854775807 := by
  simpa [Lit.wf, IntKind.min, IntKind.max, IntKind.signed, IntKind.bits] using h
theorem bd_u64 {x : Int} (h : (Lit.int .u64 x).wf = true) : 0 ≤ x ∧ x ≤ 18446744073709551615 := by
  simpa [Lit.wf, IntKind.min, IntKind.max, IntKind.signed, IntKind.bits] using h
theorem bd_i32 {x : Int} (h : (Lit.int .i32 x).wf = true) : -2147483648 ≤ x ∧ x ≤ 2147483647 := by
  simpa [Lit.wf, IntKind.min, IntKind.max, IntKind.signed, IntKind.bits] using h
theorem bd_u32 {x : Int} (h : (Lit.int .u32 x).wf = true) : 0 ≤ x ∧ x ≤ 4294967295 := by
  simpa [Lit.wf, IntKind.min, IntKind.max, IntKind.signed, IntKind.bits] using h
theorem bd_u8 {x : Int} (h : (Lit.int .u8 x).wf = true) : 0 ≤ x ∧ x ≤ 255 := by
  simpa [Lit.wf, IntKind.min, IntKind.max, IntKind.signed, IntKind.bits] using h
theorem bd_u16 {x : Int} (h : (Lit.int .u16 x).wf = true) : 0 ≤ x ∧ x ≤ 65535 := by
  simpa [Lit.wf, IntKind.min, IntKind.max, IntKind.signed, IntKind.bits] using h
theorem bd_i8 {x : Int} (h : (Lit.int .i8 x).wf = true) : -128 ≤ x ∧ x ≤ 127 := by
  simpa [Lit.wf, IntKind.min, IntKind.max, IntKind.signed, IntKind.bits] using h
theorem bd_i16 {x : Int} (h : (Lit.int .i16 x).wf = true) : -32768 ≤ x ∧ x ≤ 32767 := by
  simpa [Lit.wf, IntKind.min, IntKind.max, IntKind.signed, IntKind.bits] using h
end Go.Proofs.Ytmnhepcnbdbhoaa.Kit

namespace Go.Proofs.Ytmnhepcnbdbhoaa.Kit
open Go.RowKit
set_option linter.unusedSimpArgs false

theorem add_none (b off j : Nat) : (⟨b, off, none⟩ : Addr).add j = ⟨b, off + j, none⟩ := by unfold Addr.add; split <;> simp_all

/-- 'copy(s, t)': numbers over the first ones of a row of the call's own. -/
theorem copyI {P : Program} {ops : Array Oper} {rest : List Oper} {o : Oper} {a : Act} {Q : Exit → Act → World → Prop} {w : World} (hgd : o.guard = none) (d s : Operand) (t : TypeId)
    (ho : o.op = .call { callee := .builtin .copy, args := #[d, s], argTypes := #[t, t] }) (e : TypeId) (ht : P.underlying t = some (.slice e)) (hsz : (P.info? e).map (·.size) = some 1)
    (k : IntKind) (base g n cap : Nat) (xs : List Int) (hown : OwnI k w base e (.slice (some ⟨g, 0, none⟩) n cap) xs)
    (sa : Option Addr) (len scap : Nat) (ys : List Int) (hr : Reads k w sa ys) (hl : ys.length = len) (hle : len ≤ n) (hd : a.eval d = .slice (some ⟨g, 0, none⟩) n cap) (hs : a.eval s = .slice sa len scap)
    (h : ∀ w', OwnI k w' base e (.slice (some ⟨g, 0, none⟩) n cap) (ys ++ xs.drop len) → Below base w w' → wpList P ops Q rest (a.put o.dst (goInt len)) w') :
    wpList P ops Q (o :: rest) a w := by
  subst hl
  obtain ⟨hlen, hrow⟩ := hown
  rcases hrow with ⟨h', _⟩ | ⟨g', cap', cur, h', hb, hg, hnc, hcm, hcs, htk⟩
  · simp at h'
  · simp only [Value.slice.injEq, Option.some.injEq, Addr.mk.injEq, and_true, true_and] at h'
    obtain ⟨rfl, hn, rfl⟩ := h'
    subst hn
    have hcl : (ys.map (Value.int k)).length = ys.length := by simp
    refine wpList_copy_splice hgd d s t t ho e ht hsz _ sa xs.length cap ys.length scap hd hs g 0 cur.toList e (by simpa using hg) (ys.map (Value.int k)) (by rw [hcl]; exact (Nat.min_eq_left hle).symm) ?_ (by simp; omega) (by
      intro v hv; rw [List.mem_map] at hv; obtain ⟨_, _, rfl⟩ := hv; rfl) base w (Below.refl _ _) hb ?_
    · intro hp
      refine ⟨rfl, ?_⟩
      obtain ⟨b, off, rfl, hc⟩ := hr.cells (by intro h0; subst h0; simp at hp)
      refine ⟨_, rfl, fun j v hv => ?_⟩
      rw [List.getElem?_map] at hv
      have hj : j < ys.length := by
        rcases Nat.lt_or_ge j ys.length with hj | hj
        · exact hj
        · rw [List.getElem?_eq_none (by omega)] at hv; cases hv
      rw [List.getElem?_eq_getElem hj] at hv
      simp only [Option.map_some, Option.some.injEq] at hv
      rw [add_none, hc j hj, List.getD_eq_getElem?_getD, List.getElem?_eq_getElem hj, ← hv]; rfl
    · intro w' hg' hbw
      rw [hcl]
      refine h w' ?_ hbw
      have hg' := hg'.out
      unfold OwnI World.ownsRow
      have hl2 : (ys ++ xs.drop ys.length).length = xs.length := by simp; omega
      refine ⟨by simp, .inr ⟨g, cap, (splice cur.toList 0 (ys.map (Value.int k))).toArray, by rw [hl2], hb, hg', by omega, hcm, ?_, ?_⟩⟩
      · simp only [List.size_toArray]; rw [length_splice _ _ _ (by simp; omega)]; simpa using hcs
      · rw [hl2, Nat.mul_one]
        rw [Nat.mul_one] at htk
        unfold splice
        simp only [List.take_zero, List.nil_append, Nat.zero_add, List.map_append, hcl]
        rw [List.take_append, hcl, List.take_of_length_le (by simp; omega)]
        congr 1
        rw [List.map_drop, ← htk, List.drop_take]

theorem blk1 (w : World) (A : Obj) : (w.alloc A).heap[w.heap.size]? = some A := by unfold World.alloc; simp
theorem blk2 (w : World) (A B : Obj) : ((w.alloc A).alloc B).heap[w.heap.size + 1]? = some B := by
  have h : (w.alloc A).heap.size = w.heap.size + 1 := by simp
  rw [← h]; exact blk1 _ _
theorem blk2a (w : World) (A B : Obj) : ((w.alloc A).alloc B).heap[w.heap.size]? = some A := by
  have h : w.heap.size < (w.alloc A).heap.size := by simp
  have h2 : ((w.alloc A).alloc B).heap[w.heap.size]? = (w.alloc A).heap[w.heap.size]? := by
    generalize w.alloc A = W at *
    unfold World.alloc; simp [Array.getElem?_push]; omega
  rw [h2]; exact blk1 w A


theorem blkOld {w : World} {k : Nat} {o : Obj} (A : Obj) (h : w.heap[k]? = some o) : (w.alloc A).heap[k]? = some o := by
  have hk : k < w.heap.size := (Array.getElem?_eq_some_iff.1 h).1
  rw [← h]; unfold World.alloc; simp [Array.getElem?_push]; omega
theorem blk3 (w : World) (A B C : Obj) : (((w.alloc A).alloc B).alloc C).heap[w.heap.size + 2]? = some C := by
  have h : ((w.alloc A).alloc B).heap.size = w.heap.size + 2 := by simp
  rw [← h]; exact blk1 _ _
theorem blk3a (w : World) (A B C : Obj) : (((w.alloc A).alloc B).alloc C).heap[w.heap.size]? = some A := blkOld _ (blk2a w A B)
theorem blk3b (w : World) (A B C : Obj) : (((w.alloc A).alloc B).alloc C).heap[w.heap.size + 1]? = some B := blkOld _ (blk2 w A B)
theorem below2 (w : World) (A B : Obj) : Below w.heap.size w ((w.alloc A).alloc B) := ((Below.refl _ _).alloc (Nat.le_refl _) _).alloc (by simp) _
theorem below1 (w : World) (A : Obj) : Below w.heap.size w (w.alloc A) := (Below.refl _ _).alloc (Nat.le_refl _) _
theorem below3 (w : World) (A B C : Obj) : Below w.heap.size w (((w.alloc A).alloc B).alloc C) := (below2 w A B).alloc (by simp; omega) _
theorem cell1 {w : World} {g : Nat} {u : Value} {t : TypeId} (h : w.heap[g]? = some (.cells #[u] t)) : w.cell? ⟨g, 0, none⟩ = some u := by simp [World.cell?, h]

/-- A block of two cells that holds these. -/
structure Box2 (w : World) (g : Nat) (u v : Value) : Prop where
  c0 : w.cell? ⟨g, 0, none⟩ = some u
  c1 : w.cell? ⟨g, 1, none⟩ = some v
  f0 : w.frozen? ⟨g, 0, none⟩ = false
  f1 : w.frozen? ⟨g, 1, none⟩ = false

theorem Box2.of {w : World} {g : Nat} {u v : Value} {t : TypeId} (h : w.heap[g]? = some (.cells #[u, v] t)) : Box2 w g u v :=
  ⟨by simp [World.cell?, h], by simp [World.cell?, h], by simp [World.frozen?, h], by simp [World.frozen?, h]⟩

theorem Box2.below {w w' : World} {g B : Nat} {u v : Value} (h : Box2 w g u v) (hb : Below B w w') (hg : g < B) : Box2 w' g u v := by
  have e := hb.block g hg
  have ec : ∀ i, w'.cell? ⟨g, i, none⟩ = w.cell? ⟨g, i, none⟩ := fun i => World.cell?_of_block e
  have ef : ∀ i, w'.frozen? ⟨g, i, none⟩ = w.frozen? ⟨g, i, none⟩ := fun i => World.frozen?_of_block e
  exact ⟨by rw [ec]; exact h.c0, by rw [ec]; exact h.c1, by rw [ef]; exact h.f0, by rw [ef]; exact h.f1⟩

theorem grownBy_set (w : World) (g i : Nat) (v : Value) : w.grownBy (w.setCell ⟨g, i, none⟩ v) (some g) :=
  ⟨rfl, rfl, rfl, by simp, fun k hk hne => Below.heap_setCell w ⟨g, i, none⟩ v k (by intro h; subst h; exact hne rfl)⟩

theorem OwnI.other {k : IntKind} {w : World} {base : Nat} {e : TypeId} {v : Value} {xs : List Int} {g i : Nat} {u : Value} (h : OwnI k w base e v xs) (hne : v.ownBlock ≠ some g) : OwnI k (w.setCell ⟨g, i, none⟩ u) base e v xs :=
  World.ownsRow.kept h (grownBy_set w g i u) (.inr hne)

theorem results_cell1 {fn : Func} {p : Tmp} {ty : TypeId} (h : fn.results = #[.cell p ty]) (tmps : Array Value) (P : Program) (w : World) :
    (results fn tmps).run P w = ((asAddr (tmps.getD p undef)).run P w).andThen fun a w₁ => (loadVar ty a).run P w₁ := by
  simp only [results, h]
  simp [Sem.run_bind, Result.andThen]

theorem RowIn.set {k : IntKind} {w : World} {a : Option Addr} {len cap : Nat} {xs : List Int} {g i : Nat} {u : Value} (h : RowIn k w a len cap xs) (hne : ∀ x, a = some x → x.block ≠ g) : RowIn k (w.setCell ⟨g, i, none⟩ u) a len cap xs := by
  refine ⟨⟨?_, h.rd.2⟩, h.hl, h.hc, h.hm⟩
  rcases h.rd.1 with h1 | ⟨b, off, rfl, hc⟩
  · exact .inl h1
  · refine .inr ⟨b, off, rfl, fun j hj => ?_⟩
    rw [World.cell?_of_block (Below.heap_setCell w ⟨g, i, none⟩ u b (hne _ rfl))]
    exact hc j hj

theorem Box2.set {w : World} {g g' i : Nat} {u v x : Value} (h : Box2 w g u v) (hne : g ≠ g') : Box2 (w.setCell ⟨g', i, none⟩ x) g u v := by
  have e := Below.heap_setCell w ⟨g', i, none⟩ x g hne
  exact ⟨by rw [World.cell?_of_block e]; exact h.c0, by rw [World.cell?_of_block e]; exact h.c1, by rw [World.frozen?_of_block e]; exact h.f0, by rw [World.frozen?_of_block e]; exact h.f1⟩
end Go.Proofs.Ytmnhepcnbdbhoaa.Kit

namespace Go.Proofs.Ytmnhepcnbdbhoaa.Kit
open Go.RowKit
set_option linter.unusedSimpArgs false

theorem OwnI.mono {k : IntKind} {w : World} {base base' : Nat} {e : TypeId} {v : Value} {xs : List Int} (h : OwnI k w base e v xs) (hb : base' ≤ base) : OwnI k w base' e v xs := by
  obtain ⟨h1, h2⟩ := h
  refine ⟨h1, ?_⟩
  rcases h2 with h | ⟨g, cap, cur, hv, hg, r⟩
  · exact .inl h
  · exact .inr ⟨g, cap, cur, hv, Nat.le_trans hb hg, r⟩

theorem OwnI.far {k : IntKind} {w : World} {base : Nat} {e : TypeId} {v : Value} {xs : List Int} {g : Nat} (h : OwnI k w base e v xs) (hg : g < base) : v.ownBlock ≠ some g := by
  intro he
  have := (World.ownsRow.lt h g he).1
  omega

/-- 'append(s, b...)', one operation. -/
theorem appW {P : Program} {o : Oper} {a : Act} {K : Act → World → Prop} {Q : Exit → Act → World → Prop} {w : World} (s x : Operand) (t : TypeId)
    (ho : o.op = .call { callee := .builtin .append, args := #[s, x], argTypes := #[t, t] })
    (base : Nat) (e : TypeId) (i : TypeInfo) (z : Value) (bytes : Nat) (ht : P.underlying t = some (.slice e)) (hi : P.info? e = some i) (hz : i.zero = some z)
    (hsize : i.size = 1) (hby : i.bytes = bytes) (hzs : z.cells.size = 1)
    (k : IntKind) (v : Value) (xs : List Int) (hown : OwnI k w base e v xs) (sa : Option Addr) (len cap : Nat) (ys : List Int) (hr : Reads k w sa ys) (hl : ys.length = len) (hs : a.eval s = v) (hx : a.eval x = .slice sa len cap) (hbase : base ≤ w.heap.size)
    (hbytes : (xs.length + len) * bytes ≤ 140737488355328) (h63 : xs.length + len ≤ 140737488355328)
    (h : ∀ v' w', OwnI k w' base e v' (xs ++ ys) → w.grownBy w' v.ownBlock → Below base w w' → K (a.put o.dst v') w') :
    o.wp P a w K Q := by
  subst hl
  have hown' : w.ownsRow base e 1 v xs.length (xs.map (Value.int k)) := hown
  by_cases hy : ys = []
  · subst hy
    have hrun : (Builtin.append_ #[t, t] o.type #[v, .slice sa 0 cap]).run P w = .ok v w := by
      rcases hown'.2 with ⟨rfl, hn⟩ | ⟨g, cp, cur, rfl, _, _, hnc, _⟩
      · cases sa <;> simp [Builtin.append_, run_underlying ht, sizeOf, typeInfo, hi, hsize, Builtin.lenOf, Builtin.firstCells, loadCells, loadCellsFrom]
      · cases sa <;> simp [Builtin.append_, run_underlying ht, sizeOf, typeInfo, hi, hsize, Builtin.lenOf, Builtin.firstCells, hnc, storeCells, loadCells, loadCellsFrom]
    unfold Oper.wp execOp
    simp only [List.length_nil] at hx
    simp only [ho, resolve, invoke, builtin, Sem.run_bind, Sem.run_pure, Result.andThen_ok, List.map_toArray, List.map_cons, List.map_nil, hs, hx, hrun]
    exact h v w (by rw [List.append_nil]; exact hown) ⟨rfl, rfl, rfl, Nat.le_refl _, fun _ _ _ => rfl⟩ (Below.refl _ _)
  · obtain ⟨b, off, rfl, hc⟩ := hr.cells hy
    have hpos : 0 < ys.length := List.length_pos_iff.2 hy
    refine wp_append_lies w s x t ho base e i z 1 bytes ht hi hz hsize hby hzs (by decide) v xs.length (xs.map (Value.int k)) hs hown' ⟨b, off, none⟩ ys.length cap (ys.map (Value.int k)) hx (by simp) ?_ ?_ hpos (by unfold maxLen; omega) hbytes hbase w.heap.size rfl ?_
    · intro j u hu
      rw [List.getElem?_map] at hu
      have hj : j < ys.length := by
        rcases Nat.lt_or_ge j ys.length with hj | hj
        · exact hj
        · rw [List.getElem?_eq_none (by omega)] at hu; cases hu
      rw [List.getElem?_eq_getElem hj] at hu
      simp only [Option.map_some, Option.some.injEq] at hu
      rw [add_none, hc j hj, List.getD_eq_getElem?_getD, List.getElem?_eq_getElem hj, ← hu]; rfl
    · intro u hu
      rw [List.mem_map] at hu
      obtain ⟨_, _, rfl⟩ := hu
      rfl
    · intro g cp w' h1 h2 _ _
      refine h _ w' ?_ h2 (below_of_grown h2 (fun j hj => (World.ownsRow.lt hown' j hj).1) hbase)
      unfold OwnI
      rw [List.length_append, List.map_append]
      exact h1

/-- .. at a step of a region that draws. -/
theorem appS {P : Program} {ops : Array Oper} {o : Oper} {a : Act} {K : Act → World → Prop} {Q : Exit → Act → World → Prop} {E : Prop} {w : World} (hgd : o.guard = none) (s x : Operand) (t : TypeId)
    (ho : o.op = .call { callee := .builtin .append, args := #[s, x], argTypes := #[t, t] })
    (base : Nat) (e : TypeId) (i : TypeInfo) (z : Value) (bytes : Nat) (ht : P.underlying t = some (.slice e)) (hi : P.info? e = some i) (hz : i.zero = some z)
    (hsize : i.size = 1) (hby : i.bytes = bytes) (hzs : z.cells.size = 1)
    (k : IntKind) (v : Value) (xs : List Int) (hown : OwnI k w base e v xs) (sa : Option Addr) (len cap : Nat) (ys : List Int) (hr : Reads k w sa ys) (hl : ys.length = len) (hs : a.eval s = v) (hx : a.eval x = .slice sa len cap) (hbase : base ≤ w.heap.size)
    (hbytes : (xs.length + len) * bytes ≤ 140737488355328) (h63 : xs.length + len ≤ 140737488355328)
    (h : ∀ v' w', OwnI k w' base e v' (xs ++ ys) → w.grownBy w' v.ownBlock → Below base w w' → K (a.put o.dst v') w') :
    if Region.wanted o (yielded ops a.tmps) = true then Oper.wp P o a w K Q else E := by
  have hw : Region.wanted o (yielded ops a.tmps) = true := by simp [Region.wanted, hgd]
  rw [if_pos hw]
  exact appW s x t ho base e i z bytes ht hi hz hsize hby hzs k v xs hown sa len cap ys hr hl hs hx hbase hbytes h63 h

theorem OwnI.form {k : IntKind} {w : World} {base : Nat} {e : TypeId} {v : Value} {xs : List Int} (h : OwnI k w base e v xs) (hne : xs ≠ []) : ∃ g cap, v = .slice (some ⟨g, 0, none⟩) xs.length cap := by
  rcases h.2 with ⟨_, h0⟩ | ⟨g, cap, cur, rfl, _⟩
  · exact absurd (List.eq_nil_of_length_eq_zero h0) hne
  · exact ⟨g, cap, rfl⟩

theorem OwnI.apart {k : IntKind} {w : World} {base : Nat} {e t : TypeId} {g g' n cap : Nat} {xs : List Int} {cs : Array Value} (h : OwnI k w base e (.slice (some ⟨g, 0, none⟩) n cap) xs) (hb : w.heap[g']? = some (.cells cs t)) (hne : t ≠ e) : g' ≠ g := by
  rintro rfl
  rcases h.2 with ⟨h', _⟩ | ⟨g2, cp, cur, h', _, hg, _⟩
  · simp at h'
  · simp only [Value.slice.injEq, Option.some.injEq, Addr.mk.injEq, and_true, true_and] at h'
    obtain ⟨rfl, _⟩ := h'
    rw [hg] at hb
    simp at hb
    exact hne hb.2.symm

theorem blk_grown {w w' : World} {g : Nat} {row : Option Nat} {o : Obj} (h : w.heap[g]? = some o) (hg : w.grownBy w' row) (hne : some g ≠ row) : w'.heap[g]? = some o := by
  have hk : g < w.heap.size := (Array.getElem?_eq_some_iff.1 h).1
  rw [hg.block g hk hne]; exact h

/-- 'append(s, y)', the new block's number by a name. -/
theorem app1H {P : Program} {ops : Array Oper} {rest : List Oper} {o : Oper} {a : Act} {Q : Exit → Act → World → Prop} {w : World} (hgd : o.guard = none) (s x : Operand) (t : TypeId)
    (ho : o.op = .call { callee := .builtin .append, args := #[s, x], argTypes := #[t, t] })
    (base : Nat) (e : TypeId) (i : TypeInfo) (z : Value) (bytes : Nat) (ht : P.underlying t = some (.slice e)) (hi : P.info? e = some i) (hz : i.zero = some z)
    (hsize : i.size = 1) (hby : i.bytes = bytes) (hzs : z.cells.size = 1)
    (k : IntKind) (v : Value) (xs : List Int) (hown : OwnI k w base e v xs) (y : Int) (H : Nat) (hH : w.heap.size = H) (hs : a.eval s = v) (hx : a.eval x = .slice (some ⟨H, 0, none⟩) 1 1) (hbase : base ≤ w.heap.size)
    (hbytes : (xs.length + 1) * bytes ≤ 140737488355328) (h63 : xs.length + 1 ≤ 140737488355328)
    (h : ∀ v' w', OwnI k w' base e v' (xs ++ [y]) → w.grownBy w' v.ownBlock → Below base w w' → wpList P ops Q rest (a.put o.dst v') w') :
    wpList P ops Q (o :: rest) a (w.alloc (.cells #[.int k y] e)) := by
  subst hH
  exact app1 hgd s x t ho base e i z bytes ht hi hz hsize hby hzs k v xs hown y hs hx hbase hbytes h63 h

theorem Box2.put {w : World} {g : Nat} {u v : Value} (h : Box2 w g u v) (u' v' : Value) : Box2 ((w.setCell ⟨g, 0, none⟩ u').setCell ⟨g, 1, none⟩ v') g u' v' := by
  obtain ⟨h0, h1, h2, h3⟩ := h
  refine ⟨?_, ?_, ?_, ?_⟩
  · have n1 : (⟨g, 1, none⟩ : Addr) ≠ ⟨g, 0, none⟩ := by intro h; cases h
    exact (World.cell?_setCell_other (h := n1) ..).trans (World.cell?_setCell_same (h := h0) ..)
  · have n1 : (⟨g, 0, none⟩ : Addr) ≠ ⟨g, 1, none⟩ := by intro h; cases h
    exact World.cell?_setCell_same (u := v) (h := (World.cell?_setCell_other (h := n1) ..).trans h1) ..
  · rw [World.frozen?_setCell, World.frozen?_setCell]; exact h2
  · rw [World.frozen?_setCell, World.frozen?_setCell]; exact h3

/-- Blocks of another type than T are as they were. -/
def KeepT (T : TypeId) (w w' : World) : Prop := ∀ (g : Nat) (cs : Array Value) (t : TypeId), w.heap[g]? = some (.cells cs t) → t ≠ T → w'.heap[g]? = some (.cells cs t)

theorem KeepT.trans {T : TypeId} {a b c : World} (h1 : KeepT T a b) (h2 : KeepT T b c) : KeepT T a c := fun g cs t h ht => h2 g cs t (h1 g cs t h ht) ht
theorem KeepT.of_below {T : TypeId} {w w' : World} (h : Below w.heap.size w w') : KeepT T w w' := fun g cs t hg _ => by
  rw [h.block g (Array.getElem?_eq_some_iff.1 hg).1]; exact hg
theorem KeepT.drew {T : TypeId} {w : World} : KeepT T w w.drew := fun _ _ _ h _ => h
theorem KeepT.grown {k : IntKind} {T : TypeId} {w w' : World} {base : Nat} {v : Value} {xs : List Int} (ho : OwnI k w base T v xs) (hg : w.grownBy w' v.ownBlock) : KeepT T w w' := fun g cs t h ht => by
  refine blk_grown h hg ?_
  rcases ho.2 with ⟨rfl, _⟩ | ⟨g2, cap, cur, rfl, _⟩
  · simp [Value.ownBlock]
  · have := ho.apart h ht
    simp [Value.ownBlock]; exact this
theorem KeepT.setNew {T : TypeId} {w w' : World} (h : KeepT T w w') {g : Nat} (hg : w.heap.size ≤ g) (i : Nat) (u : Value) : KeepT T w (w'.setCell ⟨g, i, none⟩ u) := fun g2 cs t h2 ht => by
  have hk : g2 < w.heap.size := (Array.getElem?_eq_some_iff.1 h2).1
  rw [Below.heap_setCell w' ⟨g, i, none⟩ u g2 (by dsimp only; omega)]; exact h g2 cs t h2 ht
theorem KeepT.setOwn {k : IntKind} {T : TypeId} {w w' : World} {base g n cap : Nat} {xs : List Int} (h : KeepT T w w') (ho : OwnI k w' base T (.slice (some ⟨g, 0, none⟩) n cap) xs) (i : Nat) (u : Value) : KeepT T w (w'.setCell ⟨g, i, none⟩ u) := fun g2 cs t h2 ht => by
  have h3 := h g2 cs t h2 ht
  rw [Below.heap_setCell w' ⟨g, i, none⟩ u g2 (ho.apart h3 ht)]; exact h3
end Go.Proofs.Ytmnhepcnbdbhoaa.Kit

namespace Go.Proofs.Ytmnhepcnbdbhoaa.Kit
open Go.RowKit

/-- '[]byte("..")': the row behind its mark. -/
theorem litMark {k : IntKind} (w : World) (e : TypeId) (xs : List Int) (n : Nat) (C : Array Value) (fr : Nat × Nat) (hn : xs.length = n) (hC : C = (xs.map (Value.int k)).toArray) (hm : xs.length ≤ maxLen) (hw : ∀ x ∈ xs, (Lit.int k x).wf = true) :
    RowIn k (w.alloc (.cells C e fr)) (some ⟨w.heap.size, 0, none⟩) n n xs := by
  subst hC hn
  refine ⟨⟨.inr ⟨_, _, rfl, fun i hi => ?_⟩, hm, hw⟩, rfl, Nat.le_refl _, by unfold maxLen at hm; exact hm⟩
  rw [Nat.zero_add, World.cell?_alloc_mark]
  simp [List.getD_eq_getElem?_getD, hi]
end Go.Proofs.Ytmnhepcnbdbhoaa.Kit

namespace Go.Proofs.Ytmnhepcnbdbhoaa.Kit
open Go.RowKit
set_option linter.unusedSimpArgs false

/-- A block of four cells that holds these. -/
structure Box4 (w : World) (g : Nat) (p q r s : Value) : Prop where
  c0 : w.cell? ⟨g, 0, none⟩ = some p
  c1 : w.cell? ⟨g, 1, none⟩ = some q
  c2 : w.cell? ⟨g, 2, none⟩ = some r
  c3 : w.cell? ⟨g, 3, none⟩ = some s
  f0 : w.frozen? ⟨g, 0, none⟩ = false
  f1 : w.frozen? ⟨g, 1, none⟩ = false
  f2 : w.frozen? ⟨g, 2, none⟩ = false
  f3 : w.frozen? ⟨g, 3, none⟩ = false

theorem Box4.of {w : World} {g : Nat} {p q r s : Value} {t : TypeId} (h : w.heap[g]? = some (.cells #[p, q, r, s] t)) : Box4 w g p q r s :=
  ⟨by simp [World.cell?, h], by simp [World.cell?, h], by simp [World.cell?, h], by simp [World.cell?, h], by simp [World.frozen?, h], by simp [World.frozen?, h], by simp [World.frozen?, h], by simp [World.frozen?, h]⟩

theorem Box4.block {w w' : World} {g : Nat} {p q r s : Value} (h : Box4 w g p q r s) (e : w'.heap[g]? = w.heap[g]?) : Box4 w' g p q r s := by
  have ec : ∀ i, w'.cell? ⟨g, i, none⟩ = w.cell? ⟨g, i, none⟩ := fun i => World.cell?_of_block e
  have ef : ∀ i, w'.frozen? ⟨g, i, none⟩ = w.frozen? ⟨g, i, none⟩ := fun i => World.frozen?_of_block e
  exact ⟨by rw [ec]; exact h.c0, by rw [ec]; exact h.c1, by rw [ec]; exact h.c2, by rw [ec]; exact h.c3, by rw [ef]; exact h.f0, by rw [ef]; exact h.f1, by rw [ef]; exact h.f2, by rw [ef]; exact h.f3⟩

theorem Box4.below {w w' : World} {g B : Nat} {p q r s : Value} (h : Box4 w g p q r s) (hb : Below B w w') (hg : g < B) : Box4 w' g p q r s := h.block (hb.block g hg)
theorem Box4.set {w : World} {g g' i : Nat} {p q r s x : Value} (h : Box4 w g p q r s) (hne : g ≠ g') : Box4 (w.setCell ⟨g', i, none⟩ x) g p q r s := h.block (Below.heap_setCell w ⟨g', i, none⟩ x g hne)
theorem Box4.lt {w : World} {g : Nat} {p q r s : Value} (h : Box4 w g p q r s) : g < w.heap.size := World.block_lt_of_cell? w _ h.c0

/-- A store into one of them. -/
theorem cell_put {w : World} {g i : Nat} {u x : Value} (h : w.cell? ⟨g, i, none⟩ = some u) : (w.setCell ⟨g, i, none⟩ x).cell? ⟨g, i, none⟩ = some x := World.cell?_setCell_same (u := u) (h := h) ..
theorem cell_keep {w : World} {g i j : Nat} {u x : Value} (h : w.cell? ⟨g, i, none⟩ = some u) (hne : i ≠ j) : (w.setCell ⟨g, j, none⟩ x).cell? ⟨g, i, none⟩ = some u := by
  have n1 : (⟨g, j, none⟩ : Addr) ≠ ⟨g, i, none⟩ := by intro h; cases h; exact hne rfl
  exact (World.cell?_setCell_other (h := n1) ..).trans h
theorem frozen_keep {w : World} {g i j : Nat} {b : Bool} {x : Value} (h : w.frozen? ⟨g, i, none⟩ = b) : (w.setCell ⟨g, j, none⟩ x).frozen? ⟨g, i, none⟩ = b := by rw [World.frozen?_setCell]; exact h
theorem Box4.put0 {w : World} {g : Nat} {p q r s : Value} (h : Box4 w g p q r s) (x : Value) : Box4 (w.setCell ⟨g, 0, none⟩ x) g x q r s := ⟨cell_put h.c0, cell_keep h.c1 (by decide), cell_keep h.c2 (by decide), cell_keep h.c3 (by decide), frozen_keep h.f0, frozen_keep h.f1, frozen_keep h.f2, frozen_keep h.f3⟩
theorem Box4.put1 {w : World} {g : Nat} {p q r s : Value} (h : Box4 w g p q r s) (x : Value) : Box4 (w.setCell ⟨g, 1, none⟩ x) g p x r s := ⟨cell_keep h.c0 (by decide), cell_put h.c1, cell_keep h.c2 (by decide), cell_keep h.c3 (by decide), frozen_keep h.f0, frozen_keep h.f1, frozen_keep h.f2, frozen_keep h.f3⟩
theorem Box4.put2 {w : World} {g : Nat} {p q r s : Value} (h : Box4 w g p q r s) (x : Value) : Box4 (w.setCell ⟨g, 2, none⟩ x) g p q x s := ⟨cell_keep h.c0 (by decide), cell_keep h.c1 (by decide), cell_put h.c2, cell_keep h.c3 (by decide), frozen_keep h.f0, frozen_keep h.f1, frozen_keep h.f2, frozen_keep h.f3⟩
theorem Box4.put3 {w : World} {g : Nat} {p q r s : Value} (h : Box4 w g p q r s) (x : Value) : Box4 (w.setCell ⟨g, 3, none⟩ x) g p q r x := ⟨cell_keep h.c0 (by decide), cell_keep h.c1 (by decide), cell_keep h.c2 (by decide), cell_put h.c3, frozen_keep h.f0, frozen_keep h.f1, frozen_keep h.f2, frozen_keep h.f3⟩
theorem Box4.putAll {w : World} {g : Nat} {p q r s : Value} (h : Box4 w g p q r s) (p' q' r' s' : Value) : Box4 ((((w.setCell ⟨g, 0, none⟩ p').setCell ⟨g, 1, none⟩ q').setCell ⟨g, 2, none⟩ r').setCell ⟨g, 3, none⟩ s') g p' q' r' s' := (((h.put0 p').put1 q').put2 r').put3 s'
/-- Four stores leave what lies below. -/
theorem Below.set4 {w w' : World} {B g : Nat} (h : Below B w w') (hg : B ≤ g) (p q r s : Value) : Below B w ((((w'.setCell ⟨g, 0, none⟩ p).setCell ⟨g, 1, none⟩ q).setCell ⟨g, 2, none⟩ r).setCell ⟨g, 3, none⟩ s) :=
  (((h.setCell (by dsimp only; omega) _).setCell (by dsimp only; omega) _).setCell (by dsimp only; omega) _).setCell (by dsimp only; omega) _
theorem Below.set2 {w w' : World} {B g : Nat} (h : Below B w w') (hg : B ≤ g) (p q : Value) : Below B w ((w'.setCell ⟨g, 0, none⟩ p).setCell ⟨g, 1, none⟩ q) :=
  (h.setCell (by dsimp only; omega) _).setCell (by dsimp only; omega) _
theorem cellS1 {w : World} {a : Addr} {u v : Value} {g i : Nat} (h : w.cell? a = some u) (hne : a.block ≠ g) : (w.setCell ⟨g, i, none⟩ v).cell? a = some u := by
  rw [World.cell?_of_block (Below.heap_setCell w ⟨g, i, none⟩ v a.block hne)]; exact h
theorem cellS2 {w : World} {a : Addr} {u v x : Value} {g i j : Nat} (h : w.cell? a = some u) (hne : a.block ≠ g) : ((w.setCell ⟨g, i, none⟩ v).setCell ⟨g, j, none⟩ x).cell? a = some u := cellS1 (cellS1 h hne) hne
theorem size4 (w : World) (A B C D : Obj) : ((((w.alloc A).alloc B).alloc C).alloc D).heap.size = w.heap.size + 4 := by simp
theorem below4 (w : World) (A B C D : Obj) : Below w.heap.size w ((((w.alloc A).alloc B).alloc C).alloc D) := (below3 w A B C).alloc (by simp; omega) _
theorem blk4 (w : World) (A B C D : Obj) : ((((w.alloc A).alloc B).alloc C).alloc D).heap[w.heap.size + 3]? = some D := by
  have h : (((w.alloc A).alloc B).alloc C).heap.size = w.heap.size + 3 := by simp
  rw [← h]; exact blk1 _ _
theorem blk4a (w : World) (A B C D : Obj) : ((((w.alloc A).alloc B).alloc C).alloc D).heap[w.heap.size]? = some A := blkOld _ (blk3a w A B C)
theorem blk4b (w : World) (A B C D : Obj) : ((((w.alloc A).alloc B).alloc C).alloc D).heap[w.heap.size + 1]? = some B := blkOld _ (blk3b w A B C)
theorem blk4c (w : World) (A B C D : Obj) : ((((w.alloc A).alloc B).alloc C).alloc D).heap[w.heap.size + 2]? = some C := blkOld _ (blk3 w A B C)
theorem Box2.drew {w : World} {g : Nat} {u v : Value} (h : Box2 w g u v) : Box2 w.drew g u v := ⟨h.c0, h.c1, h.f0, h.f1⟩
theorem Box4.drew {w : World} {g : Nat} {p q r s : Value} (h : Box4 w g p q r s) : Box4 w.drew g p q r s := ⟨h.c0, h.c1, h.c2, h.c3, h.f0, h.f1, h.f2, h.f3⟩
theorem RowIn.drew {k : IntKind} {w : World} {a : Option Addr} {len cap : Nat} {xs : List Int} (h : RowIn k w a len cap xs) : RowIn k w.drew a len cap xs := h.same (Below.refl _ _).drew
end Go.Proofs.Ytmnhepcnbdbhoaa.Kit

namespace Go.Proofs.Ytmnhepcnbdbhoaa.Kit
open Go.RowKit
set_option linter.unusedSimpArgs false

theorem kS {w : World} {a : Addr} {g i : Nat} {v : Value} (h : a.block ≠ g) : (w.setCell ⟨g, i, none⟩ v).cell? a = w.cell? a := World.cell?_of_block (Below.heap_setCell w ⟨g, i, none⟩ v a.block h)
theorem kA {w : World} {a : Addr} {o : Obj} (h : a.block < w.heap.size) : (w.alloc o).cell? a = w.cell? a := World.cell?_of_block ((below1 w o).block a.block h)
theorem kD {w : World} {a : Addr} : w.drew.cell? a = w.cell? a := rfl
theorem bA {w w' : World} {B : Nat} {o : Obj} (h : Below B w w') (hs : B ≤ w'.heap.size) : Below B w (w'.alloc o) := h.alloc hs o
theorem bS {w w' : World} {B g i : Nat} {v : Value} (h : Below B w w') (hg : B ≤ g) : Below B w (w'.setCell ⟨g, i, none⟩ v) := h.setCell (by dsimp only; omega) v
theorem box2_lt {w : World} {g : Nat} {u v : Value} (h : Box2 w g u v) : g < w.heap.size := World.block_lt_of_cell? w _ h.c0
theorem box2A {w : World} {g : Nat} {u v : Value} {o : Obj} (h : Box2 w g u v) : Box2 (w.alloc o) g u v := h.below (below1 w o) (box2_lt h)
theorem box4A {w : World} {g : Nat} {p q r s : Value} {o : Obj} (h : Box4 w g p q r s) : Box4 (w.alloc o) g p q r s := h.below (below1 w o) h.lt
theorem box2N {w : World} {g : Nat} {p q : Value} {t : TypeId} (h : g = w.heap.size) : Box2 (w.alloc (.cells #[p, q] t)) g p q := by subst h; exact Box2.of (blk1 _ _)
theorem box4N {w : World} {g : Nat} {p q r s : Value} {t : TypeId} (h : g = w.heap.size) : Box4 (w.alloc (.cells #[p, q, r, s] t)) g p q r s := by subst h; exact Box4.of (blk1 _ _)
theorem box2S {w : World} {g G i : Nat} {u v x : Value} (h : Box2 w g u v) (hne : g ≠ G) : Box2 (w.setCell ⟨G, i, none⟩ x) g u v := h.set hne
theorem box4S {w : World} {g G i : Nat} {p q r s x : Value} (h : Box4 w g p q r s) (hne : g ≠ G) : Box4 (w.setCell ⟨G, i, none⟩ x) g p q r s := h.set hne
/-- A block of two, or of four cells, whatever it holds. -/
def Blk2 (w : World) (g : Nat) : Prop := ∃ u v, Box2 w g u v
def Blk4 (w : World) (g : Nat) : Prop := ∃ p q r s, Box4 w g p q r s
theorem Blk2.of {w : World} {g : Nat} {u v : Value} (h : Box2 w g u v) : Blk2 w g := ⟨u, v, h⟩
theorem Blk4.of {w : World} {g : Nat} {p q r s : Value} (h : Box4 w g p q r s) : Blk4 w g := ⟨p, q, r, s, h⟩
theorem box2P {w : World} {g : Nat} {p q : Value} (h : Blk2 w g) : Box2 ((w.setCell ⟨g, 0, none⟩ p).setCell ⟨g, 1, none⟩ q) g p q := by obtain ⟨u, v, h⟩ := h; exact Box2.put h p q
theorem box4P {w : World} {g : Nat} {p q r s : Value} (h : Blk4 w g) : Box4 ((((w.setCell ⟨g, 0, none⟩ p).setCell ⟨g, 1, none⟩ q).setCell ⟨g, 2, none⟩ r).setCell ⟨g, 3, none⟩ s) g p q r s := by obtain ⟨a, b, c, d, h⟩ := h; exact h.putAll p q r s
theorem blk2S {w : World} {g G i : Nat} {x : Value} (h : Blk2 w g) (hne : g ≠ G) : Blk2 (w.setCell ⟨G, i, none⟩ x) g := by obtain ⟨u, v, h⟩ := h; exact ⟨u, v, h.set hne⟩
theorem blk4S {w : World} {g G i : Nat} {x : Value} (h : Blk4 w g) (hne : g ≠ G) : Blk4 (w.setCell ⟨G, i, none⟩ x) g := by obtain ⟨p, q, r, s, h⟩ := h; exact ⟨p, q, r, s, h.set hne⟩
theorem blk2A {w : World} {g : Nat} {o : Obj} (h : Blk2 w g) : Blk2 (w.alloc o) g := by obtain ⟨u, v, h⟩ := h; exact ⟨u, v, box2A h⟩
theorem blk4A {w : World} {g : Nat} {o : Obj} (h : Blk4 w g) : Blk4 (w.alloc o) g := by obtain ⟨p, q, r, s, h⟩ := h; exact ⟨p, q, r, s, box4A h⟩
theorem rowA {k : IntKind} {w : World} {a : Option Addr} {len cap : Nat} {xs : List Int} {o : Obj} (h : RowIn k w a len cap xs) : RowIn k (w.alloc o) a len cap xs := h.same (below1 w o)
theorem rowS {k : IntKind} {w : World} {a : Option Addr} {len cap : Nat} {xs : List Int} {g i : Nat} {u : Value} (h : RowIn k w a len cap xs) (hne : ∀ x, a = some x → x.block ≠ g) : RowIn k (w.setCell ⟨g, i, none⟩ u) a len cap xs := h.set hne
theorem cell_below {w w' : World} {B : Nat} {a : Addr} {u : Value} (h : w.cell? a = some u) (hb : Below B w w') (hl : a.block < B) : w'.cell? a = some u := by rw [hb.cell hl]; exact h
end Go.Proofs.Ytmnhepcnbdbhoaa.Kit

namespace Go.Proofs.Ytmnhepcnbdbhoaa.Kit
open Go.RowKit
set_option linter.unusedSimpArgs false
set_option linter.unusedVariables false

/-- A block of seven cells that holds these. -/
structure Box7 (w : World) (g : Nat) (p0 p1 p2 p3 p4 p5 p6 : Value) : Prop where
  c0 : w.cell? ⟨g, 0, none⟩ = some p0
  c1 : w.cell? ⟨g, 1, none⟩ = some p1
  c2 : w.cell? ⟨g, 2, none⟩ = some p2
  c3 : w.cell? ⟨g, 3, none⟩ = some p3
  c4 : w.cell? ⟨g, 4, none⟩ = some p4
  c5 : w.cell? ⟨g, 5, none⟩ = some p5
  c6 : w.cell? ⟨g, 6, none⟩ = some p6
  f0 : w.frozen? ⟨g, 0, none⟩ = false
  f1 : w.frozen? ⟨g, 1, none⟩ = false
  f2 : w.frozen? ⟨g, 2, none⟩ = false
  f3 : w.frozen? ⟨g, 3, none⟩ = false
  f4 : w.frozen? ⟨g, 4, none⟩ = false
  f5 : w.frozen? ⟨g, 5, none⟩ = false
  f6 : w.frozen? ⟨g, 6, none⟩ = false

theorem Box7.of {w : World} {g : Nat} {p0 p1 p2 p3 p4 p5 p6 : Value} {t : TypeId} (h : w.heap[g]? = some (.cells #[p0, p1, p2, p3, p4, p5, p6] t)) : Box7 w g p0 p1 p2 p3 p4 p5 p6 :=
  ⟨by simp [World.cell?, h], by simp [World.cell?, h], by simp [World.cell?, h], by simp [World.cell?, h], by simp [World.cell?, h], by simp [World.cell?, h], by simp [World.cell?, h], by simp [World.frozen?, h], by simp [World.frozen?, h], by simp [World.frozen?, h], by simp [World.frozen?, h], by simp [World.frozen?, h], by simp [World.frozen?, h], by simp [World.frozen?, h]⟩
theorem Box7.block {w w' : World} {g : Nat} {p0 p1 p2 p3 p4 p5 p6 : Value} (h : Box7 w g p0 p1 p2 p3 p4 p5 p6) (e : w'.heap[g]? = w.heap[g]?) : Box7 w' g p0 p1 p2 p3 p4 p5 p6 := by
  have ec : ∀ i, w'.cell? ⟨g, i, none⟩ = w.cell? ⟨g, i, none⟩ := fun i => World.cell?_of_block e
  have ef : ∀ i, w'.frozen? ⟨g, i, none⟩ = w.frozen? ⟨g, i, none⟩ := fun i => World.frozen?_of_block e
  exact ⟨by rw [ec]; exact h.c0, by rw [ec]; exact h.c1, by rw [ec]; exact h.c2, by rw [ec]; exact h.c3, by rw [ec]; exact h.c4, by rw [ec]; exact h.c5, by rw [ec]; exact h.c6, by rw [ef]; exact h.f0, by rw [ef]; exact h.f1, by rw [ef]; exact h.f2, by rw [ef]; exact h.f3, by rw [ef]; exact h.f4, by rw [ef]; exact h.f5, by rw [ef]; exact h.f6⟩
theorem Box7.below {w w' : World} {g B : Nat} {p0 p1 p2 p3 p4 p5 p6 : Value} (h : Box7 w g p0 p1 p2 p3 p4 p5 p6) (hb : Below B w w') (hg : g < B) : Box7 w' g p0 p1 p2 p3 p4 p5 p6 := h.block (hb.block g hg)
theorem Box7.set {w : World} {g g' i : Nat} {p0 p1 p2 p3 p4 p5 p6 : Value} {x : Value} (h : Box7 w g p0 p1 p2 p3 p4 p5 p6) (hne : g ≠ g') : Box7 (w.setCell ⟨g', i, none⟩ x) g p0 p1 p2 p3 p4 p5 p6 := h.block (Below.heap_setCell w ⟨g', i, none⟩ x g hne)
theorem Box7.lt {w : World} {g : Nat} {p0 p1 p2 p3 p4 p5 p6 : Value} (h : Box7 w g p0 p1 p2 p3 p4 p5 p6) : g < w.heap.size := World.block_lt_of_cell? w _ h.c0
theorem Box7.drew {w : World} {g : Nat} {p0 p1 p2 p3 p4 p5 p6 : Value} (h : Box7 w g p0 p1 p2 p3 p4 p5 p6) : Box7 w.drew g p0 p1 p2 p3 p4 p5 p6 := ⟨h.c0, h.c1, h.c2, h.c3, h.c4, h.c5, h.c6, h.f0, h.f1, h.f2, h.f3, h.f4, h.f5, h.f6⟩
theorem Box7.put0 {w : World} {g : Nat} {p0 p1 p2 p3 p4 p5 p6 : Value} (h : Box7 w g p0 p1 p2 p3 p4 p5 p6) (x : Value) : Box7 (w.setCell ⟨g, 0, none⟩ x) g x p1 p2 p3 p4 p5 p6 := ⟨cell_put h.c0, cell_keep h.c1 (by decide), cell_keep h.c2 (by decide), cell_keep h.c3 (by decide), cell_keep h.c4 (by decide), cell_keep h.c5 (by decide), cell_keep h.c6 (by decide), frozen_keep h.f0, frozen_keep h.f1, frozen_keep h.f2, frozen_keep h.f3, frozen_keep h.f4, frozen_keep h.f5, frozen_keep h.f6⟩
theorem Box7.put1 {w : World} {g : Nat} {p0 p1 p2 p3 p4 p5 p6 : Value} (h : Box7 w g p0 p1 p2 p3 p4 p5 p6) (x : Value) : Box7 (w.setCell ⟨g, 1, none⟩ x) g p0 x p2 p3 p4 p5 p6 := ⟨cell_keep h.c0 (by decide), cell_put h.c1, cell_keep h.c2 (by decide), cell_keep h.c3 (by decide), cell_keep h.c4 (by decide), cell_keep h.c5 (by decide), cell_keep h.c6 (by decide), frozen_keep h.f0, frozen_keep h.f1, frozen_keep h.f2, frozen_keep h.f3, frozen_keep h.f4, frozen_keep h.f5, frozen_keep h.f6⟩
theorem Box7.put2 {w : World} {g : Nat} {p0 p1 p2 p3 p4 p5 p6 : Value} (h : Box7 w g p0 p1 p2 p3 p4 p5 p6) (x : Value) : Box7 (w.setCell ⟨g, 2, none⟩ x) g p0 p1 x p3 p4 p5 p6 := ⟨cell_keep h.c0 (by decide), cell_keep h.c1 (by decide), cell_put h.c2, cell_keep h.c3 (by decide), cell_keep h.c4 (by decide), cell_keep h.c5 (by decide), cell_keep h.c6 (by decide), frozen_keep h.f0, frozen_keep h.f1, frozen_keep h.f2, frozen_keep h.f3, frozen_keep h.f4, frozen_keep h.f5, frozen_keep h.f6⟩
theorem Box7.put3 {w : World} {g : Nat} {p0 p1 p2 p3 p4 p5 p6 : Value} (h : Box7 w g p0 p1 p2 p3 p4 p5 p6) (x : Value) : Box7 (w.setCell ⟨g, 3, none⟩ x) g p0 p1 p2 x p4 p5 p6 := ⟨cell_keep h.c0 (by decide), cell_keep h.c1 (by decide), cell_keep h.c2 (by decide), cell_put h.c3, cell_keep h.c4 (by decide), cell_keep h.c5 (by decide), cell_keep h.c6 (by decide), frozen_keep h.f0, frozen_keep h.f1, frozen_keep h.f2, frozen_keep h.f3, frozen_keep h.f4, frozen_keep h.f5, frozen_keep h.f6⟩
theorem Box7.put4 {w : World} {g : Nat} {p0 p1 p2 p3 p4 p5 p6 : Value} (h : Box7 w g p0 p1 p2 p3 p4 p5 p6) (x : Value) : Box7 (w.setCell ⟨g, 4, none⟩ x) g p0 p1 p2 p3 x p5 p6 := ⟨cell_keep h.c0 (by decide), cell_keep h.c1 (by decide), cell_keep h.c2 (by decide), cell_keep h.c3 (by decide), cell_put h.c4, cell_keep h.c5 (by decide), cell_keep h.c6 (by decide), frozen_keep h.f0, frozen_keep h.f1, frozen_keep h.f2, frozen_keep h.f3, frozen_keep h.f4, frozen_keep h.f5, frozen_keep h.f6⟩
theorem Box7.put5 {w : World} {g : Nat} {p0 p1 p2 p3 p4 p5 p6 : Value} (h : Box7 w g p0 p1 p2 p3 p4 p5 p6) (x : Value) : Box7 (w.setCell ⟨g, 5, none⟩ x) g p0 p1 p2 p3 p4 x p6 := ⟨cell_keep h.c0 (by decide), cell_keep h.c1 (by decide), cell_keep h.c2 (by decide), cell_keep h.c3 (by decide), cell_keep h.c4 (by decide), cell_put h.c5, cell_keep h.c6 (by decide), frozen_keep h.f0, frozen_keep h.f1, frozen_keep h.f2, frozen_keep h.f3, frozen_keep h.f4, frozen_keep h.f5, frozen_keep h.f6⟩
theorem Box7.put6 {w : World} {g : Nat} {p0 p1 p2 p3 p4 p5 p6 : Value} (h : Box7 w g p0 p1 p2 p3 p4 p5 p6) (x : Value) : Box7 (w.setCell ⟨g, 6, none⟩ x) g p0 p1 p2 p3 p4 p5 x := ⟨cell_keep h.c0 (by decide), cell_keep h.c1 (by decide), cell_keep h.c2 (by decide), cell_keep h.c3 (by decide), cell_keep h.c4 (by decide), cell_keep h.c5 (by decide), cell_put h.c6, frozen_keep h.f0, frozen_keep h.f1, frozen_keep h.f2, frozen_keep h.f3, frozen_keep h.f4, frozen_keep h.f5, frozen_keep h.f6⟩
theorem Box7.putAll {w : World} {g : Nat} {p0 p1 p2 p3 p4 p5 p6 : Value} (h : Box7 w g p0 p1 p2 p3 p4 p5 p6) (q0 q1 q2 q3 q4 q5 q6 : Value) : Box7 (((((((w.setCell ⟨g, 0, none⟩ q0).setCell ⟨g, 1, none⟩ q1).setCell ⟨g, 2, none⟩ q2).setCell ⟨g, 3, none⟩ q3).setCell ⟨g, 4, none⟩ q4).setCell ⟨g, 5, none⟩ q5).setCell ⟨g, 6, none⟩ q6) g q0 q1 q2 q3 q4 q5 q6 := (((((((h.put0 q0).put1 q1).put2 q2).put3 q3).put4 q4).put5 q5).put6 q6)
/-- Seven stores leave what lies below. -/
theorem Below.set7 {w w' : World} {B g : Nat} (h : Below B w w') (hg : B ≤ g) (q0 q1 q2 q3 q4 q5 q6 : Value) : Below B w (((((((w'.setCell ⟨g, 0, none⟩ q0).setCell ⟨g, 1, none⟩ q1).setCell ⟨g, 2, none⟩ q2).setCell ⟨g, 3, none⟩ q3).setCell ⟨g, 4, none⟩ q4).setCell ⟨g, 5, none⟩ q5).setCell ⟨g, 6, none⟩ q6) := (((((((h.setCell (by dsimp only; omega) _).setCell (by dsimp only; omega) _).setCell (by dsimp only; omega) _).setCell (by dsimp only; omega) _).setCell (by dsimp only; omega) _).setCell (by dsimp only; omega) _).setCell (by dsimp only; omega) _)
theorem box7A {w : World} {g : Nat} {p0 p1 p2 p3 p4 p5 p6 : Value} {o : Obj} (h : Box7 w g p0 p1 p2 p3 p4 p5 p6) : Box7 (w.alloc o) g p0 p1 p2 p3 p4 p5 p6 := h.below (below1 w o) h.lt
theorem box7N {w : World} {g : Nat} {p0 p1 p2 p3 p4 p5 p6 : Value} {t : TypeId} (h : g = w.heap.size) : Box7 (w.alloc (.cells #[p0, p1, p2, p3, p4, p5, p6] t)) g p0 p1 p2 p3 p4 p5 p6 := by subst h; exact Box7.of (blk1 _ _)
theorem box7S {w : World} {g G i : Nat} {p0 p1 p2 p3 p4 p5 p6 : Value} {x : Value} (h : Box7 w g p0 p1 p2 p3 p4 p5 p6) (hne : g ≠ G) : Box7 (w.setCell ⟨G, i, none⟩ x) g p0 p1 p2 p3 p4 p5 p6 := h.set hne
def Blk7 (w : World) (g : Nat) : Prop := ∃ p0 p1 p2 p3 p4 p5 p6, Box7 w g p0 p1 p2 p3 p4 p5 p6
theorem Blk7.of {w : World} {g : Nat} {p0 p1 p2 p3 p4 p5 p6 : Value} (h : Box7 w g p0 p1 p2 p3 p4 p5 p6) : Blk7 w g := ⟨p0, p1, p2, p3, p4, p5, p6, h⟩
theorem box7P {w : World} {g : Nat} {q0 q1 q2 q3 q4 q5 q6 : Value} (h : Blk7 w g) : Box7 (((((((w.setCell ⟨g, 0, none⟩ q0).setCell ⟨g, 1, none⟩ q1).setCell ⟨g, 2, none⟩ q2).setCell ⟨g, 3, none⟩ q3).setCell ⟨g, 4, none⟩ q4).setCell ⟨g, 5, none⟩ q5).setCell ⟨g, 6, none⟩ q6) g q0 q1 q2 q3 q4 q5 q6 := by obtain ⟨p0, p1, p2, p3, p4, p5, p6, h⟩ := h; exact h.putAll q0 q1 q2 q3 q4 q5 q6
theorem blk7S {w : World} {g G i : Nat} {x : Value} (h : Blk7 w g) (hne : g ≠ G) : Blk7 (w.setCell ⟨G, i, none⟩ x) g := by obtain ⟨p0, p1, p2, p3, p4, p5, p6, h⟩ := h; exact ⟨p0, p1, p2, p3, p4, p5, p6, h.set hne⟩
theorem blk7A {w : World} {g : Nat} {o : Obj} (h : Blk7 w g) : Blk7 (w.alloc o) g := by obtain ⟨p0, p1, p2, p3, p4, p5, p6, h⟩ := h; exact ⟨p0, p1, p2, p3, p4, p5, p6, box7A h⟩

/-- Results in [cell, slot, slot]. -/
theorem results_ctt {fn : Func} {p u q : Tmp} {t1 : TypeId} (h : fn.results = #[.cell p t1, .tmp u, .tmp q]) (tmps : Array Value) (P : Program) (w : World) :
    (results fn tmps).run P w = ((asAddr (tmps.getD p undef)).run P w).andThen fun a w₁ => ((loadVar t1 a).run P w₁).andThen fun v w₂ => .ok (.tuple #[v, tmps.getD u undef, tmps.getD q undef]) w₂ := by
  simp only [results, h]
  simp [Sem.run_bind, Result.andThen]

/-- The values vs, of one cell each, are the call's own, in a row of its own from block 'base' on. -/
def OwnV (w : World) (base : Nat) (e : TypeId) (v : Value) (vs : List Value) : Prop := w.ownsRow base e 1 v vs.length vs
theorem OwnV.nil {w : World} {base : Nat} {e : TypeId} : OwnV w base e (.slice none 0 0) [] := World.ownsRow_nil w base e 1
theorem OwnV.below {w w' : World} {base : Nat} {e : TypeId} {v : Value} {vs : List Value} (h : OwnV w base e v vs) (hb : Below w.heap.size w w') : OwnV w' base e v vs := by
  refine World.ownsRow.kept (row := none) h ⟨hb.os, hb.tape, hb.output, hb.size, fun k hk _ => hb.block k hk⟩ ?_
  cases v.ownBlock <;> simp
theorem OwnV.other {w : World} {base : Nat} {e : TypeId} {v : Value} {vs : List Value} {g i : Nat} {u : Value} (h : OwnV w base e v vs) (hne : v.ownBlock ≠ some g) : OwnV (w.setCell ⟨g, i, none⟩ u) base e v vs :=
  World.ownsRow.kept h (grownBy_set w g i u) (.inr hne)
theorem OwnV.far {w : World} {base : Nat} {e : TypeId} {v : Value} {vs : List Value} {g : Nat} (h : OwnV w base e v vs) (hg : g < base) : v.ownBlock ≠ some g := by
  intro hv
  have := World.ownsRow.lt h g hv
  omega

/-- 'append(s, y, ..)': values behind those that are the call's own, behind the block in which they were laid. -/
theorem appV {P : Program} {ops : Array Oper} {rest : List Oper} {o : Oper} {a : Act} {Q : Exit → Act → World → Prop} {w : World} (hgd : o.guard = none) (s x : Operand) (t : TypeId)
    (ho : o.op = .call { callee := .builtin .append, args := #[s, x], argTypes := #[t, t] })
    (base : Nat) (e : TypeId) (i : TypeInfo) (z : Value) (bytes : Nat) (ht : P.underlying t = some (.slice e)) (hi : P.info? e = some i) (hz : i.zero = some z)
    (hsize : i.size = 1) (hby : i.bytes = bytes) (hzs : z.cells.size = 1)
    (v : Value) (vs : List Value) (hown : OwnV w base e v vs) (ys : List Value) (m : Nat) (hm : ys.length = m) (h1c : ∀ u ∈ ys, u.oneCell' = true) (hs : a.eval s = v) (hx : a.eval x = .slice (some ⟨w.heap.size, 0, none⟩) m m) (hbase : base ≤ w.heap.size)
    (hbytes : (vs.length + m) * bytes ≤ 140737488355328) (h63 : vs.length + m ≤ 140737488355328)
    (h : ∀ v' w', OwnV w' base e v' (vs ++ ys) → w.grownBy w' v.ownBlock → Below base w w' → wpList P ops Q rest (a.put o.dst v') w') :
    wpList P ops Q (o :: rest) a (w.alloc (.cells ys.toArray e)) := by
  subst hm
  have hown' : w.ownsRow base e 1 v vs.length vs := hown
  refine wpList_append_own _ hgd s x t ho base e i z 1 bytes ht hi hz hsize hby hzs (by decide) v vs.length vs hs (hown'.alloc _) ⟨w.heap.size, 0, none⟩ ys.length ys.length ys hx (by simp) ?_ h1c ?_ hbytes ?_ ?_
  · intro j u hu
    rw [add_none, Nat.zero_add]
    simp only [World.cell?, blk1]
    simpa using hu
  · unfold maxLen; omega
  · simp; omega
  · intro v' w' h1 h2 _
    have hg : w.grownBy w' v.ownBlock := by
      refine ⟨h2.os, h2.tape, h2.output, ?_, fun j hj hne => ?_⟩
      · have := h2.size; simp at this; omega
      · rw [h2.block j (by simp; omega) hne]; exact heap_alloc_old w _ hj
    refine h v' w' ?_ hg ?_
    · unfold OwnV
      rw [List.length_append]
      exact h1
    · exact below_of_grown hg (fun j hj => (World.ownsRow.lt hown' j hj).1) hbase

/-- A slice of values of one cell each. -/
structure RowV (w : World) (a : Option Addr) (len cap : Nat) (vs : List Value) : Prop where
  rd : vs = [] ∨ ∃ b off, a = some ⟨b, off, none⟩ ∧ ∀ i, i < vs.length → w.cell? ⟨b, off + i, none⟩ = vs[i]?
  hl : vs.length = len
  hc : len ≤ cap
  hm : cap ≤ 9223372036854775807
theorem RowV.nil {w : World} : RowV w none 0 0 [] := ⟨.inl rfl, rfl, Nat.le_refl _, by omega⟩
theorem RowV.same {w w' : World} {a : Option Addr} {len cap : Nat} {vs : List Value} (h : RowV w a len cap vs) (hb : Below w.heap.size w w') : RowV w' a len cap vs := by
  refine ⟨?_, h.hl, h.hc, h.hm⟩
  rcases h.rd with h1 | ⟨b, off, rfl, hc⟩
  · exact .inl h1
  · refine .inr ⟨b, off, rfl, fun i hi => ?_⟩
    have hci := hc i hi
    rw [List.getElem?_eq_getElem hi] at hci ⊢
    rw [hb.cell (World.block_lt_of_cell? w _ hci)]; exact hci
theorem OwnV.row {w : World} {base : Nat} {e : TypeId} {v : Value} {vs : List Value} (h : OwnV w base e v vs) : ∃ a cap, v = .slice a vs.length cap ∧ RowV w a vs.length cap vs := by
  rcases h.2 with ⟨hv, hn⟩ | ⟨g, cap, cur, hv, hb, hg, hnc, hcm, hcs, htake⟩
  · have hx : vs = [] := List.eq_nil_of_length_eq_zero hn
    subst hx
    exact ⟨none, 0, hv, RowV.nil⟩
  · refine ⟨some ⟨g, 0, none⟩, cap, hv, ⟨.inr ⟨g, 0, rfl, fun i hi => ?_⟩, rfl, hnc, by unfold maxLen at hcm; exact hcm⟩⟩
    subst hv
    rw [Nat.zero_add]
    exact World.ownsRow.cellAt h i (by omega)

/-- Values that are slices of these bytes. -/
def Slc (w : World) (vs : List Value) (ps : List (List Int)) : Prop :=
  vs.length = ps.length ∧ ∀ (i : Nat) (x : Value) (bs : List Int), vs[i]? = some x → ps[i]? = some bs → ∃ a' l' c', x = Value.slice a' l' c' ∧ RowIn .u8 w a' l' c' bs
theorem Slc.nil {w : World} : Slc w [] [] := ⟨rfl, fun i x bs hx => by simp at hx⟩
theorem Slc.same {w w' : World} {vs : List Value} {ps : List (List Int)} (h : Slc w vs ps) (hb : Below w.heap.size w w') : Slc w' vs ps := by
  refine ⟨h.1, fun i x bs hx hbs => ?_⟩
  obtain ⟨a', l', c', e, hr⟩ := h.2 i x bs hx hbs
  exact ⟨a', l', c', e, hr.same hb⟩
theorem Slc.snoc {w : World} {vs : List Value} {ps : List (List Int)} {a : Option Addr} {l c : Nat} {bs : List Int} (h : Slc w vs ps) (r : RowIn .u8 w a l c bs) : Slc w (vs ++ [Value.slice a l c]) (ps ++ [bs]) := by
  refine ⟨by rw [List.length_append, List.length_append, h.1]; rfl, fun i x ys hx hy => ?_⟩
  rcases Nat.lt_or_ge i vs.length with hi | hi
  · rw [List.getElem?_append_left hi] at hx
    rw [List.getElem?_append_left (by rw [← h.1]; exact hi)] at hy
    exact h.2 i x ys hx hy
  · rw [List.getElem?_append_right hi] at hx
    rw [List.getElem?_append_right (by rw [← h.1]; exact hi)] at hy
    rw [h.1] at hx
    cases e : i - ps.length with
    | zero =>
      rw [e] at hx hy
      simp at hx hy
      subst hx hy
      exact ⟨a, l, c, rfl, r⟩
    | succ k => rw [e] at hx; simp at hx
/-- A slice of slices of bytes. -/
def RowsIn (w : World) (a : Option Addr) (len cap : Nat) (ps : List (List Int)) : Prop := ∃ vs, RowV w a len cap vs ∧ Slc w vs ps
theorem RowsIn.mk {w : World} {a : Option Addr} {len cap : Nat} {vs : List Value} {ps : List (List Int)} (h : RowV w a len cap vs) (g : Slc w vs ps) : RowsIn w a len cap ps := ⟨vs, h, g⟩
theorem RowsIn.same {w w' : World} {a : Option Addr} {len cap : Nat} {ps : List (List Int)} (h : RowsIn w a len cap ps) (hb : Below w.heap.size w w') : RowsIn w' a len cap ps := by
  obtain ⟨vs, h1, h2, h3⟩ := h
  refine ⟨vs, h1.same hb, h2, fun i x bs hx hbs => ?_⟩
  obtain ⟨a', l', c', e, hr⟩ := h3 i x bs hx hbs
  exact ⟨a', l', c', e, hr.same hb⟩
theorem RowsIn.len {w : World} {a : Option Addr} {len cap : Nat} {ps : List (List Int)} (h : RowsIn w a len cap ps) : ps.length = len ∧ len ≤ cap ∧ cap ≤ 9223372036854775807 := by
  obtain ⟨vs, h1, h2, -⟩ := h
  exact ⟨by rw [← h2]; exact h1.hl, h1.hc, h1.hm⟩
theorem RowsIn.at {w : World} {a : Option Addr} {len cap : Nat} {ps : List (List Int)} (h : RowsIn w a len cap ps) {i : Nat} (hi : i < ps.length) :
    ∃ b off a' l' c', a = some ⟨b, off, none⟩ ∧ w.cell? ⟨b, off + i, none⟩ = some (.slice a' l' c') ∧ RowIn .u8 w a' l' c' (ps.getD i []) := by
  obtain ⟨vs, h1, h2, h3⟩ := h
  have hiv : i < vs.length := by omega
  rcases h1.rd with h0 | ⟨b, off, rfl, hc⟩
  · subst h0; simp at hiv
  · have hci := hc i hiv
    rw [List.getElem?_eq_getElem hiv] at hci
    obtain ⟨a', l', c', e, hr⟩ := h3 i _ _ (List.getElem?_eq_getElem hiv) (List.getElem?_eq_getElem hi)
    refine ⟨b, off, a', l', c', rfl, by rw [hci, e], ?_⟩
    rw [List.getD_eq_getElem?_getD, List.getElem?_eq_getElem hi]; exact hr
end Go.Proofs.Ytmnhepcnbdbhoaa.Kit

namespace Go.Proofs.Ytmnhepcnbdbhoaa.Kit
open Go.Joins Go.ChangeShapes Go.WideShapes Go.RowKit Go.Deep
set_option linter.unusedVariables false

section
variable {H : Type} {enc : TypeId × Value → H} {P : Program} {w : World} {base : Nat} {spare : Nat → Bool} {held : Bool}
theorem array7 {α : Type} {cs : Array α} (h : cs.size = 7) : ∃ c0 c1 c2 c3 c4 c5 c6, cs = #[c0, c1, c2, c3, c4, c5, c6] := by
  obtain ⟨l⟩ := cs
  match l, h with
  | [c0, c1, c2, c3, c4, c5, c6], _ => exact ⟨c0, c1, c2, c3, c4, c5, c6, rfl⟩
theorem open_agg142 {r : Reach} {b0 : Nat} {t : TypeId} {f0 f1 f2 g0 g1 g2 g3 j0 j1 : Field} {v : Value} {d : DataW H} {p : List MemPlace} (hs : P.underlying t = some (.struct #[f0, f1, f2]))
    (ho : f0.offset = 0 ∧ f1.offset = 1 ∧ f2.offset = 5) (hk : P.cellsOf f0.type = 1 ∧ P.cellsOf f1.type = 4 ∧ P.cellsOf f2.type = 2) (hC : P.cellsOf t = 7)
    (hs1 : P.underlying f1.type = some (.struct #[g0, g1, g2, g3])) (hone1 : oneCellFields P #[g0, g1, g2, g3] = true) (hs2 : P.underlying f2.type = some (.struct #[j0, j1])) (hone2 : oneCellFields P #[j0, j1] = true)
    (hv : Value.okWide P w r b0 t v) (h : DataW.Trod enc P w base spare held t v d p) :
    ∃ (c0 c1 c2 c3 c4 c5 c6 : Value) (y0 y1 y2 y3 y4 y5 y6 : DataW H × List MemPlace) (n m k : Nat), v = .agg #[c0, c1, c2, c3, c4, c5, c6] ∧
      DataW.trod enc P w base spare held n f0.type [c0] = some y0 ∧
      DataW.trod enc P w base spare held m g0.type [c1] = some y1 ∧ DataW.trod enc P w base spare held m g1.type [c2] = some y2 ∧ DataW.trod enc P w base spare held m g2.type [c3] = some y3 ∧ DataW.trod enc P w base spare held m g3.type [c4] = some y4 ∧
      DataW.trod enc P w base spare held k j0.type [c5] = some y5 ∧ DataW.trod enc P w base spare held k j1.type [c6] = some y6 := by
  obtain ⟨cs, rfl, hsz⟩ := okWide_struct hs hv
  obtain ⟨c0, c1, c2, c3, c4, c5, c6, rfl⟩ := array7 (hsz.trans hC)
  obtain ⟨fuel, hf⟩ := h
  obtain ⟨z0, z1, z2, n, -, -, h0, h1, h2⟩ := trod_struct3 hs hf
  simp only [Value.cells, ho.1, ho.2.1, ho.2.2, hk.1, hk.2.1, hk.2.2] at h0 h1 h2
  have h1' : DataW.trod enc P w base spare held n f1.type [c1, c2, c3, c4] = some z1 := h1
  have h2' : DataW.trod enc P w base spare held n f2.type [c5, c6] = some z2 := h2
  obtain ⟨y1, y2, y3, y4, m, -, -, a0, a1, a2, a3⟩ := trod_struct4 hs1 h1'
  obtain ⟨y5, y6, k, -, -, b0', b1⟩ := trod_struct2 hs2 h2'
  obtain ⟨o0, k0⟩ := hone_of hone1 0 g0 rfl
  obtain ⟨o1, k1⟩ := hone_of hone1 1 g1 rfl
  obtain ⟨o2, k2⟩ := hone_of hone1 2 g2 rfl
  obtain ⟨o3, k3⟩ := hone_of hone1 3 g3 rfl
  obtain ⟨q0, s0⟩ := hone_of hone2 0 j0 rfl
  obtain ⟨q1, s1⟩ := hone_of hone2 1 j1 rfl
  exact ⟨c0, c1, c2, c3, c4, c5, c6, z0, y1, y2, y3, y4, y5, y6, n, m, k, rfl, h0, by simpa [o0, k0] using a0, by simpa [o1, k1] using a1, by simpa [o2, k2] using a2, by simpa [o3, k3] using a3, by simpa [q0, s0] using b0', by simpa [q1, s1] using b1⟩
end
end Go.Proofs.Ytmnhepcnbdbhoaa.Kit

/- Worlds that differ in two blocks, and copying from a longer row. No Go here. -/
import Derived.Test.YtmnhepcnbdbhoaaGK
namespace Go.Proofs.Ytmnhepcnbdbhoaa.Kit
open Go.RowKit
set_option linter.unusedSimpArgs false
set_option linter.unusedVariables false

/-- All that was there, but for two blocks, is as it was. -/
structure But (g1 g2 : Nat) (w w' : World) : Prop where
  os : w'.os = w.os
  tape : w'.tape = w.tape
  output : w'.output = w.output
  size : w.heap.size ≤ w'.heap.size
  block : ∀ k, k < w.heap.size → k ≠ g1 → k ≠ g2 → w'.heap[k]? = w.heap[k]?
theorem But.refl (g1 g2 : Nat) (w : World) : But g1 g2 w w := ⟨rfl, rfl, rfl, Nat.le_refl _, fun _ _ _ _ => rfl⟩
theorem But.of {g1 g2 : Nat} {w w' : World} (h : Below w.heap.size w w') : But g1 g2 w w' := ⟨h.os, h.tape, h.output, h.size, fun k hk _ _ => h.block k hk⟩
theorem But.trans {g1 g2 : Nat} {a b c : World} (h : But g1 g2 a b) (k : But g1 g2 b c) : But g1 g2 a c :=
  ⟨k.os.trans h.os, k.tape.trans h.tape, k.output.trans h.output, Nat.le_trans h.size k.size, fun i hi n1 n2 => (k.block i (Nat.lt_of_lt_of_le hi h.size) n1 n2).trans (h.block i hi n1 n2)⟩
theorem But.set1 {g1 g2 i : Nat} {w w' : World} {x : Value} (h : But g1 g2 w w') : But g1 g2 w (w'.setCell ⟨g1, i, none⟩ x) :=
  ⟨h.os, h.tape, h.output, by rw [World.size_setCell]; exact h.size, fun k hk n1 n2 => (Below.heap_setCell w' ⟨g1, i, none⟩ x k n1).trans (h.block k hk n1 n2)⟩
theorem But.set2 {g1 g2 i : Nat} {w w' : World} {x : Value} (h : But g1 g2 w w') : But g1 g2 w (w'.setCell ⟨g2, i, none⟩ x) :=
  ⟨h.os, h.tape, h.output, by rw [World.size_setCell]; exact h.size, fun k hk n1 n2 => (Below.heap_setCell w' ⟨g2, i, none⟩ x k n2).trans (h.block k hk n1 n2)⟩
theorem But.drew {g1 g2 : Nat} {w w' : World} (h : But g1 g2 w w') : But g1 g2 w w'.drew := ⟨h.os, h.tape, h.output, h.size, h.block⟩
/-- A store into a block that is new. -/
theorem But.new {g1 g2 g i : Nat} {w w' : World} {x : Value} (h : But g1 g2 w w') (hg : w.heap.size ≤ g) : But g1 g2 w (w'.setCell ⟨g, i, none⟩ x) :=
  ⟨h.os, h.tape, h.output, by rw [World.size_setCell]; exact h.size, fun k hk n1 n2 => (Below.heap_setCell w' ⟨g, i, none⟩ x k (by dsimp only; omega)).trans (h.block k hk n1 n2)⟩
theorem But.below {g1 g2 B : Nat} {w w' : World} (h : But g1 g2 w w') (h1 : B ≤ g1) (h2 : B ≤ g2) (hB : B ≤ w.heap.size) : Below B w w' :=
  ⟨h.os, h.tape, h.output, h.size, fun k hk => h.block k (by omega) (by omega) (by omega)⟩
theorem But.box1 {g1 g2 g : Nat} {w w' : World} {p : Value} (hc : w.cell? ⟨g, 0, none⟩ = some p) (h : But g1 g2 w w') (n1 : g ≠ g1) (n2 : g ≠ g2) : w'.cell? ⟨g, 0, none⟩ = some p := by
  rw [World.cell?_of_block (h.block g (World.block_lt_of_cell? w _ hc) n1 n2)]; exact hc
theorem Box2.but {g1 g2 g : Nat} {w w' : World} {p q : Value} (hc : Box2 w g p q) (h : But g1 g2 w w') (n1 : g ≠ g1) (n2 : g ≠ g2) : Box2 w' g p q := by
  have e := h.block g (World.block_lt_of_cell? w _ hc.c0) n1 n2
  exact ⟨by rw [World.cell?_of_block e]; exact hc.c0, by rw [World.cell?_of_block e]; exact hc.c1, by rw [World.frozen?_of_block e]; exact hc.f0, by rw [World.frozen?_of_block e]; exact hc.f1⟩
theorem Box7.but {g1 g2 g : Nat} {w w' : World} {p0 p1 p2 p3 p4 p5 p6 : Value} (hc : Box7 w g p0 p1 p2 p3 p4 p5 p6) (h : But g1 g2 w w') (n1 : g ≠ g1) (n2 : g ≠ g2) : Box7 w' g p0 p1 p2 p3 p4 p5 p6 :=
  hc.block (h.block g hc.lt n1 n2)
theorem RowIn.but {k : IntKind} {g1 g2 : Nat} {w w' : World} {a : Option Addr} {len cap : Nat} {xs : List Int} (hr : RowIn k w a len cap xs) (h : But g1 g2 w w') (hne : xs ≠ [] → ∀ x, a = some x → x.block ≠ g1 ∧ x.block ≠ g2) : RowIn k w' a len cap xs := by
  refine ⟨⟨?_, hr.rd.2⟩, hr.hl, hr.hc, hr.hm⟩
  rcases hr.rd.1 with h1 | ⟨b, off, rfl, hc⟩
  · exact .inl h1
  · by_cases hx : xs = []
    · exact .inl hx
    · obtain ⟨n1, n2⟩ := hne hx _ rfl
      refine .inr ⟨b, off, rfl, fun j hj => ?_⟩
      have := hc j hj
      rw [World.cell?_of_block (h.block b (World.block_lt_of_cell? w _ this) n1 n2)]
      exact this
theorem OwnI.but {k : IntKind} {g1 g2 : Nat} {w w' : World} {base : Nat} {e : TypeId} {v : Value} {xs : List Int} (h : OwnI k w base e v xs) (hb : But g1 g2 w w') (n1 : v.ownBlock ≠ some g1) (n2 : v.ownBlock ≠ some g2) : OwnI k w' base e v xs := by
  refine ⟨h.1, ?_⟩
  rcases h.2 with h1 | ⟨g, cap, cur, hv, hbg, hg, r⟩
  · exact .inl h1
  · have hlt : g < w.heap.size := (Array.getElem?_eq_some_iff.1 hg).1
    subst hv
    refine .inr ⟨g, cap, cur, rfl, hbg, ?_, r⟩
    rw [hb.block g hlt (fun q => n1 (by rw [← q]; rfl)) (fun q => n2 (by rw [← q]; rfl))]; exact hg

/-- 'copy(s, t)' where t is longer: the whole row becomes the beginning of t. -/
theorem copyLess {P : Program} {ops : Array Oper} {rest : List Oper} {o : Oper} {a : Act} {Q : Exit → Act → World → Prop} {w : World} (hgd : o.guard = none) (d s : Operand) (t : TypeId)
    (ho : o.op = .call { callee := .builtin .copy, args := #[d, s], argTypes := #[t, t] }) (e : TypeId) (ht : P.underlying t = some (.slice e)) (hsz : (P.info? e).map (·.size) = some 1)
    (k : IntKind) (base g n cap : Nat) (xs : List Int) (hown : OwnI k w base e (.slice (some ⟨g, 0, none⟩) n cap) xs)
    (sa : Option Addr) (len scap : Nat) (ys : List Int) (hr : Reads k w sa ys) (hl : ys.length = len) (hle : n ≤ len) (hd : a.eval d = .slice (some ⟨g, 0, none⟩) n cap) (hs : a.eval s = .slice sa len scap)
    (h : ∀ w', OwnI k w' base e (.slice (some ⟨g, 0, none⟩) n cap) (ys.take n) → Below base w w' → wpList P ops Q rest (a.put o.dst (goInt n)) w') :
    wpList P ops Q (o :: rest) a w := by
  subst hl
  obtain ⟨hlen, hrow⟩ := hown
  rcases hrow with ⟨h', _⟩ | ⟨g', cap', cur, h', hb, hg, hnc, hcm, hcs, htk⟩
  · simp at h'
  · simp only [Value.slice.injEq, Option.some.injEq, Addr.mk.injEq, and_true, true_and] at h'
    obtain ⟨rfl, hn, rfl⟩ := h'
    subst hn
    have hlt : (ys.take xs.length).length = xs.length := by rw [List.length_take]; omega
    have hcl : ((ys.take xs.length).map (Value.int k)).length = xs.length := by rw [List.length_map]; exact hlt
    refine wpList_copy_splice hgd d s t t ho e ht hsz _ sa xs.length cap ys.length scap hd hs g 0 cur.toList e (by simpa using hg) ((ys.take xs.length).map (Value.int k)) (by rw [hcl]; exact (Nat.min_eq_right hle).symm) ?_ (by rw [hcl]; simp; omega) (by
      intro v hv; rw [List.mem_map] at hv; obtain ⟨_, _, rfl⟩ := hv; rfl) base w (Below.refl _ _) hb ?_
    · intro hp
      refine ⟨rfl, ?_⟩
      rw [hcl] at hp
      obtain ⟨b, off, rfl, hc⟩ := hr.cells (by intro h0; rw [h0] at hle; simp only [List.length_nil] at hle; omega)
      refine ⟨_, rfl, fun j v hv => ?_⟩
      rw [List.getElem?_map] at hv
      have hj : j < xs.length := by
        rcases Nat.lt_or_ge j xs.length with hj | hj
        · exact hj
        · rw [List.getElem?_eq_none (by rw [hlt]; exact hj)] at hv; cases hv
      rw [List.getElem?_take, if_pos hj, List.getElem?_eq_getElem (show j < ys.length by omega)] at hv
      simp only [Option.map_some, Option.some.injEq] at hv
      rw [add_none, hc j (by omega), List.getD_eq_getElem?_getD, List.getElem?_eq_getElem (show j < ys.length by omega), ← hv]; rfl
    · intro w' hg' hbw
      rw [hcl]
      refine h w' ?_ hbw
      have hg' := hg'.out
      unfold OwnI World.ownsRow
      refine ⟨by rw [List.length_map, Nat.mul_one], .inr ⟨g, cap, (splice cur.toList 0 ((ys.take xs.length).map (Value.int k))).toArray, by rw [hlt], hb, hg', by omega, hcm, ?_, ?_⟩⟩
      · simp only [List.size_toArray]; rw [length_splice _ _ _ (by rw [hcl]; simp; omega)]; simpa using hcs
      · rw [hlt, Nat.mul_one]
        rw [Nat.mul_one] at htk
        unfold splice
        simp only [List.take_zero, List.nil_append, Nat.zero_add, hcl]
        rw [List.take_append, hcl, List.take_of_length_le (by rw [hcl]; omega), Nat.sub_self, List.take_zero, List.append_nil]
end Go.Proofs.Ytmnhepcnbdbhoaa.Kit

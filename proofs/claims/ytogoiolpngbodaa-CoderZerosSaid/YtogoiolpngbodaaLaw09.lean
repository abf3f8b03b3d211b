/- The laws of layer 9: the chapter's examples. -/
import Derived.Test.YtogoiolpngbodaaLaw06
import Derived.Test.YtogoiolpngbodaaGC
import Derived.Test.YtogoiolpngbodaaGR9
namespace Go.Proofs.Ytogoiolpngbodaa.Wk
open Go.Proofs Go.RowKit Go.Proofs.Ytogoiolpngbodaa.Kit Go.Proofs.Ytogoiolpngbodaa.M01 Go.Proofs.Ytogoiolpngbodaa.M02 Go.Proofs.Ytogoiolpngbodaa.M05 Go.Proofs.Ytogoiolpngbodaa.M06 Go.Proofs.Ytogoiolpngbodaa.M07 Go.Proofs.Ytogoiolpngbodaa.M08 Go.Proofs.Ytogoiolpngbodaa.M09 Go.Proofs.Ytogoiolpngbodaa.Bt Go.Proofs.Ytogoiolpngbodaa.R02 Go.Proofs.Ytogoiolpngbodaa.Co Go.Proofs.Ytogoiolpngbodaa.R09
set_option linter.unusedVariables false
set_option linter.unusedSimpArgs false


theorem same9b (a : Option Addr) (len cap : Nat) (xs : List Int) (b : Option Addr) (blen bcap : Nat) (ys : List Int) (w : World) (r : RowIn .u32 w a len cap xs) (r2 : RowIn .u32 w b blen bcap ys) :
    Calls Try.prog 21 #[.slice a len cap, .slice b blen bcap] w fun e w' => e = .returned (.bool (sameL xs ys)) ∧ Below w.heap.size w w' :=
  (same9_any a len cap xs b blen bcap ys w r r2).mono (fun e w' h => ⟨h.1, by obtain ⟨q, rfl⟩ := h.2; exact below_drewN (Below.refl _ _) q⟩)
theorem great9b (b : Option Addr) (len cap : Nat) (xs : List Int) (w : World) (r : RowIn .u32 w b len cap xs) :
    Calls Try.prog 17 #[.slice b len cap] w fun e w' => e = .returned (.bool (great9 len)) ∧ Below w.heap.size w w' :=
  (great9_any b len cap xs w r).mono (fun e w' h => ⟨h.1, by obtain rfl := h.2; exact Below.refl _ _⟩)
theorem rowK {k : IntKind} {w : World} {a : Option Addr} {len cap : Nat} {xs : List Int} {g i : Nat} {u : Value} (h : RowIn k w a len cap xs) (hne : xs ≠ [] → ∀ x, a = some x → x.block ≠ g) : RowIn k (w.setCell ⟨g, i, none⟩ u) a len cap xs := by
  by_cases hx : xs = []
  · subst hx; exact ⟨Reads.nil, h.hl, h.hc, h.hm⟩
  · exact h.set (hne hx)
theorem rowLit {k : IntKind} (w : World) (T : TypeId) (xs : List Int) (C : Array Value) (n : Nat) (hn : xs.length = n) (hC : C = (xs.map (Value.int k)).toArray) (hm : xs.length ≤ maxLen) (hw : ∀ x ∈ xs, (Lit.int k x).wf = true) : RowIn k (w.alloc (.cells C T)) (some ⟨w.heap.size, 0, none⟩) n n xs := by
  subst hC hn
  exact (OwnI.lit w 0 T xs (Nat.zero_le _) hm).rowLit hw
theorem ex9 (w : World) : RowIn .u32 (w.alloc (.cells #[.int .u32 5, .int .u32 2000] 57)) (some ⟨w.heap.size, 0, none⟩) 2 2 [5, 2000] :=
  rowLit w _ [5, 2000] _ 2 rfl rfl (by unfold maxLen; simp) (by decide)

set_option maxHeartbeats 8000000 in
theorem alive9_any (w : World) : Calls Try.prog 16 #[] w fun e w' => e = .returned (.bool true) ∧ Below w.heap.size w w' := by
  have hE := fun w' => enc_any _ 2 2 [5, 2000] _ (ex9 w')
  have hD := fun a q w' (r : RowIn .u8 w' a 3 q [10, 24, 116]) => dec9_any a 3 q [10, 24, 116] 24 2 w' r (isInt_small (by decide) (by decide)) (isInt_small (by decide) (by decide))
  have hS := fun a q w' (r : RowIn .u32 w' a 2 q [5, 2000]) => same9_any a 2 q [5, 2000] _ 2 2 [5, 2000] _ (rowA r) (ex9 w')
  simp only [show enE [5, 2000] = 0 by decide +kernel, show enN [5, 2000] = 24 by decide +kernel, show enL [5, 2000] = [10, 24, 116] by decide +kernel] at hE
  simp only [show M09.deE [10, 24, 116] 24 2 = 0 by decide +kernel, show deX [10, 24, 116] 24 2 = 24 by decide +kernel, show deL [10, 24, 116] 24 2 = [5, 2000] by decide +kernel] at hD
  simp only [sameL_self] at hS
  unfold bv at hE hD
  simp only [List.length_cons, List.length_nil, Nat.zero_add, Nat.reduceAdd] at hE hD
  go_enter Try.func16, Try.ntmps16
  go_wp2_with (first  | ((with_reducible refine (hE _).mono ?_); rintro e w1 ⟨a1, q1, rfl, h1, hb1, -⟩; rw [size1] at hb1; have z1 := hb1.size; rw [size1] at z1; have hB1 := (below1 w _).trans (hb1.mono (by omega)))  | ((with_reducible refine (hD _ _ _ (rowA h1)).mono ?_); rintro e w2 ⟨a2, q2, rfl, h2, hb2⟩; rw [size1] at hb2; have z2 := hb2.size; rw [size1] at z2; have hB2 := hB1.trans ((below1 w1 _).mono (by omega)) |>.trans (hb2.mono (by omega)); obtain ⟨c0, c1, cf0, cf1⟩ := (Box2.of (blk1 w1 _)).below hb2 (by omega); have l1 : w1.heap.size < w2.heap.size := (by omega))  | ((with_reducible refine (hS _ _ _ h2).mono ?_); rintro e w3 ⟨rfl, q3, rfl⟩))
  go_ret
  exact ⟨rfl, below_drewN (bA hB2 (by omega)) q3⟩
end Go.Proofs.Ytogoiolpngbodaa.Wk

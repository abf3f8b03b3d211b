/- What the reference of layer 9 returns: comparing lists. What the reference of layer 9 returns: codes of numbers, and the state behind them. What the reference of layer 9 returns: decoding. -/
import Derived.Test.YtmnhepcnbdbhoaaProg
import Derived.Test.YtmnhepcnbdbhoaaGK
import Derived.Test.YtmnhepcnbdbhoaaGM
import Derived.Deep.QuietTactic
import Derived.BigQuiet
import Derived.Test.YtmnhepcnbdbhoaaRef08c
import Derived.Test.YtmnhepcnbdbhoaaGR8
namespace Go.Proofs.Ytmnhepcnbdbhoaa.R09
open Go.Proofs Go.RowKit Go.Proofs.Ytmnhepcnbdbhoaa.Kit Go.Proofs.Ytmnhepcnbdbhoaa.M05
set_option linter.unusedVariables false

set_option maxHeartbeats 1000000 in
theorem same9_any (a : Option Addr) (len cap : Nat) (xs : List Int) (b : Option Addr) (blen bcap : Nat) (ys : List Int) (w : World) (r : RowIn .u32 w a len cap xs) (r2 : RowIn .u32 w b blen bcap ys) :
    Calls Try.prog 13 #[.slice a len cap, .slice b blen bcap] w fun e w' => e = .returned (.bool (sameL xs ys)) ∧ ∃ q, w' = w.drewN q := by
  have hl1 := r.rd.len
  have hl2 := r2.rd.len
  by_cases hlen : len = blen
  · subst hlen
    have e1 := hid r.hl
    have e2 := hid r2.hl
    rw [r.hl] at hl1
    clear hl2
    go_enter Try.func13, Try.ntmps13
    go_wp2
    go_loopw [5] (fun t wr => ∃ k : Nat, k ≤ len ∧ t = .int .i64 k ∧ xs.take k = ys.take k ∧ ∃ q, wr = w.drewN q) (fun t _ => len - (intOf t).toNat)
    case atStart => exact ⟨0, by omega, by go_num, rfl, 0, rfl⟩
    case round =>
      obtain ⟨k, hk, rfl, ht, q, rfl⟩ := hrel
      have ht := hid ht
      by_cases hlt : k < len
      · obtain ⟨b1, o1, rfl, c1⟩ := r.rd.cells (by intro h0; have := e1.out; rw [h0] at this; simp at this; omega)
        obtain ⟨b2, o2, rfl, c2⟩ := r2.rd.cells (by intro h0; have := e2.out; rw [h0] at this; simp at this; omega)
        have d1 := c1 k (by rw [e1.out]; exact hlt)
        have d2 := c2 k (by rw [e2.out]; exact hlt)
        have x1 := bd_u32 (getD_wf r.rd.2.2 (show k < xs.length by rw [e1.out]; exact hlt))
        have x2 := bd_u32 (getD_wf r2.rd.2.2 (show k < ys.length by rw [e2.out]; exact hlt))
        have hne := fun h => hid (sameL_ne (xs := xs) (ys := ys) (k := k) h)
        have heq := fun h => hid (take_snoc_eq ht.out (by rw [e1.out]; exact hlt) (by rw [e2.out]; exact hlt) h)
        generalize xs.getD k 0 = x at *
        generalize ys.getD k 0 = y at *
        clear c1 c2
        by_cases hxy : x = y
        · have hT := heq hxy
          subst hxy
          clear hne heq
          go_wp2
          go_quiet (fail)
          go_wp2
          go_roundw
          case rel => exact ⟨k + 1, by omega, by go_num, hT.out, _, rfl⟩
          case measure => simp [intOf]; omega
        · have hF := hne hxy
          have t2 : (x = y) = False := eq_false hxy
          clear hne heq
          go_wp2
          go_quiet (fail)
          go_wp2
          go_ret
          exact ⟨by rw [hF.out]; rfl, _, World.drewN_drewN ..⟩
      · obtain rfl : k = len := by omega
        have hT : Hid (sameL xs ys = true) := by
          have h := ht.out
          have q1 := e1.out
          have q2 := e2.out
          rw [← q1, List.take_length, q1, ← q2, List.take_length] at h
          rw [h]; exact sameL_self _
        go_wp2
        go_ret
        exact ⟨by rw [hT.out]; rfl, q, rfl⟩
  · have t : ((len : Int) = (blen : Int)) = False := eq_false (by omega)
    have hF : sameL xs ys = false := by
      unfold sameL; rw [decide_eq_false]; intro h; exact hlen (by rw [← r.hl, ← r2.hl, h])
    rw [hF]
    rw [r.hl] at hl1
    rw [r2.hl] at hl2
    go_enter Try.func13, Try.ntmps13
    go_wp2
    go_ret
    exact ⟨rfl, 0, rfl⟩

/-- Great. -/
def great9 (len : Nat) : Bool := decide (150 < len) && decide (len ≤ 4000) || decide (4010 < len)

end Go.Proofs.Ytmnhepcnbdbhoaa.R09

namespace Go.Proofs.Ytmnhepcnbdbhoaa.R09
open Go.Proofs Go.RowKit Go.Proofs.Ytmnhepcnbdbhoaa.Kit Go.Proofs.Ytmnhepcnbdbhoaa.M01 Go.Proofs.Ytmnhepcnbdbhoaa.M02 Go.Proofs.Ytmnhepcnbdbhoaa.M06 Go.Proofs.Ytmnhepcnbdbhoaa.M07 Go.Proofs.Ytmnhepcnbdbhoaa.M08 Go.Proofs.Ytmnhepcnbdbhoaa.M09 Go.Proofs.Ytmnhepcnbdbhoaa.Bt Go.Proofs.Ytmnhepcnbdbhoaa.R02 Go.Proofs.Ytmnhepcnbdbhoaa.Du Go.Proofs.Ytmnhepcnbdbhoaa.R08
set_option linter.unusedVariables false
attribute [local irreducible] wpStill

theorem okV_row {xs : List Int} (h : ∀ x ∈ xs, (Lit.int .u32 x).wf = true) : okV xs := fun x hx => bd_u32 (h x hx)
theorem getD_wf9 {xs : List Int} {k : IntKind} (h : ∀ x ∈ xs, (Lit.int k x).wf = true) {i : Nat} (hi : i < xs.length) : (Lit.int k (xs.getD i 0)).wf = true := by
  rw [List.getD_eq_getElem?_getD, List.getElem?_eq_getElem hi]; exact h _ (List.getElem_mem hi)
theorem results_cc {fn : Func} {p q : Tmp} {t1 t2 : TypeId} (h : fn.results = #[.cell p t1, .cell q t2]) (tmps : Array Value) (P : Program) (w : World) :
    (results fn tmps).run P w = ((asAddr (tmps.getD p undef)).run P w).andThen fun a w₁ => ((loadVar t1 a).run P w₁).andThen fun v w₂ =>
      ((asAddr (tmps.getD q undef)).run P w₂).andThen fun b w₃ => ((loadVar t2 b).run P w₃).andThen fun x w₄ => .ok (.tuple #[v, x]) w₄ := by
  simp only [results, h]
  simp [Sem.run_bind, Result.andThen]
theorem cell_below9 {w w' : World} {B : Nat} {a : Addr} {u : Value} (h : w.cell? a = some u) (hb : Below B w w') (hl : a.block < B) : w'.cell? a = some u := by rw [hb.cell hl]; exact h

theorem own_ge {k : IntKind} {w : World} {base : Nat} {e : TypeId} {b o : Nat} {sp : _} {n cap : Nat} {xs : List Int} (h : OwnI k w base e (.slice (some ⟨b, o, sp⟩) n cap) xs) : base ≤ b := by
  rcases h.2 with ⟨h', _⟩ | ⟨g2, cp, cur, h', hb, _⟩
  · simp at h'
  · simp only [Value.slice.injEq, Option.some.injEq, Addr.mk.injEq] at h'
    omega


end Go.Proofs.Ytmnhepcnbdbhoaa.R09

namespace Go.Proofs.Ytmnhepcnbdbhoaa.R09
open Go.Proofs Go.RowKit Go.Proofs.Ytmnhepcnbdbhoaa.Kit Go.Proofs.Ytmnhepcnbdbhoaa.M01 Go.Proofs.Ytmnhepcnbdbhoaa.M02 Go.Proofs.Ytmnhepcnbdbhoaa.M06 Go.Proofs.Ytmnhepcnbdbhoaa.M07 Go.Proofs.Ytmnhepcnbdbhoaa.M08 Go.Proofs.Ytmnhepcnbdbhoaa.M09 Go.Proofs.Ytmnhepcnbdbhoaa.Bt Go.Proofs.Ytmnhepcnbdbhoaa.R02 Go.Proofs.Ytmnhepcnbdbhoaa.R08
set_option linter.unusedVariables false
attribute [local irreducible] wpStill

theorem info9r_u32 : (Try.prog.info? 40).map (fun i => (i.zero, i.size, i.bytes)) = some (some (.int .u32 0), 1, 4) := by kernel_rfl

end Go.Proofs.Ytmnhepcnbdbhoaa.R09

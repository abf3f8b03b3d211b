/- The laws of layer 10: bytes cut into pieces. -/
import Derived.Test.YtmnhepcnbdbhoaaLaw10
namespace Go.Proofs.Ytmnhepcnbdbhoaa.Wk
open Go.Proofs Go.RowKit Go.Proofs.Ytmnhepcnbdbhoaa.Kit Go.Proofs.Ytmnhepcnbdbhoaa.M01 Go.Proofs.Ytmnhepcnbdbhoaa.M02 Go.Proofs.Ytmnhepcnbdbhoaa.Bt
set_option linter.unusedVariables false
set_option linter.unusedSimpArgs false

theorem info10_s : (Try.prog.info? 25).map (fun i => (i.zero, i.size, i.bytes)) = some (some (.slice none 0 0), 1, 24) := by kernel_rfl
theorem row_cut {w : World} {a : Option Addr} {l c N : Nat} {bs : List Int} (h : RowIn .u8 w a l c bs) (hN : N = l) : RowIn .u8 w a (l - N) (c - N) (bs.drop N) := by
  have hl := h.hl
  have : bs.drop N = [] := List.drop_eq_nil_of_le (by omega)
  rw [this]
  exact ⟨Reads.nil, by simp; omega, by have := h.hc; omega, by have := h.hm; omega⟩
theorem getD_wf64 {xs : List Int} {k : IntKind} (h : ∀ x ∈ xs, (Lit.int k x).wf = true) {i : Nat} (hi : i < xs.length) : (Lit.int k (xs.getD i 0)).wf = true := by
  rw [List.getD_eq_getElem?_getD, List.getElem?_eq_getElem hi]; exact h _ (List.getElem_mem hi)

set_option maxRecDepth 4000 in
set_option maxHeartbeats 8000000 in
theorem cut10_any (a : Option Addr) (len cap : Nat) (bs : List Int) (sa : Option Addr) (slen scap : Nat) (ss : List Int) (w : World) (hr : RowIn .u8 w a len cap bs) (hs : RowIn .i64 w sa slen scap ss) (h20 : slen ≤ 20) :
    Calls Try.prog 21 #[.slice a len cap, .slice sa slen scap] w fun e w' => ∃ pa pl pc ps, e = .returned (.slice pa pl pc) ∧ Kit.RowsIn w' pa pl pc ps ∧ ps.flatten = bs ∧ Below w.heap.size w w' := by
  obtain rfl := hs.hl
  obtain ⟨i0, hii, hz0, hz1, hz2⟩ : ∃ i0 : TypeInfo, Try.prog.info? 25 = some i0 ∧ i0.zero = some (.slice none 0 0) ∧ i0.size = 1 ∧ i0.bytes = 24 := by
    have h := info10_s
    cases h2 : Try.prog.info? 25 with
    | none => rw [h2] at h; cases h
    | some i => rw [h2] at h; simp at h; exact ⟨i, rfl, h.1, h.2.1, h.2.2⟩
  have hc0 := hr.hc
  have hm0 := hr.hm
  go_enter Try.func21, Try.ntmps21
  go_wp2
  go_loopw [0, 5, 6] (fun v0 v t wr => ∃ i : Nat, i ≤ ss.length ∧ t = .int .i64 i ∧ (∃ a' l' c' bs' vs ps, v0 = .slice a' l' c' ∧ RowIn .u8 w a' l' c' bs' ∧ OwnV wr w.heap.size 25 v vs ∧ Slc w vs ps ∧ ps.flatten ++ bs' = bs ∧ vs.length = i) ∧ Below w.heap.size w wr) (fun _ _ t _ => ss.length - (intOf t).toNat)
  case atStart => exact ⟨0, by omega, by go_num, ⟨a, len, cap, bs, [], [], rfl, hr, OwnV.nil, Slc.nil, rfl, rfl⟩, Below.refl _ _⟩
  case round =>
    obtain ⟨i, hi, rfl, ⟨a', l', c', bs', vs, ps, rfl, hr', ho, hsl, hfl, hvl⟩, hb⟩ := hrel
    have hc := hr'.hc
    have hm := hr'.hm
    have hl := hr'.hl
    by_cases hlt : i < ss.length
    · obtain ⟨sb, so, rfl, cc⟩ := (hs.same hb).rd.cells (by intro h; rw [h] at hlt; simp at hlt)
      have scell := cc i hlt
      have hv := bd_i64 (getD_wf64 hs.rd.2.2 hlt)
      generalize ss.getD i 0 = V at scell hv
      clear cc
      have hvl20 : vs.length ≤ 20 := by omega
      have f63 : l' ≤ 9223372036854775807 := by omega
      by_cases hbs : bs' = []
      · subst hbs
        obtain rfl : l' = 0 := by simpa using hl.symm
        have HF := hid hfl
        clear hfl
        by_cases hV : V < 0
        · rcases a' with _ | x
          · have f1 : (V < 0) = True := eq_true (by omega)
            have f2 : (0 < V) = False := eq_false (by omega)
            have f3 : (V ≤ 0) = True := eq_true (by omega)
            go_wp2_with ((at_builtin; refine appV rfl _ _ 51 rfl w.heap.size 25 i0 (.slice none 0 0) 24 Try.underlying51 hii hz0 hz1 hz2 rfl _ vs ho [.slice none 0 c'] 1 rfl (by intro u hu; simp at hu; subst hu; rfl) rfl rfl hb.size (by omega) (by omega) ?_; intro v' w5 hown hgr hb5))
            go_roundw
            case rel => exact ⟨i + 1, by omega, by go_num, ⟨_, _, _, [], vs ++ [.slice none 0 c'], ps ++ [[]], rfl, ⟨Reads.nil, by simp, by omega, by omega⟩, hown, hsl.snoc ⟨Reads.nil, rfl, by omega, by omega⟩, by rw [List.flatten_append]; simpa using HF.out, by simp [hvl]⟩, hb.trans hb5⟩
            case measure => simp [intOf]; omega
          · have f1 : (V < 0) = True := eq_true (by omega)
            have f2 : (0 < V) = False := eq_false (by omega)
            have f3 : (V ≤ 0) = True := eq_true (by omega)
            go_wp2_with ((at_builtin; refine appV rfl _ _ 51 rfl w.heap.size 25 i0 (.slice none 0 0) 24 Try.underlying51 hii hz0 hz1 hz2 rfl _ vs ho [.slice (some x) 0 c'] 1 rfl (by intro u hu; simp at hu; subst hu; rfl) rfl rfl hb.size (by omega) (by omega) ?_; intro v' w5 hown hgr hb5))
            go_roundw
            case rel => exact ⟨i + 1, by omega, by go_num, ⟨_, _, _, [], vs ++ [.slice (some x) 0 c'], ps ++ [[]], rfl, ⟨Reads.nil, by simp, by omega, by omega⟩, hown, hsl.snoc ⟨Reads.nil, rfl, by omega, by omega⟩, by rw [List.flatten_append]; simpa using HF.out, by simp [hvl]⟩, hb.trans hb5⟩
            case measure => simp [intOf]; omega
        · rcases a' with _ | x
          · have f1 : (V < 0) = False := eq_false hV
            go_wp2_with ((at_builtin; refine appV rfl _ _ 51 rfl w.heap.size 25 i0 (.slice none 0 0) 24 Try.underlying51 hii hz0 hz1 hz2 rfl _ vs ho [.slice none 0 c'] 1 rfl (by intro u hu; simp at hu; subst hu; rfl) rfl rfl hb.size (by omega) (by omega) ?_; intro v' w5 hown hgr hb5))
            go_roundw
            case rel => exact ⟨i + 1, by omega, by go_num, ⟨_, _, _, [], vs ++ [.slice none 0 c'], ps ++ [[]], rfl, ⟨Reads.nil, by simp, by omega, by omega⟩, hown, hsl.snoc ⟨Reads.nil, rfl, by omega, by omega⟩, by rw [List.flatten_append]; simpa using HF.out, by simp [hvl]⟩, hb.trans hb5⟩
            case measure => simp [intOf]; omega
          · have f1 : (V < 0) = False := eq_false hV
            go_wp2_with ((at_builtin; refine appV rfl _ _ 51 rfl w.heap.size 25 i0 (.slice none 0 0) 24 Try.underlying51 hii hz0 hz1 hz2 rfl _ vs ho [.slice (some x) 0 c'] 1 rfl (by intro u hu; simp at hu; subst hu; rfl) rfl rfl hb.size (by omega) (by omega) ?_; intro v' w5 hown hgr hb5))
            go_roundw
            case rel => exact ⟨i + 1, by omega, by go_num, ⟨_, _, _, [], vs ++ [.slice (some x) 0 c'], ps ++ [[]], rfl, ⟨Reads.nil, by simp, by omega, by omega⟩, hown, hsl.snoc ⟨Reads.nil, rfl, by omega, by omega⟩, by rw [List.flatten_append]; simpa using HF.out, by simp [hvl]⟩, hb.trans hb5⟩
            case measure => simp [intOf]; omega
      obtain ⟨bb, off, rfl, -⟩ := hr'.rd.cells hbs
      have hl0 : 0 < l' := by rw [← hl]; exact List.length_pos_iff.2 hbs
      by_cases hV : V < (l' : Int)
      · by_cases hV0 : 0 < V
        · obtain ⟨N, rfl⟩ : ∃ N : Nat, V = (N : Int) := ⟨V.toNat, by omega⟩
          have f1 : ((N : Int) < (l' : Int)) = True := eq_true (by omega)
          have f2 : (0 < (N : Int)) = True := eq_true (by omega)
          have t9 : ¬ c' ≤ N := by omega
          have e1 := Co.row_front hr' (n := N) (by omega)
          have HR := hid (And.intro e1 hfl)
          clear hfl e1
          go_wp2_with ((at_builtin; refine appV rfl _ _ 51 rfl w.heap.size 25 i0 (.slice none 0 0) 24 Try.underlying51 hii hz0 hz1 hz2 rfl _ vs ho [.slice (some ⟨bb, off, none⟩) N c'] 1 rfl (by intro u hu; simp at hu; subst hu; rfl) rfl rfl hb.size (by omega) (by omega) ?_; intro v' w5 hown hgr hb5))
          go_roundw
          case rel =>
            obtain ⟨e1, hfl⟩ := HR.out
            refine ⟨i + 1, by omega, by go_num, ⟨some ⟨bb, off + N, none⟩, _, _, bs'.drop (N), vs ++ [.slice (some ⟨bb, off, none⟩) N c'], ps ++ [bs'.take (N)], rfl, ?_, hown, hsl.snoc e1, ?_, by simp [hvl]⟩, hb.trans hb5⟩
            · simpa using Co.row_back hr' (n := N) (by omega)
            · rw [List.flatten_append, List.append_assoc]; simp only [List.flatten_cons, List.flatten_nil, List.append_nil]; rw [List.take_append_drop]; exact hfl
          case measure => simp [intOf]; omega
        · have f1 : (V < (l' : Int)) = True := eq_true (by omega)
          have f2 : (0 < V) = False := eq_false (by omega)
          have f3 : (V ≤ 0) = True := eq_true (by omega)
          have t9 : ¬ c' ≤ 0 := by omega
          have e1 := Co.row_front hr' (n := 0) (by omega)
          have HR := hid (And.intro e1 hfl)
          clear hfl e1
          go_wp2_with ((at_builtin; refine appV rfl _ _ 51 rfl w.heap.size 25 i0 (.slice none 0 0) 24 Try.underlying51 hii hz0 hz1 hz2 rfl _ vs ho [.slice (some ⟨bb, off, none⟩) 0 c'] 1 rfl (by intro u hu; simp at hu; subst hu; rfl) rfl rfl hb.size (by omega) (by omega) ?_; intro v' w5 hown hgr hb5))
          go_roundw
          case rel =>
            obtain ⟨e1, hfl⟩ := HR.out
            refine ⟨i + 1, by omega, by go_num, ⟨some ⟨bb, off + 0, none⟩, _, _, bs'.drop (0), vs ++ [.slice (some ⟨bb, off, none⟩) 0 c'], ps ++ [bs'.take (0)], rfl, ?_, hown, hsl.snoc e1, ?_, by simp [hvl]⟩, hb.trans hb5⟩
            · simpa using Co.row_back hr' (n := 0) (by omega)
            · rw [List.flatten_append, List.append_assoc]; simp only [List.flatten_cons, List.flatten_nil, List.append_nil]; rw [List.take_append_drop]; exact hfl
          case measure => simp [intOf]; omega
      · have f1 : (V < (l' : Int)) = False := eq_false (by omega)
        have f2 : (0 < (l' : Int)) = True := eq_true (by omega)
        by_cases hcN : c' = l'
        · subst hcN
          have e1 := Co.row_front hr' (n := c') (by omega)
          have HR := hid (And.intro e1 hfl)
          clear hfl e1
          go_wp2_with ((at_builtin; refine appV rfl _ _ 51 rfl w.heap.size 25 i0 (.slice none 0 0) 24 Try.underlying51 hii hz0 hz1 hz2 rfl _ vs ho [.slice (some ⟨bb, off, none⟩) c' c'] 1 rfl (by intro u hu; simp at hu; subst hu; rfl) rfl rfl hb.size (by omega) (by omega) ?_; intro v' w5 hown hgr hb5))
          go_roundw
          case rel =>
            obtain ⟨e1, hfl⟩ := HR.out
            refine ⟨i + 1, by omega, by go_num, ⟨some ⟨bb, off, none⟩, _, _, bs'.drop (c'), vs ++ [.slice (some ⟨bb, off, none⟩) c' c'], ps ++ [bs'.take (c')], rfl, ?_, hown, hsl.snoc e1, ?_, by simp [hvl]⟩, hb.trans hb5⟩
            · simpa using row_cut hr' (N := c') (by omega)
            · rw [List.flatten_append, List.append_assoc]; simp only [List.flatten_cons, List.flatten_nil, List.append_nil]; rw [List.take_append_drop]; exact hfl
          case measure => simp [intOf]; omega
        · have t9 : ¬ c' ≤ l' := by omega
          have e1 := Co.row_front hr' (n := l') (by omega)
          have HR := hid (And.intro e1 hfl)
          clear hfl e1
          go_wp2_with ((at_builtin; refine appV rfl _ _ 51 rfl w.heap.size 25 i0 (.slice none 0 0) 24 Try.underlying51 hii hz0 hz1 hz2 rfl _ vs ho [.slice (some ⟨bb, off, none⟩) l' c'] 1 rfl (by intro u hu; simp at hu; subst hu; rfl) rfl rfl hb.size (by omega) (by omega) ?_; intro v' w5 hown hgr hb5))
          go_roundw
          case rel =>
            obtain ⟨e1, hfl⟩ := HR.out
            refine ⟨i + 1, by omega, by go_num, ⟨some ⟨bb, off + l', none⟩, _, _, bs'.drop (l'), vs ++ [.slice (some ⟨bb, off, none⟩) l' c'], ps ++ [bs'.take (l')], rfl, ?_, hown, hsl.snoc e1, ?_, by simp [hvl]⟩, hb.trans hb5⟩
            · simpa using Co.row_back hr' (n := l') (by omega)
            · rw [List.flatten_append, List.append_assoc]; simp only [List.flatten_cons, List.flatten_nil, List.append_nil]; rw [List.take_append_drop]; exact hfl
          case measure => simp [intOf]; omega
    · obtain rfl : i = ss.length := by omega
      have hvl20 : vs.length ≤ 20 := by omega
      have hK := hid (hsl.snoc hr')
      have HF := hid hfl
      clear hfl hsl
      go_wp2_with ((at_builtin; refine appV rfl _ _ 51 rfl w.heap.size 25 i0 (.slice none 0 0) 24 Try.underlying51 hii hz0 hz1 hz2 rfl _ vs ho [.slice a' l' c'] 1 rfl (by intro u hu; simp at hu; subst hu; rfl) rfl rfl hb.size (by omega) (by omega) ?_; intro v' w5 hown hgr hb5; obtain ⟨pa, pc, rfl, hrow⟩ := hown.row; rw [show (vs ++ [Value.slice a' l' c']).length = ss.length + 1 by simp [hvl]] at hrow))
      go_ret
      exact ⟨pa, _, pc, ps ++ [bs'], rfl, Kit.RowsIn.mk hrow (hK.out.same (hb.trans hb5)), by rw [List.flatten_append]; simpa using HF.out, hb.trans hb5⟩
end Go.Proofs.Ytmnhepcnbdbhoaa.Wk

/- What the functions of package fold return: walks of their Go text. -/
import Derived.Test.YtibpmpikoocnnaaProg
import Derived.Test.YtibpmpikoocnnaaKit2
import Derived.Test.YtibpmpikoocnnaaKit4
import Derived.Test.YtibpmpikoocnnaaMath05
import Derived.Shelf.Abstract
namespace Go.Proofs.Ytibpmpikoocnnaa.Fo
open Go.Proofs Go.RowKit Go.Proofs.Ytibpmpikoocnnaa.Kit Go.Proofs.Ytibpmpikoocnnaa.M05
set_option linter.unusedVariables false

theorem fold_any (x : Int) (w : World) (h : -2147483648 ≤ x) (h2 : x ≤ 2147483647) :
    Calls Try.prog 13 #[.int .i32 x] w fun e w' => e = .returned (.int .u32 (foldI x)) ∧ w = w' := by
  rcases (show 0 ≤ x ∨ x < 0 by omega) with g | g
  · rw [foldI_pos g]
    have t : (2 * x < 0) = False := eq_false (by omega)
    go_enter Try.func13, Try.ntmps13
    go_wp2
    go_ret
    exact ⟨rfl, rfl⟩
  · rw [foldI_neg g, show -2 * x - 1 = -(2 * x) - 1 by omega]
    have t : (2 * x < 0) = True := eq_true (by omega)
    go_enter Try.func13, Try.ntmps13
    go_wp2
    go_ret
    exact ⟨rfl, rfl⟩

theorem back_any (n : Int) (w : World) (h : 0 ≤ n) (h2 : n ≤ 4294967295) :
    Calls Try.prog 15 #[.int .u32 n] w fun e w' => e = .returned (.int .i32 (backI n)) ∧ w = w' := by
  rcases (show n % 2 = 0 ∨ n % 2 = 1 by omega) with g | g
  · rw [backI_even g]
    have t : (n % 2 = 0) = True := eq_true g
    go_enter Try.func15, Try.ntmps15
    go_wp2
    go_ret
    exact ⟨rfl, rfl⟩
  · rw [backI_odd g]
    have t : (n % 2 = 0) = False := eq_false (by omega)
    go_enter Try.func15, Try.ntmps15
    go_wp2
    go_ret
    exact ⟨rfl, rfl⟩

theorem info_u32 : (Try.prog.info? 29).map (fun i => (i.zero, i.size, i.bytes)) = some (some (.int .u32 0), 1, 4) := by kernel_rfl
theorem info_i32 : (Try.prog.info? 21).map (fun i => (i.zero, i.size, i.bytes)) = some (some (.int .i32 0), 1, 4) := by kernel_rfl

set_option maxHeartbeats 1000000 in
theorem each1_any (b : Option Addr) (len cap : Nat) (xs : List Int) (w : World) (r : RowIn .i32 w b len cap xs) (hle : len ≤ 4000) :
    Calls Try.prog 21 #[.slice b len cap, .func (.func 13) #[] #[]] w fun e w' => ∃ a, e = .returned (.tuple #[.slice a len len, .int .i64 0]) ∧ RowIn .u32 w' a len len (xs.map foldI) ∧ Below w.heap.size w w' := by
  obtain ⟨i0, hi, hz0, hz1, hz2⟩ := info_parts info_u32
  obtain rfl := r.hl
  have hent := enters_of Try.func13 (by kernel_rfl) rfl
  have t : (4000 < (xs.length : Int)) = False := eq_false (by omega)
  have hwf := hid (fold_wf r.rd.2.2)
  go_enter Try.func21, Try.ntmps21
  go_wp2_with (at_make; refine makeI rfl _ _ 22 rfl w.heap.size 29 i0 4 .u32 Try.underlying22 hi hz0 hz1 hz2 _ xs.length rfl rfl rfl (by omega) (by omega) (Nat.le_refl _) ?_; intro w1 hown hgr hb1 hsz)
  go_loopw [17] (fun t wr => ∃ k : Nat, k ≤ xs.length ∧ t = .int .i64 k ∧ OwnI .u32 wr w.heap.size 29 (.slice (some ⟨w.heap.size, 0, none⟩) xs.length xs.length) ((xs.take k).map foldI ++ List.replicate (xs.length - k) 0) ∧ Below w.heap.size w wr) (fun t _ => xs.length - (intOf t).toNat)
  case atStart => exact ⟨0, by omega, by go_num, by simpa using hown, hb1⟩
  case round =>
    obtain ⟨k, hk, rfl, ho, hb⟩ := hrel
    clear hown hgr hb1 hsz
    by_cases hlt : k < xs.length
    · obtain ⟨b1, off, rfl, hcell⟩ := (r.same hb).rd.cells (by intro h0; rw [h0] at hlt; simp at hlt)
      have hc0 := hcell k hlt
      have hx := bd_i32 (getD_wf r.rd.2.2 hlt)
      have hs := hid (fill_set foldI hlt)
      have hfl := fill_length foldI hk
      have hcl := ho.cell k (by omega)
      have hfr := ho.free k
      have H := hid (ho.set k (foldI (xs.getD k 0)))
      have hB := hid hb
      generalize (((xs.take k).map foldI ++ List.replicate (xs.length - k) (0 : Int)).getD k 0) = y at *
      generalize xs.getD k 0 = x at *
      clear hcell ho hb
      go_wp2_with (first | (go_at_call 13; refine (fold_any x _ hx.1 hx.2).mono ?_; rintro e w' ⟨rfl, rfl⟩) | ((with_reducible refine (fold_any x _ hx.1 hx.2).mono ?_); rintro e w' ⟨rfl, rfl⟩))
      go_roundw
      case rel => exact ⟨k + 1, by omega, by go_num, by rw [← hs.out]; exact H.out.1, hB.out.trans H.out.2⟩
      case measure => simp [intOf]; omega
    · obtain rfl : k = xs.length := by omega
      have hR : RowIn .u32 wr (some ⟨w.heap.size, 0, none⟩) xs.length xs.length (xs.map foldI) := by
        have := ho
        rw [List.take_length, Nat.sub_self, List.replicate_zero, List.append_nil] at this
        exact this.rowLit hwf.out
      clear ho
      go_wp2
      go_ret2
      exact ⟨_, rfl, hR, hb⟩

set_option maxHeartbeats 1000000 in
theorem each2_any (b : Option Addr) (len cap : Nat) (xs : List Int) (w : World) (r : RowIn .u32 w b len cap xs) (hle : len ≤ 4000) :
    Calls Try.prog 22 #[.slice b len cap, .func (.func 15) #[] #[]] w fun e w' => ∃ a, e = .returned (.tuple #[.slice a len len, .int .i64 0]) ∧ RowIn .i32 w' a len len (xs.map backI) ∧ Below w.heap.size w w' := by
  obtain ⟨i0, hi, hz0, hz1, hz2⟩ := info_parts info_i32
  obtain rfl := r.hl
  have hent := enters_of Try.func15 (by kernel_rfl) rfl
  have t : (4000 < (xs.length : Int)) = False := eq_false (by omega)
  have hwf := hid (back_wf r.rd.2.2)
  go_enter Try.func22, Try.ntmps22
  go_wp2_with (at_make; refine makeI rfl _ _ 26 rfl w.heap.size 21 i0 4 .i32 Try.underlying26 hi hz0 hz1 hz2 _ xs.length rfl rfl rfl (by omega) (by omega) (Nat.le_refl _) ?_; intro w1 hown hgr hb1 hsz)
  go_loopw [17] (fun t wr => ∃ k : Nat, k ≤ xs.length ∧ t = .int .i64 k ∧ OwnI .i32 wr w.heap.size 21 (.slice (some ⟨w.heap.size, 0, none⟩) xs.length xs.length) ((xs.take k).map backI ++ List.replicate (xs.length - k) 0) ∧ Below w.heap.size w wr) (fun t _ => xs.length - (intOf t).toNat)
  case atStart => exact ⟨0, by omega, by go_num, by simpa using hown, hb1⟩
  case round =>
    obtain ⟨k, hk, rfl, ho, hb⟩ := hrel
    clear hown hgr hb1 hsz
    by_cases hlt : k < xs.length
    · obtain ⟨b1, off, rfl, hcell⟩ := (r.same hb).rd.cells (by intro h0; rw [h0] at hlt; simp at hlt)
      have hc0 := hcell k hlt
      have hx := bd_u32 (getD_wf r.rd.2.2 hlt)
      have hs := hid (fill_set backI hlt)
      have hfl := fill_length backI hk
      have hcl := ho.cell k (by omega)
      have hfr := ho.free k
      have H := hid (ho.set k (backI (xs.getD k 0)))
      have hB := hid hb
      generalize (((xs.take k).map backI ++ List.replicate (xs.length - k) (0 : Int)).getD k 0) = y at *
      generalize xs.getD k 0 = x at *
      clear hcell ho hb
      go_wp2_with (first | (go_at_call 15; refine (back_any x _ hx.1 hx.2).mono ?_; rintro e w' ⟨rfl, rfl⟩) | ((with_reducible refine (back_any x _ hx.1 hx.2).mono ?_); rintro e w' ⟨rfl, rfl⟩))
      go_roundw
      case rel => exact ⟨k + 1, by omega, by go_num, by rw [← hs.out]; exact H.out.1, hB.out.trans H.out.2⟩
      case measure => simp [intOf]; omega
    · obtain rfl : k = xs.length := by omega
      have hR : RowIn .i32 wr (some ⟨w.heap.size, 0, none⟩) xs.length xs.length (xs.map backI) := by
        have := ho
        rw [List.take_length, Nat.sub_self, List.replicate_zero, List.append_nil] at this
        exact this.rowLit hwf.out
      clear ho
      go_wp2
      go_ret2
      exact ⟨_, rfl, hR, hb⟩

set_option maxHeartbeats 400000 in
theorem all_any (b : Option Addr) (len cap : Nat) (xs : List Int) (w : World) (r : RowIn .i32 w b len cap xs) (hle : len ≤ 4000) :
    Calls Try.prog 9 #[.slice b len cap] w fun e w' => ∃ a, e = .returned (.tuple #[.slice a len len, .int .i64 0]) ∧ RowIn .u32 w' a len len (xs.map foldI) ∧ Below w.heap.size w w' := by
  have X := each1_any b len cap xs w r hle
  go_enter Try.func9, Try.ntmps9
  go_wp2_with (go_at_call 21; refine X.mono ?_; rintro e w' ⟨a, rfl, hr, hb⟩)
  go_ret2
  exact ⟨_, rfl, hr, hb⟩

set_option maxHeartbeats 400000 in
theorem each1_many (b : Option Addr) (len cap : Nat) (f : Value) (w : World) (hgt : 4000 < len) (h63 : len ≤ 9223372036854775807) :
    Calls Try.prog 21 #[.slice b len cap, f] w fun e w' => e = .returned (.tuple #[.slice none 0 0, .int .i64 4]) ∧ w = w' := by
  have t : (4000 < (len : Int)) = True := eq_true (by omega)
  go_enter Try.func21, Try.ntmps21
  go_wp2
  go_ret2
  exact ⟨rfl, rfl⟩

theorem all_many (b : Option Addr) (len cap : Nat) (w : World) (hgt : 4000 < len) (h63 : len ≤ 9223372036854775807) :
    Calls Try.prog 9 #[.slice b len cap] w fun e w' => e = .returned (.tuple #[.slice none 0 0, .int .i64 4]) ∧ w = w' := by
  have X := each1_many b len cap (.func (.func 13) #[] #[]) w hgt h63
  go_enter Try.func9, Try.ntmps9
  go_wp2_with (go_at_call 21; refine X.mono ?_; rintro e w' ⟨rfl, rfl⟩)
  go_ret2
  exact ⟨rfl, rfl⟩

set_option maxHeartbeats 400000 in
theorem undo_any (b : Option Addr) (len cap : Nat) (xs : List Int) (w : World) (r : RowIn .u32 w b len cap xs) (hle : len ≤ 4000) :
    Calls Try.prog 10 #[.slice b len cap] w fun e w' => ∃ a, e = .returned (.tuple #[.slice a len len, .int .i64 0]) ∧ RowIn .i32 w' a len len (xs.map backI) ∧ Below w.heap.size w w' := by
  have X := each2_any b len cap xs w r hle
  go_enter Try.func10, Try.ntmps10
  go_wp2_with (go_at_call 22; refine X.mono ?_; rintro e w' ⟨a, rfl, hr, hb⟩)
  go_ret2
  exact ⟨_, rfl, hr, hb⟩

set_option maxHeartbeats 400000 in
theorem each2_many (b : Option Addr) (len cap : Nat) (f : Value) (w : World) (hgt : 4000 < len) (h63 : len ≤ 9223372036854775807) :
    Calls Try.prog 22 #[.slice b len cap, f] w fun e w' => e = .returned (.tuple #[.slice none 0 0, .int .i64 4]) ∧ w = w' := by
  have t : (4000 < (len : Int)) = True := eq_true (by omega)
  go_enter Try.func22, Try.ntmps22
  go_wp2
  go_ret2
  exact ⟨rfl, rfl⟩

theorem undo_many (b : Option Addr) (len cap : Nat) (w : World) (hgt : 4000 < len) (h63 : len ≤ 9223372036854775807) :
    Calls Try.prog 10 #[.slice b len cap] w fun e w' => e = .returned (.tuple #[.slice none 0 0, .int .i64 4]) ∧ w = w' := by
  have X := each2_many b len cap (.func (.func 15) #[] #[]) w hgt h63
  go_enter Try.func10, Try.ntmps10
  go_wp2_with (go_at_call 22; refine X.mono ?_; rintro e w' ⟨rfl, rfl⟩)
  go_ret2
  exact ⟨rfl, rfl⟩
end Go.Proofs.Ytibpmpikoocnnaa.Fo

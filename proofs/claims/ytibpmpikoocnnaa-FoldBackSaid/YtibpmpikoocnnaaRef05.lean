/- What the reference of layer 5 returns. -/
import Derived.Test.YtibpmpikoocnnaaFold
import Derived.Deep.QuietTactic
import Derived.BigQuiet
namespace Go.Proofs.Ytibpmpikoocnnaa.R05
open Go.Proofs Go.RowKit Go.Proofs.Ytibpmpikoocnnaa.Kit Go.Proofs.Ytibpmpikoocnnaa.M05 Go.Proofs.Ytibpmpikoocnnaa.Fo
set_option linter.unusedVariables false

theorem rfold_any (x : Int) (w : World) (h : -2147483648 ≤ x) (h2 : x ≤ 2147483647) :
    Calls Try.prog 14 #[.int .i32 x] w fun e w' => e = .returned (.int .u32 (foldI x)) ∧ w = w' := by
  rcases (show 0 ≤ x ∨ x < 0 by omega) with g | g
  · rw [foldI_pos g]
    have t : (0 ≤ x) = True := eq_true g
    go_enter Try.func14, Try.ntmps14
    go_wp2
    go_ret
    exact ⟨rfl, rfl⟩
  · rw [foldI_neg g]
    have t : (0 ≤ x) = False := eq_false (by omega)
    go_enter Try.func14, Try.ntmps14
    go_wp2
    go_ret
    exact ⟨rfl, rfl⟩

theorem rback_any (n : Int) (w : World) (h : 0 ≤ n) (h2 : n ≤ 4294967295) :
    Calls Try.prog 16 #[.int .u32 n] w fun e w' => e = .returned (.int .i32 (backI n)) ∧ w = w' := by
  rcases (show n % 2 = 0 ∨ n % 2 = 1 by omega) with g | g
  · rw [backI_even g]
    have t : (n % 2 = 0) = True := eq_true g
    go_enter Try.func16, Try.ntmps16
    go_wp2
    go_ret
    exact ⟨rfl, rfl⟩
  · rw [backI_odd g, show -(n / 2) - 1 = -(n / 2 + 1) by omega]
    have t : (n % 2 = 0) = False := eq_false (by omega)
    have hv : (n + 1).tdiv 2 = n / 2 + 1 := by rw [Int.tdiv_eq_ediv_of_nonneg (by omega)]; omega
    go_enter Try.func16, Try.ntmps16
    go_wp2
    go_ret
    exact ⟨rfl, rfl⟩

set_option maxHeartbeats 1000000 in
theorem rall_any (b : Option Addr) (len cap : Nat) (xs : List Int) (w : World) (r : RowIn .i32 w b len cap xs) (hle : len ≤ 4000) :
    Calls Try.prog 17 #[.slice b len cap] w fun e w' => ∃ a c, e = .returned (.tuple #[.slice a len c, .int .i64 0]) ∧ RowIn .u32 w' a len c (xs.map foldI) ∧ Below w.heap.size w w' := by
  obtain ⟨i0, hi, hz0, hz1, hz2⟩ := info_parts info_u32
  obtain rfl := r.hl
  have t : (4000 < (xs.length : Int)) = False := eq_false (by omega)
  have hwf := hid (fold_wf r.rd.2.2)
  go_enter Try.func17, Try.ntmps17
  go_wp2
  go_loopw [4, 5] (fun v t wr => ∃ k : Nat, k ≤ xs.length ∧ t = .int .i64 k ∧ OwnI .u32 wr w.heap.size 29 v ((xs.take k).map foldI) ∧ Below w.heap.size w wr) (fun _ t _ => xs.length - (intOf t).toNat)
  case atStart => exact ⟨0, by omega, by go_num, OwnI.nil, Below.refl _ _⟩
  case round =>
    obtain ⟨k, hk, rfl, ho, hb⟩ := hrel
    by_cases hlt : k < xs.length
    · obtain ⟨b1, off, rfl, hcell⟩ := (r.same hb).rd.cells (by intro h0; rw [h0] at hlt; simp at hlt)
      have hc0 := hcell k hlt
      have hx := bd_i32 (getD_wf r.rd.2.2 hlt)
      have hs := hid (map_snoc foldI hlt)
      have hsz := hb.size
      have hlk : ((xs.take k).map foldI).length = k := by simp; omega
      generalize xs.getD k 0 = x at *
      clear hcell
      go_wp2_with (first  | (go_at_call 14; refine (rfold_any x _ hx.1 hx.2).mono ?_; rintro e w' ⟨rfl, rfl⟩)  | (refine app1 rfl _ _ 22 rfl w.heap.size 29 i0 (.int .u32 0) 4 Try.underlying22 hi hz0 hz1 hz2 rfl .u32 _ _ ho _ rfl rfl (by omega) (by omega) (by omega) ?_; intro v' w2 hown hgr hb2))
      go_roundw
      case rel => exact ⟨k + 1, by omega, by go_num, by rw [hs.out]; exact hown, hb.trans hb2⟩
      case measure => simp [intOf]; omega
    · obtain rfl : k = xs.length := by omega
      have hR := ho.row (by rw [List.take_length]; exact hwf.out)
      rw [List.take_length] at hR
      obtain ⟨a, c, rfl, hR⟩ := hR
      rw [List.length_map] at hR
      clear ho
      go_wp2
      go_ret2
      exact ⟨_, _, by simp, hR, hb⟩

theorem rall_many (b : Option Addr) (len cap : Nat) (w : World) (hgt : 4000 < len) (h63 : len ≤ 9223372036854775807) :
    Calls Try.prog 17 #[.slice b len cap] w fun e w' => e = .returned (.tuple #[.slice none 0 0, .int .i64 4]) ∧ w = w' := by
  have t : (4000 < (len : Int)) = True := eq_true (by omega)
  go_enter Try.func17, Try.ntmps17
  go_wp2
  go_ret2
  exact ⟨rfl, rfl⟩

set_option maxHeartbeats 1000000 in
theorem rundo_any (b : Option Addr) (len cap : Nat) (xs : List Int) (w : World) (r : RowIn .u32 w b len cap xs) (hle : len ≤ 4000) :
    Calls Try.prog 18 #[.slice b len cap] w fun e w' => ∃ a c, e = .returned (.tuple #[.slice a len c, .int .i64 0]) ∧ RowIn .i32 w' a len c (xs.map backI) ∧ Below w.heap.size w w' := by
  obtain ⟨i0, hi, hz0, hz1, hz2⟩ := info_parts info_i32
  obtain rfl := r.hl
  have t : (4000 < (xs.length : Int)) = False := eq_false (by omega)
  have hwf := hid (back_wf r.rd.2.2)
  go_enter Try.func18, Try.ntmps18
  go_wp2
  go_loopw [4, 5] (fun v t wr => ∃ k : Nat, k ≤ xs.length ∧ t = .int .i64 k ∧ OwnI .i32 wr w.heap.size 21 v ((xs.take k).map backI) ∧ Below w.heap.size w wr) (fun _ t _ => xs.length - (intOf t).toNat)
  case atStart => exact ⟨0, by omega, by go_num, OwnI.nil, Below.refl _ _⟩
  case round =>
    obtain ⟨k, hk, rfl, ho, hb⟩ := hrel
    by_cases hlt : k < xs.length
    · obtain ⟨b1, off, rfl, hcell⟩ := (r.same hb).rd.cells (by intro h0; rw [h0] at hlt; simp at hlt)
      have hc0 := hcell k hlt
      have hx := bd_u32 (getD_wf r.rd.2.2 hlt)
      have hs := hid (map_snoc backI hlt)
      have hsz := hb.size
      have hlk : ((xs.take k).map backI).length = k := by simp; omega
      generalize xs.getD k 0 = x at *
      clear hcell
      go_wp2_with (first  | (go_at_call 16; refine (rback_any x _ hx.1 hx.2).mono ?_; rintro e w' ⟨rfl, rfl⟩)  | (refine app1 rfl _ _ 26 rfl w.heap.size 21 i0 (.int .i32 0) 4 Try.underlying26 hi hz0 hz1 hz2 rfl .i32 _ _ ho _ rfl rfl (by omega) (by omega) (by omega) ?_; intro v' w2 hown hgr hb2))
      go_roundw
      case rel => exact ⟨k + 1, by omega, by go_num, by rw [hs.out]; exact hown, hb.trans hb2⟩
      case measure => simp [intOf]; omega
    · obtain rfl : k = xs.length := by omega
      have hR := ho.row (by rw [List.take_length]; exact hwf.out)
      rw [List.take_length] at hR
      obtain ⟨a, c, rfl, hR⟩ := hR
      rw [List.length_map] at hR
      clear ho
      go_wp2
      go_ret2
      exact ⟨_, _, by simp, hR, hb⟩

theorem rundo_many (b : Option Addr) (len cap : Nat) (w : World) (hgt : 4000 < len) (h63 : len ≤ 9223372036854775807) :
    Calls Try.prog 18 #[.slice b len cap] w fun e w' => e = .returned (.tuple #[.slice none 0 0, .int .i64 4]) ∧ w = w' := by
  have t : (4000 < (len : Int)) = True := eq_true (by omega)
  go_enter Try.func18, Try.ntmps18
  go_wp2
  go_ret2
  exact ⟨rfl, rfl⟩

set_option maxHeartbeats 1000000 in
theorem same_any (a : Option Addr) (len cap : Nat) (xs : List Int) (b : Option Addr) (blen bcap : Nat) (ys : List Int) (w : World) (r : RowIn .u32 w a len cap xs) (r2 : RowIn .u32 w b blen bcap ys) :
    Calls Try.prog 19 #[.slice a len cap, .slice b blen bcap] w fun e w' => e = .returned (.bool (sameL xs ys)) ∧ ∃ q, w' = w.drewN q := by
  have hl1 := r.rd.len
  have hl2 := r2.rd.len
  by_cases hlen : len = blen
  · subst hlen
    have e1 := hid r.hl
    have e2 := hid r2.hl
    rw [r.hl] at hl1
    clear hl2
    go_enter Try.func19, Try.ntmps19
    go_wp2
    go_loopw [5] (fun t wr => ∃ k : Nat, k ≤ len ∧ t = .int .i64 k ∧ xs.take k = ys.take k ∧ ∃ q, wr = w.drewN q) (fun t _ => len - (intOf t).toNat)
    case atStart => exact ⟨0, by omega, by go_num, rfl, 0, rfl⟩
    case round =>
      obtain ⟨k, hk, rfl, ht, q, rfl⟩ := hrel
      have ht := hid ht
      by_cases hlt : k < len
      · obtain ⟨b1, o1, rfl, c1⟩ := r.rd.cells (by intro h0; have := e1.out; rw [h0] at this; simp at this; omega)
        obtain ⟨b2, o2, rfl, c2⟩ := r2.rd.cells (by intro h0; have := e2.out; rw [h0] at this; simp at this; omega)
        have d1 := c1 k (by rw [e1.out]; exact hlt)
        have d2 := c2 k (by rw [e2.out]; exact hlt)
        have x1 := bd_u32 (getD_wf r.rd.2.2 (show k < xs.length by rw [e1.out]; exact hlt))
        have x2 := bd_u32 (getD_wf r2.rd.2.2 (show k < ys.length by rw [e2.out]; exact hlt))
        have hne := fun h => hid (sameL_ne (xs := xs) (ys := ys) (k := k) h)
        have heq := fun h => hid (take_snoc_eq ht.out (by rw [e1.out]; exact hlt) (by rw [e2.out]; exact hlt) h)
        generalize xs.getD k 0 = x at *
        generalize ys.getD k 0 = y at *
        clear c1 c2
        by_cases hxy : x = y
        · have hT := heq hxy
          subst hxy
          clear hne heq
          go_wp2
          go_quiet (fail)
          go_wp2
          go_roundw
          case rel => exact ⟨k + 1, by omega, by go_num, hT.out, _, rfl⟩
          case measure => simp [intOf]; omega
        · have hF := hne hxy
          have t2 : (x = y) = False := eq_false hxy
          clear hne heq
          go_wp2
          go_quiet (fail)
          go_wp2
          go_ret
          exact ⟨by rw [hF.out]; rfl, _, World.drewN_drewN ..⟩
      · obtain rfl : k = len := by omega
        have hT : Hid (sameL xs ys = true) := by
          have h := ht.out
          have q1 := e1.out
          have q2 := e2.out
          rw [← q1, List.take_length, q1, ← q2, List.take_length] at h
          rw [h]; exact sameL_self _
        go_wp2
        go_ret
        exact ⟨by rw [hT.out]; rfl, q, rfl⟩
  · have t : ((len : Int) = (blen : Int)) = False := eq_false (by omega)
    have hF : sameL xs ys = false := by
      unfold sameL; rw [decide_eq_false]; intro h; exact hlen (by rw [← r.hl, ← r2.hl, h])
    rw [hF]
    rw [r.hl] at hl1
    rw [r2.hl] at hl2
    go_enter Try.func19, Try.ntmps19
    go_wp2
    go_ret
    exact ⟨rfl, 0, rfl⟩

set_option maxHeartbeats 1000000 in
theorem sames_any (a : Option Addr) (len cap : Nat) (xs : List Int) (b : Option Addr) (blen bcap : Nat) (ys : List Int) (w : World) (r : RowIn .i32 w a len cap xs) (r2 : RowIn .i32 w b blen bcap ys) :
    Calls Try.prog 11 #[.slice a len cap, .slice b blen bcap] w fun e w' => e = .returned (.bool (sameL xs ys)) ∧ ∃ q, w' = w.drewN q := by
  have hl1 := r.rd.len
  have hl2 := r2.rd.len
  by_cases hlen : len = blen
  · subst hlen
    have e1 := hid r.hl
    have e2 := hid r2.hl
    rw [r.hl] at hl1
    clear hl2
    go_enter Try.func11, Try.ntmps11
    go_wp2
    go_loopw [5] (fun t wr => ∃ k : Nat, k ≤ len ∧ t = .int .i64 k ∧ xs.take k = ys.take k ∧ ∃ q, wr = w.drewN q) (fun t _ => len - (intOf t).toNat)
    case atStart => exact ⟨0, by omega, by go_num, rfl, 0, rfl⟩
    case round =>
      obtain ⟨k, hk, rfl, ht, q, rfl⟩ := hrel
      have ht := hid ht
      by_cases hlt : k < len
      · obtain ⟨b1, o1, rfl, c1⟩ := r.rd.cells (by intro h0; have := e1.out; rw [h0] at this; simp at this; omega)
        obtain ⟨b2, o2, rfl, c2⟩ := r2.rd.cells (by intro h0; have := e2.out; rw [h0] at this; simp at this; omega)
        have d1 := c1 k (by rw [e1.out]; exact hlt)
        have d2 := c2 k (by rw [e2.out]; exact hlt)
        have x1 := bd_i32 (getD_wf r.rd.2.2 (show k < xs.length by rw [e1.out]; exact hlt))
        have x2 := bd_i32 (getD_wf r2.rd.2.2 (show k < ys.length by rw [e2.out]; exact hlt))
        have hne := fun h => hid (sameL_ne (xs := xs) (ys := ys) (k := k) h)
        have heq := fun h => hid (take_snoc_eq ht.out (by rw [e1.out]; exact hlt) (by rw [e2.out]; exact hlt) h)
        generalize xs.getD k 0 = x at *
        generalize ys.getD k 0 = y at *
        clear c1 c2
        by_cases hxy : x = y
        · have hT := heq hxy
          subst hxy
          clear hne heq
          go_wp2
          go_quiet (fail)
          go_wp2
          go_roundw
          case rel => exact ⟨k + 1, by omega, by go_num, hT.out, _, rfl⟩
          case measure => simp [intOf]; omega
        · have hF := hne hxy
          have t2 : (x = y) = False := eq_false hxy
          clear hne heq
          go_wp2
          go_quiet (fail)
          go_wp2
          go_ret
          exact ⟨by rw [hF.out]; rfl, _, World.drewN_drewN ..⟩
      · obtain rfl : k = len := by omega
        have hT : Hid (sameL xs ys = true) := by
          have h := ht.out
          have q1 := e1.out
          have q2 := e2.out
          rw [← q1, List.take_length, q1, ← q2, List.take_length] at h
          rw [h]; exact sameL_self _
        go_wp2
        go_ret
        exact ⟨by rw [hT.out]; rfl, q, rfl⟩
  · have t : ((len : Int) = (blen : Int)) = False := eq_false (by omega)
    have hF : sameL xs ys = false := by
      unfold sameL; rw [decide_eq_false]; intro h; exact hlen (by rw [← r.hl, ← r2.hl, h])
    rw [hF]
    rw [r.hl] at hl1
    rw [r2.hl] at hl2
    go_enter Try.func11, Try.ntmps11
    go_wp2
    go_ret
    exact ⟨rfl, 0, rfl⟩
end Go.Proofs.Ytibpmpikoocnnaa.R05

/- The laws of layer 3: the chapter's examples, and the sums of the reference. -/
import Derived.Test.YthpopnpmaclncaaRef03
import Derived.Test.YthpopnpmaclncaaKit2
import Derived.Test.YthpopnpmaclncaaKit4
namespace Go.Proofs.Ythpopnpmaclncaa.Wk
open Go.RowKit Go.Proofs.Ythpopnpmaclncaa.Kit Go.Proofs.Ythpopnpmaclncaa.M03 Go.Proofs.Ythpopnpmaclncaa.Cr Go.Proofs.Ythpopnpmaclncaa.R03
set_option linter.unusedVariables false

def nine : List Int := [49, 50, 51, 52, 53, 54, 55, 56, 57]

set_option maxHeartbeats 4000000 in
theorem alive_any (w : World) : Calls Try.prog 12 #[] w fun e w' => e = .returned (.bool true) ∧ Below w.heap.size w w' := by
  have kc := fun (w : World) (C : Array Value) (n c : Nat) => Lib.run_convert_bytes_const (P := Try.prog) w 28 5 C n c Try.underlying28 Try.underlying5
  have S1 := sum_any none 0 0 [] w RowIn.nil
  have O2 := litMark (k := .u8) w 5 nine 9 #[.int .u8 49, .int .u8 50, .int .u8 51, .int .u8 52, .int .u8 53, .int .u8 54, .int .u8 55, .int .u8 56, .int .u8 57] (9, 10) rfl rfl (by decide) (by decide +kernel)
  have S2 := sum_any _ _ _ nine _ O2
  have T := table_any (w.alloc (.cells #[.int .u8 49, .int .u8 50, .int .u8 51, .int .u8 52, .int .u8 53, .int .u8 54, .int .u8 55, .int .u8 56, .int .u8 57] 5 (9, 10)))
  rw [show smN [] = 0 by decide +kernel, show nxE [] = 0 by decide +kernel] at S1
  rw [show smN nine = 3421780262 by decide +kernel, show nxE nine = 0 by decide +kernel] at S2
  have hb1 := below1 w (.cells #[.int .u8 49, .int .u8 50, .int .u8 51, .int .u8 52, .int .u8 53, .int .u8 54, .int .u8 55, .int .u8 56, .int .u8 57] 5 (9, 10))
  clear O2
  go_enter Try.func12, Try.ntmps12
  go_wp2_with (first  | ((with_reducible refine S1.mono ?_); rintro e w' ⟨rfl, rfl⟩)  | ((with_reducible refine S2.mono ?_); rintro e w' ⟨rfl, rfl⟩)  | ((with_reducible refine T.mono ?_); rintro e w3 ⟨a, rfl, ho, hb⟩; have c0 := ho.cell 0 (by rw [tbl_length]; decide); have c1 := ho.cell 1 (by rw [tbl_length]; decide); have c2 := ho.cell 2 (by rw [tbl_length]; decide); rw [tbl_get (by decide), show behI 0 ((0 : Nat) : Int) = 0 by decide +kernel] at c0; rw [tbl_get (by decide), show behI 0 ((1 : Nat) : Int) = 1996959894 by decide +kernel] at c1; rw [tbl_get (by decide), show behI 0 ((2 : Nat) : Int) = 3993919788 by decide +kernel] at c2))
  go_ret
  exact ⟨rfl, hb1.trans (hb.mono hb1.size)⟩

theorem info_u8 : (Try.prog.info? 5).map (fun i => (i.zero, i.size, i.bytes)) = some (some (.int .u8 0), 1, 1) := by kernel_rfl

theorem next_at {s v : Int} {xs : List Int} {len : Nat} (h : 0 ≤ s) (h2 : s < 4294967296) (hl : xs.length = len) (hl2 : len ≤ 100000) (hv : crcI s xs = v) :
    Hid (∀ w b cap, RowIn .u8 w b len cap xs → Calls Try.prog 11 #[.int .u32 s, .slice b len cap] w fun e w' => e = .returned (.tuple #[.int .u32 v, .int .i64 0]) ∧ w = w') := by
  intro w b cap r
  have X := next_any s b len cap xs w r h h2
  rw [nxN, nxE, if_pos (by omega), if_pos (by omega), hv] at X
  exact X
theorem sum_at {v : Int} {xs : List Int} {len : Nat} (hl : xs.length = len) (hl2 : len ≤ 100000) (hv : crcI 4294967295 xs = v) :
    Hid (∀ w b cap, RowIn .u8 w b len cap xs → Calls Try.prog 10 #[.slice b len cap] w fun e w' => e = .returned (.tuple #[.int .u32 (4294967295 - v), .int .i64 0]) ∧ w = w') := by
  intro w b cap r
  have X := sum_any b len cap xs w r
  rw [smN, nxE, if_pos (by omega), if_pos (by omega), hv] at X
  exact X
end Go.Proofs.Ythpopnpmaclncaa.Wk

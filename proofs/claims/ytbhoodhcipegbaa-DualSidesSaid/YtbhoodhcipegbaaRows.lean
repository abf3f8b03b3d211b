/-
  No cell of these rows narrows 'for every input' (looked for: loops, veiled, ifaces, maps, wideKeys, modest, calm, conditions, laid).
  DERIVED. THE GIVEN ROWS OF THIS SEAT. 7 by the template 'for every input the law returns true; each argument reads behind the call as it read before'; 0 by the template 'total and deterministic' (their statements: YtbhoodhcipegbaaTotals.lean).
  GIVEN WITH THE SEED: the statements are not yours to turn. If you find one false, say at which input.
  Laid BY PROGRAM, IN A SANDBOX (cutbox-rows.mjs): the forced cells as the released guide's own fill.sh prints them over the translation 2352ab9219486197… (all of the seat's roots in one cut). By AI agents, Wed Nov 11 2026. No macro, syntax, notation, axiom, sorry.
-/
import Derived.Test.YtbhoodhcipegbaaChecked
import GoSem.Claim
import GoSem.ClaimJoined
import GoSem.ClaimMapViews
import Derived.JoinedTies
import Derived.KernelRfl
namespace Go.Proofs.Ytbhoodhcipegbaa
/- THE CELL 'sum', in the pinned program and in every row, IS THE sha256 OF THE DUMP (.gsa) THAT YtbhoodhcipegbaaProg.lean LOADS. Nothing in Lean hashes anything: it is a label: what it is worth is what the hold of that sum in a sandbox is worth. -/
noncomputable def Try.pinned : Pinned := { name := "ytbhoodhcipegbaa", sum := "2352ab92194861971c42e0e1dafd47e8f26756a0e196be918fe868a43b175b1a", checked := Try.checked }
namespace Rows
def none {H : Type} : Left H := { results := [], args := [] }

/-- 'cadenzalaw08.DualNames': WHATEVER THE INPUT: true; the input reads as it did. -/
def dualNamesSpec : ChangeSpec := { name := "dualNames", fn := fun _ => fun
  | [] => { results := [.lit (.bool true)], args := [] }
  | _ => none }
def dualNamesRow : OpenClaim := { program := "ytbhoodhcipegbaa", sum := "2352ab92194861971c42e0e1dafd47e8f26756a0e196be918fe868a43b175b1a", func := "cadenza/cadenzalaw08.DualNames", spec := "dualNames", unfollowed := true, recurses := true, apart := false }
def DualNamesSaid : Prop := dualNamesRow.holds Try.pinned (OpenSpec.ofChange dualNamesSpec)

/-- ITS FALSE NEIGHBOUR: 'it returns false'. Refute it at one input. -/
def dualNamesWrong : ChangeSpec := { name := "dualNames", fn := fun _ => fun
  | [] => { results := [.lit (.bool false)], args := [] }
  | _ => none }
def DualNamesWrongFalsely : Prop := dualNamesRow.holds Try.pinned (OpenSpec.ofChange dualNamesWrong)

/-- 'cadenzalaw08.DualCodes': WHATEVER THE INPUT: true; the input reads as it did. -/
def dualCodesSpec : ChangeSpec := { name := "dualCodes", fn := fun _ => fun
  | [d1, d2, d3] => { results := [.lit (.bool true)], args := [d1, d2, d3] }
  | _ => none }
def dualCodesRow : OpenClaim := { program := "ytbhoodhcipegbaa", sum := "2352ab92194861971c42e0e1dafd47e8f26756a0e196be918fe868a43b175b1a", func := "cadenza/cadenzalaw08.DualCodes", spec := "dualCodes", unfollowed := true, recurses := true, apart := false }
def DualCodesSaid : Prop := dualCodesRow.holds Try.pinned (OpenSpec.ofChange dualCodesSpec)

/-- ITS FALSE NEIGHBOUR: 'it returns false'. Refute it at one input. -/
def dualCodesWrong : ChangeSpec := { name := "dualCodes", fn := fun _ => fun
  | [d1, d2, d3] => { results := [.lit (.bool false)], args := [d1, d2, d3] }
  | _ => none }
def DualCodesWrongFalsely : Prop := dualCodesRow.holds Try.pinned (OpenSpec.ofChange dualCodesWrong)

/-- 'cadenzalaw08.DualReads': WHATEVER THE INPUT: true; the input reads as it did. -/
def dualReadsSpec : ChangeSpec := { name := "dualReads", fn := fun _ => fun
  | [d1, d2, d3] => { results := [.lit (.bool true)], args := [d1, d2, d3] }
  | _ => none }
def dualReadsRow : OpenClaim := { program := "ytbhoodhcipegbaa", sum := "2352ab92194861971c42e0e1dafd47e8f26756a0e196be918fe868a43b175b1a", func := "cadenza/cadenzalaw08.DualReads", spec := "dualReads", unfollowed := true, recurses := true, apart := false }
def DualReadsSaid : Prop := dualReadsRow.holds Try.pinned (OpenSpec.ofChange dualReadsSpec)

/-- ITS FALSE NEIGHBOUR: 'it returns false'. Refute it at one input. -/
def dualReadsWrong : ChangeSpec := { name := "dualReads", fn := fun _ => fun
  | [d1, d2, d3] => { results := [.lit (.bool false)], args := [d1, d2, d3] }
  | _ => none }
def DualReadsWrongFalsely : Prop := dualReadsRow.holds Try.pinned (OpenSpec.ofChange dualReadsWrong)

/-- 'cadenzalaw08.DualSides': WHATEVER THE INPUT: true; the input reads as it did. -/
def dualSidesSpec : ChangeSpec := { name := "dualSides", fn := fun _ => fun
  | [d1, d2, d3] => { results := [.lit (.bool true)], args := [d1, d2, d3] }
  | _ => none }
def dualSidesRow : OpenClaim := { program := "ytbhoodhcipegbaa", sum := "2352ab92194861971c42e0e1dafd47e8f26756a0e196be918fe868a43b175b1a", func := "cadenza/cadenzalaw08.DualSides", spec := "dualSides", unfollowed := true, recurses := true, apart := false }
def DualSidesSaid : Prop := dualSidesRow.holds Try.pinned (OpenSpec.ofChange dualSidesSpec)

/-- ITS FALSE NEIGHBOUR: 'it returns false'. Refute it at one input. -/
def dualSidesWrong : ChangeSpec := { name := "dualSides", fn := fun _ => fun
  | [d1, d2, d3] => { results := [.lit (.bool false)], args := [d1, d2, d3] }
  | _ => none }
def DualSidesWrongFalsely : Prop := dualSidesRow.holds Try.pinned (OpenSpec.ofChange dualSidesWrong)

/-- 'cadenzalaw08.DualOnce': WHATEVER THE INPUT: true; the input reads as it did. -/
def dualOnceSpec : ChangeSpec := { name := "dualOnce", fn := fun _ => fun
  | [d1, d2, d3] => { results := [.lit (.bool true)], args := [d1, d2, d3] }
  | _ => none }
def dualOnceRow : OpenClaim := { program := "ytbhoodhcipegbaa", sum := "2352ab92194861971c42e0e1dafd47e8f26756a0e196be918fe868a43b175b1a", func := "cadenza/cadenzalaw08.DualOnce", spec := "dualOnce", unfollowed := true, recurses := true, apart := false }
def DualOnceSaid : Prop := dualOnceRow.holds Try.pinned (OpenSpec.ofChange dualOnceSpec)

/-- ITS FALSE NEIGHBOUR: 'it returns false'. Refute it at one input. -/
def dualOnceWrong : ChangeSpec := { name := "dualOnce", fn := fun _ => fun
  | [d1, d2, d3] => { results := [.lit (.bool false)], args := [d1, d2, d3] }
  | _ => none }
def DualOnceWrongFalsely : Prop := dualOnceRow.holds Try.pinned (OpenSpec.ofChange dualOnceWrong)

/-- 'cadenzalaw08.DualPairs': WHATEVER THE INPUT: true; the input reads as it did. -/
def dualPairsSpec : ChangeSpec := { name := "dualPairs", fn := fun _ => fun
  | [d1, d2, d3, d4] => { results := [.lit (.bool true)], args := [d1, d2, d3, d4] }
  | _ => none }
def dualPairsRow : OpenClaim := { program := "ytbhoodhcipegbaa", sum := "2352ab92194861971c42e0e1dafd47e8f26756a0e196be918fe868a43b175b1a", func := "cadenza/cadenzalaw08.DualPairs", spec := "dualPairs", unfollowed := true, recurses := true, apart := false }
def DualPairsSaid : Prop := dualPairsRow.holds Try.pinned (OpenSpec.ofChange dualPairsSpec)

/-- ITS FALSE NEIGHBOUR: 'it returns false'. Refute it at one input. -/
def dualPairsWrong : ChangeSpec := { name := "dualPairs", fn := fun _ => fun
  | [d1, d2, d3, d4] => { results := [.lit (.bool false)], args := [d1, d2, d3, d4] }
  | _ => none }
def DualPairsWrongFalsely : Prop := dualPairsRow.holds Try.pinned (OpenSpec.ofChange dualPairsWrong)

/-- 'cadenzalaw08.DualCut': WHATEVER THE INPUT: true; the input reads as it did. -/
def dualCutSpec : ChangeSpec := { name := "dualCut", fn := fun _ => fun
  | [d1, d2, d3, d4] => { results := [.lit (.bool true)], args := [d1, d2, d3, d4] }
  | _ => none }
def dualCutRow : OpenClaim := { program := "ytbhoodhcipegbaa", sum := "2352ab92194861971c42e0e1dafd47e8f26756a0e196be918fe868a43b175b1a", func := "cadenza/cadenzalaw08.DualCut", spec := "dualCut", unfollowed := true, recurses := true, apart := false }
def DualCutSaid : Prop := dualCutRow.holds Try.pinned (OpenSpec.ofChange dualCutSpec)

/-- ITS FALSE NEIGHBOUR: 'it returns false'. Refute it at one input. -/
def dualCutWrong : ChangeSpec := { name := "dualCut", fn := fun _ => fun
  | [d1, d2, d3, d4] => { results := [.lit (.bool false)], args := [d1, d2, d3, d4] }
  | _ => none }
def DualCutWrongFalsely : Prop := dualCutRow.holds Try.pinned (OpenSpec.ofChange dualCutWrong)

/- THE SECOND FORM. 'bulk': how many values and letters a reading holds, each counted each time it is reached (what is shared counts as often as it is met; a slice's spare places count too). A statement '..UptoSaid' is the law's where the arguments, and the package variables that the reading takes, are together of bulk at most 1048576: NARROWER than '..Said'. Prove '..Said' where nothing that the law and all that it calls make is longer than what came in: it says more and counts as full. Else prove '..UptoSaid'. A law counts once. -/
mutual
def uptoBulk {H : Type} : DataW H → Nat
  | .lit (.string bytes) => bytes.length + 1
  | .lit _ => 1
  | .nil => 1
  | .ptr d => uptoBulk d + 1
  | .slice elems spare => uptoBulkAll elems + uptoBulkAll spare + 1
  | .agg parts => uptoBulkAll parts + 1
  | .iface _ d => uptoBulk d + 1
  | .map entries => uptoBulkEntries entries + 1
  | .held _ => 1
def uptoBulkAll {H : Type} : List (DataW H) → Nat
  | [] => 0
  | d :: r => uptoBulk d + uptoBulkAll r
def uptoBulkEntries {H : Type} : List (Lit × DataW H) → Nat
  | [] => 0
  | x :: r => uptoBulkEntry x + uptoBulkEntries r
def uptoBulkEntry {H : Type} : Lit × DataW H → Nat
  | (.string bytes, d) => bytes.length + uptoBulk d + 1
  | (_, d) => uptoBulk d + 1
 end
def uptoSmall : (H : Type) → List (DataW H) → Bool := fun _ ds => decide (uptoBulkAll ds ≤ 1048576)
def OpenSpec.upto (s : _root_.Go.ChangeSpec) : _root_.Go.OpenSpec := { _root_.Go.OpenSpec.ofChange s with cond := some uptoSmall }

/-- 'cadenzalaw08.DualNames', WHERE WHAT IT READS IS OF BULK AT MOST 1048576: true; the input reads as it did. -/
def dualNamesUptoRow : OpenClaim := { program := "ytbhoodhcipegbaa", sum := "2352ab92194861971c42e0e1dafd47e8f26756a0e196be918fe868a43b175b1a", func := "cadenza/cadenzalaw08.DualNames", spec := "dualNames", unfollowed := true, recurses := true, apart := false, narrowed := true }
def DualNamesUptoSaid : Prop := dualNamesUptoRow.holds Try.pinned (OpenSpec.upto dualNamesSpec)

/-- 'cadenzalaw08.DualCodes', WHERE WHAT IT READS IS OF BULK AT MOST 1048576: true; the input reads as it did. -/
def dualCodesUptoRow : OpenClaim := { program := "ytbhoodhcipegbaa", sum := "2352ab92194861971c42e0e1dafd47e8f26756a0e196be918fe868a43b175b1a", func := "cadenza/cadenzalaw08.DualCodes", spec := "dualCodes", unfollowed := true, recurses := true, apart := false, narrowed := true }
def DualCodesUptoSaid : Prop := dualCodesUptoRow.holds Try.pinned (OpenSpec.upto dualCodesSpec)

/-- 'cadenzalaw08.DualReads', WHERE WHAT IT READS IS OF BULK AT MOST 1048576: true; the input reads as it did. -/
def dualReadsUptoRow : OpenClaim := { program := "ytbhoodhcipegbaa", sum := "2352ab92194861971c42e0e1dafd47e8f26756a0e196be918fe868a43b175b1a", func := "cadenza/cadenzalaw08.DualReads", spec := "dualReads", unfollowed := true, recurses := true, apart := false, narrowed := true }
def DualReadsUptoSaid : Prop := dualReadsUptoRow.holds Try.pinned (OpenSpec.upto dualReadsSpec)

/-- 'cadenzalaw08.DualSides', WHERE WHAT IT READS IS OF BULK AT MOST 1048576: true; the input reads as it did. -/
def dualSidesUptoRow : OpenClaim := { program := "ytbhoodhcipegbaa", sum := "2352ab92194861971c42e0e1dafd47e8f26756a0e196be918fe868a43b175b1a", func := "cadenza/cadenzalaw08.DualSides", spec := "dualSides", unfollowed := true, recurses := true, apart := false, narrowed := true }
def DualSidesUptoSaid : Prop := dualSidesUptoRow.holds Try.pinned (OpenSpec.upto dualSidesSpec)

/-- 'cadenzalaw08.DualOnce', WHERE WHAT IT READS IS OF BULK AT MOST 1048576: true; the input reads as it did. -/
def dualOnceUptoRow : OpenClaim := { program := "ytbhoodhcipegbaa", sum := "2352ab92194861971c42e0e1dafd47e8f26756a0e196be918fe868a43b175b1a", func := "cadenza/cadenzalaw08.DualOnce", spec := "dualOnce", unfollowed := true, recurses := true, apart := false, narrowed := true }
def DualOnceUptoSaid : Prop := dualOnceUptoRow.holds Try.pinned (OpenSpec.upto dualOnceSpec)

/-- 'cadenzalaw08.DualPairs', WHERE WHAT IT READS IS OF BULK AT MOST 1048576: true; the input reads as it did. -/
def dualPairsUptoRow : OpenClaim := { program := "ytbhoodhcipegbaa", sum := "2352ab92194861971c42e0e1dafd47e8f26756a0e196be918fe868a43b175b1a", func := "cadenza/cadenzalaw08.DualPairs", spec := "dualPairs", unfollowed := true, recurses := true, apart := false, narrowed := true }
def DualPairsUptoSaid : Prop := dualPairsUptoRow.holds Try.pinned (OpenSpec.upto dualPairsSpec)

/-- 'cadenzalaw08.DualCut', WHERE WHAT IT READS IS OF BULK AT MOST 1048576: true; the input reads as it did. -/
def dualCutUptoRow : OpenClaim := { program := "ytbhoodhcipegbaa", sum := "2352ab92194861971c42e0e1dafd47e8f26756a0e196be918fe868a43b175b1a", func := "cadenza/cadenzalaw08.DualCut", spec := "dualCut", unfollowed := true, recurses := true, apart := false, narrowed := true }
def DualCutUptoSaid : Prop := dualCutUptoRow.holds Try.pinned (OpenSpec.upto dualCutSpec)

end Rows
end Go.Proofs.Ytbhoodhcipegbaa

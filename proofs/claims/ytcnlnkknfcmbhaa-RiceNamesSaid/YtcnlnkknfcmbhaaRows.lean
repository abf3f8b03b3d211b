/-
  No cell of these rows narrows 'for every input' (looked for: loops, veiled, ifaces, maps, wideKeys, modest, calm, conditions, laid).
  DERIVED. THE GIVEN ROWS OF THIS SEAT. 6 by the template 'for every input the law returns true; each argument reads behind the call as it read before'; 0 by the template 'total and deterministic' (their statements: YtcnlnkknfcmbhaaTotals.lean).
  GIVEN WITH THE SEED: the statements are not yours to turn. If you find one false, say at which input.
  Laid BY PROGRAM, IN A SANDBOX (cutbox-rows.mjs): the forced cells as the released guide's own fill.sh prints them over the translation 02308ddbcd075779… (all of the seat's roots in one cut). By AI agents, Wed Nov 11 2026. No macro, syntax, notation, axiom, sorry.
-/
import Derived.Test.YtcnlnkknfcmbhaaChecked
import GoSem.Claim
import GoSem.ClaimJoined
import GoSem.ClaimMapViews
import Derived.JoinedTies
import Derived.KernelRfl
namespace Go.Proofs.Ytcnlnkknfcmbhaa
/- THE CELL 'sum', in the pinned program and in every row, IS THE sha256 OF THE DUMP (.gsa) THAT YtcnlnkknfcmbhaaProg.lean LOADS. Nothing in Lean hashes anything: it is a label: what it is worth is what the hold of that sum in a sandbox is worth. -/
noncomputable def Try.pinned : Pinned := { name := "ytcnlnkknfcmbhaa", sum := "02308ddbcd0757790950354a83812b87160585e26f02545feb5fd60ad71641fd", checked := Try.checked }
namespace Rows
def none {H : Type} : Left H := { results := [], args := [] }

/-- 'cadenzalaw07.RiceNames': WHATEVER THE INPUT: true; the input reads as it did. -/
def riceNamesSpec : ChangeSpec := { name := "riceNames", fn := fun _ => fun
  | [] => { results := [.lit (.bool true)], args := [] }
  | _ => none }
def riceNamesRow : OpenClaim := { program := "ytcnlnkknfcmbhaa", sum := "02308ddbcd0757790950354a83812b87160585e26f02545feb5fd60ad71641fd", func := "cadenza/cadenzalaw07.RiceNames", spec := "riceNames", unfollowed := true, recurses := true, apart := false }
def RiceNamesSaid : Prop := riceNamesRow.holds Try.pinned (OpenSpec.ofChange riceNamesSpec)

/-- ITS FALSE NEIGHBOUR: 'it returns false'. Refute it at one input. -/
def riceNamesWrong : ChangeSpec := { name := "riceNames", fn := fun _ => fun
  | [] => { results := [.lit (.bool false)], args := [] }
  | _ => none }
def RiceNamesWrongFalsely : Prop := riceNamesRow.holds Try.pinned (OpenSpec.ofChange riceNamesWrong)

/-- 'cadenzalaw07.RiceCodes': WHATEVER THE INPUT: true; the input reads as it did. -/
def riceCodesSpec : ChangeSpec := { name := "riceCodes", fn := fun _ => fun
  | [d1, d2, d3, d4] => { results := [.lit (.bool true)], args := [d1, d2, d3, d4] }
  | _ => none }
def riceCodesRow : OpenClaim := { program := "ytcnlnkknfcmbhaa", sum := "02308ddbcd0757790950354a83812b87160585e26f02545feb5fd60ad71641fd", func := "cadenza/cadenzalaw07.RiceCodes", spec := "riceCodes", unfollowed := true, recurses := true, apart := false }
def RiceCodesSaid : Prop := riceCodesRow.holds Try.pinned (OpenSpec.ofChange riceCodesSpec)

/-- ITS FALSE NEIGHBOUR: 'it returns false'. Refute it at one input. -/
def riceCodesWrong : ChangeSpec := { name := "riceCodes", fn := fun _ => fun
  | [d1, d2, d3, d4] => { results := [.lit (.bool false)], args := [d1, d2, d3, d4] }
  | _ => none }
def RiceCodesWrongFalsely : Prop := riceCodesRow.holds Try.pinned (OpenSpec.ofChange riceCodesWrong)

/-- 'cadenzalaw07.RiceBack': WHATEVER THE INPUT: true; the input reads as it did. -/
def riceBackSpec : ChangeSpec := { name := "riceBack", fn := fun _ => fun
  | [d1, d2, d3] => { results := [.lit (.bool true)], args := [d1, d2, d3] }
  | _ => none }
def riceBackRow : OpenClaim := { program := "ytcnlnkknfcmbhaa", sum := "02308ddbcd0757790950354a83812b87160585e26f02545feb5fd60ad71641fd", func := "cadenza/cadenzalaw07.RiceBack", spec := "riceBack", unfollowed := true, recurses := true, apart := false }
def RiceBackSaid : Prop := riceBackRow.holds Try.pinned (OpenSpec.ofChange riceBackSpec)

/-- ITS FALSE NEIGHBOUR: 'it returns false'. Refute it at one input. -/
def riceBackWrong : ChangeSpec := { name := "riceBack", fn := fun _ => fun
  | [d1, d2, d3] => { results := [.lit (.bool false)], args := [d1, d2, d3] }
  | _ => none }
def RiceBackWrongFalsely : Prop := riceBackRow.holds Try.pinned (OpenSpec.ofChange riceBackWrong)

/-- 'cadenzalaw07.RiceOnce': WHATEVER THE INPUT: true; the input reads as it did. -/
def riceOnceSpec : ChangeSpec := { name := "riceOnce", fn := fun _ => fun
  | [d1, d2, d3] => { results := [.lit (.bool true)], args := [d1, d2, d3] }
  | _ => none }
def riceOnceRow : OpenClaim := { program := "ytcnlnkknfcmbhaa", sum := "02308ddbcd0757790950354a83812b87160585e26f02545feb5fd60ad71641fd", func := "cadenza/cadenzalaw07.RiceOnce", spec := "riceOnce", unfollowed := true, recurses := true, apart := false }
def RiceOnceSaid : Prop := riceOnceRow.holds Try.pinned (OpenSpec.ofChange riceOnceSpec)

/-- ITS FALSE NEIGHBOUR: 'it returns false'. Refute it at one input. -/
def riceOnceWrong : ChangeSpec := { name := "riceOnce", fn := fun _ => fun
  | [d1, d2, d3] => { results := [.lit (.bool false)], args := [d1, d2, d3] }
  | _ => none }
def RiceOnceWrongFalsely : Prop := riceOnceRow.holds Try.pinned (OpenSpec.ofChange riceOnceWrong)

/-- 'cadenzalaw07.RiceOrder': WHATEVER THE INPUT: true; the input reads as it did. -/
def riceOrderSpec : ChangeSpec := { name := "riceOrder", fn := fun _ => fun
  | [d1, d2, d3] => { results := [.lit (.bool true)], args := [d1, d2, d3] }
  | _ => none }
def riceOrderRow : OpenClaim := { program := "ytcnlnkknfcmbhaa", sum := "02308ddbcd0757790950354a83812b87160585e26f02545feb5fd60ad71641fd", func := "cadenza/cadenzalaw07.RiceOrder", spec := "riceOrder", unfollowed := true, recurses := true, apart := false }
def RiceOrderSaid : Prop := riceOrderRow.holds Try.pinned (OpenSpec.ofChange riceOrderSpec)

/-- ITS FALSE NEIGHBOUR: 'it returns false'. Refute it at one input. -/
def riceOrderWrong : ChangeSpec := { name := "riceOrder", fn := fun _ => fun
  | [d1, d2, d3] => { results := [.lit (.bool false)], args := [d1, d2, d3] }
  | _ => none }
def RiceOrderWrongFalsely : Prop := riceOrderRow.holds Try.pinned (OpenSpec.ofChange riceOrderWrong)

/-- 'cadenzalaw07.RiceCut': WHATEVER THE INPUT: true; the input reads as it did. -/
def riceCutSpec : ChangeSpec := { name := "riceCut", fn := fun _ => fun
  | [d1, d2, d3, d4] => { results := [.lit (.bool true)], args := [d1, d2, d3, d4] }
  | _ => none }
def riceCutRow : OpenClaim := { program := "ytcnlnkknfcmbhaa", sum := "02308ddbcd0757790950354a83812b87160585e26f02545feb5fd60ad71641fd", func := "cadenza/cadenzalaw07.RiceCut", spec := "riceCut", unfollowed := true, recurses := true, apart := false }
def RiceCutSaid : Prop := riceCutRow.holds Try.pinned (OpenSpec.ofChange riceCutSpec)

/-- ITS FALSE NEIGHBOUR: 'it returns false'. Refute it at one input. -/
def riceCutWrong : ChangeSpec := { name := "riceCut", fn := fun _ => fun
  | [d1, d2, d3, d4] => { results := [.lit (.bool false)], args := [d1, d2, d3, d4] }
  | _ => none }
def RiceCutWrongFalsely : Prop := riceCutRow.holds Try.pinned (OpenSpec.ofChange riceCutWrong)

/- THE SECOND FORM. 'bulk': how many values and letters a reading holds, each counted each time it is reached (what is shared counts as often as it is met; a slice's spare places count too). A statement '..UptoSaid' is the law's where the arguments, and the package variables that the reading takes, are together of bulk at most 1048576: NARROWER than '..Said'. Prove '..Said' where nothing that the law and all that it calls make is longer than what came in: it says more and counts as full. Else prove '..UptoSaid'. A law counts once. -/
mutual
def uptoBulk {H : Type} : DataW H → Nat
  | .lit (.string bytes) => bytes.length + 1
  | .lit _ => 1
  | .nil => 1
  | .ptr d => uptoBulk d + 1
  | .slice elems spare => uptoBulkAll elems + uptoBulkAll spare + 1
  | .agg parts => uptoBulkAll parts + 1
  | .iface _ d => uptoBulk d + 1
  | .map entries => uptoBulkEntries entries + 1
  | .held _ => 1
def uptoBulkAll {H : Type} : List (DataW H) → Nat
  | [] => 0
  | d :: r => uptoBulk d + uptoBulkAll r
def uptoBulkEntries {H : Type} : List (Lit × DataW H) → Nat
  | [] => 0
  | x :: r => uptoBulkEntry x + uptoBulkEntries r
def uptoBulkEntry {H : Type} : Lit × DataW H → Nat
  | (.string bytes, d) => bytes.length + uptoBulk d + 1
  | (_, d) => uptoBulk d + 1
 end
def uptoSmall : (H : Type) → List (DataW H) → Bool := fun _ ds => decide (uptoBulkAll ds ≤ 1048576)
def OpenSpec.upto (s : _root_.Go.ChangeSpec) : _root_.Go.OpenSpec := { _root_.Go.OpenSpec.ofChange s with cond := some uptoSmall }

/-- 'cadenzalaw07.RiceNames', WHERE WHAT IT READS IS OF BULK AT MOST 1048576: true; the input reads as it did. -/
def riceNamesUptoRow : OpenClaim := { program := "ytcnlnkknfcmbhaa", sum := "02308ddbcd0757790950354a83812b87160585e26f02545feb5fd60ad71641fd", func := "cadenza/cadenzalaw07.RiceNames", spec := "riceNames", unfollowed := true, recurses := true, apart := false, narrowed := true }
def RiceNamesUptoSaid : Prop := riceNamesUptoRow.holds Try.pinned (OpenSpec.upto riceNamesSpec)

/-- 'cadenzalaw07.RiceCodes', WHERE WHAT IT READS IS OF BULK AT MOST 1048576: true; the input reads as it did. -/
def riceCodesUptoRow : OpenClaim := { program := "ytcnlnkknfcmbhaa", sum := "02308ddbcd0757790950354a83812b87160585e26f02545feb5fd60ad71641fd", func := "cadenza/cadenzalaw07.RiceCodes", spec := "riceCodes", unfollowed := true, recurses := true, apart := false, narrowed := true }
def RiceCodesUptoSaid : Prop := riceCodesUptoRow.holds Try.pinned (OpenSpec.upto riceCodesSpec)

/-- 'cadenzalaw07.RiceBack', WHERE WHAT IT READS IS OF BULK AT MOST 1048576: true; the input reads as it did. -/
def riceBackUptoRow : OpenClaim := { program := "ytcnlnkknfcmbhaa", sum := "02308ddbcd0757790950354a83812b87160585e26f02545feb5fd60ad71641fd", func := "cadenza/cadenzalaw07.RiceBack", spec := "riceBack", unfollowed := true, recurses := true, apart := false, narrowed := true }
def RiceBackUptoSaid : Prop := riceBackUptoRow.holds Try.pinned (OpenSpec.upto riceBackSpec)

/-- 'cadenzalaw07.RiceOnce', WHERE WHAT IT READS IS OF BULK AT MOST 1048576: true; the input reads as it did. -/
def riceOnceUptoRow : OpenClaim := { program := "ytcnlnkknfcmbhaa", sum := "02308ddbcd0757790950354a83812b87160585e26f02545feb5fd60ad71641fd", func := "cadenza/cadenzalaw07.RiceOnce", spec := "riceOnce", unfollowed := true, recurses := true, apart := false, narrowed := true }
def RiceOnceUptoSaid : Prop := riceOnceUptoRow.holds Try.pinned (OpenSpec.upto riceOnceSpec)

/-- 'cadenzalaw07.RiceOrder', WHERE WHAT IT READS IS OF BULK AT MOST 1048576: true; the input reads as it did. -/
def riceOrderUptoRow : OpenClaim := { program := "ytcnlnkknfcmbhaa", sum := "02308ddbcd0757790950354a83812b87160585e26f02545feb5fd60ad71641fd", func := "cadenza/cadenzalaw07.RiceOrder", spec := "riceOrder", unfollowed := true, recurses := true, apart := false, narrowed := true }
def RiceOrderUptoSaid : Prop := riceOrderUptoRow.holds Try.pinned (OpenSpec.upto riceOrderSpec)

/-- 'cadenzalaw07.RiceCut', WHERE WHAT IT READS IS OF BULK AT MOST 1048576: true; the input reads as it did. -/
def riceCutUptoRow : OpenClaim := { program := "ytcnlnkknfcmbhaa", sum := "02308ddbcd0757790950354a83812b87160585e26f02545feb5fd60ad71641fd", func := "cadenza/cadenzalaw07.RiceCut", spec := "riceCut", unfollowed := true, recurses := true, apart := false, narrowed := true }
def RiceCutUptoSaid : Prop := riceCutUptoRow.holds Try.pinned (OpenSpec.upto riceCutSpec)

end Rows
end Go.Proofs.Ytcnlnkknfcmbhaa

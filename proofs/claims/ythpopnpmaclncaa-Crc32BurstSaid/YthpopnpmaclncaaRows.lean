/-
  No cell of these rows narrows 'for every input' (looked for: loops, veiled, ifaces, maps, wideKeys, modest, calm, conditions, laid).
  DERIVED. THE GIVEN ROWS OF THIS SEAT. 6 by the template 'for every input the law returns true; each argument reads behind the call as it read before'; 0 by the template 'total and deterministic' (their statements: YthpopnpmaclncaaTotals.lean).
  GIVEN WITH THE SEED: the statements are not yours to turn. If you find one false, say at which input.
  Laid BY PROGRAM, IN A SANDBOX (cutbox-rows.mjs): the forced cells as the released guide's own fill.sh prints them over the translation 93c551a820847d5a… (all of the seat's roots in one cut). By AI agents, Wed Nov 11 2026. No macro, syntax, notation, axiom, sorry.
-/
import Derived.Test.YthpopnpmaclncaaChecked
import GoSem.Claim
import GoSem.ClaimJoined
import GoSem.ClaimMapViews
import Derived.JoinedTies
import Derived.KernelRfl
namespace Go.Proofs.Ythpopnpmaclncaa
/- THE CELL 'sum', in the pinned program and in every row, IS THE sha256 OF THE DUMP (.gsa) THAT YthpopnpmaclncaaProg.lean LOADS. Nothing in Lean hashes anything: it is a label: what it is worth is what the hold of that sum in a sandbox is worth. -/
noncomputable def Try.pinned : Pinned := { name := "ythpopnpmaclncaa", sum := "93c551a820847d5acdbf5cb0f5574a6a9b1629149ba7f4ea14e63b03a6973034", checked := Try.checked }
namespace Rows
def none {H : Type} : Left H := { results := [], args := [] }

/-- 'cadenzalaw03.Crc32Names': WHATEVER THE INPUT: true; the input reads as it did. -/
def crc32NamesSpec : ChangeSpec := { name := "crc32Names", fn := fun _ => fun
  | [] => { results := [.lit (.bool true)], args := [] }
  | _ => none }
def crc32NamesRow : OpenClaim := { program := "ythpopnpmaclncaa", sum := "93c551a820847d5acdbf5cb0f5574a6a9b1629149ba7f4ea14e63b03a6973034", func := "cadenza/cadenzalaw03.Crc32Names", spec := "crc32Names", apart := false }
def Crc32NamesSaid : Prop := crc32NamesRow.holds Try.pinned (OpenSpec.ofChange crc32NamesSpec)

/-- ITS FALSE NEIGHBOUR: 'it returns false'. Refute it at one input. -/
def crc32NamesWrong : ChangeSpec := { name := "crc32Names", fn := fun _ => fun
  | [] => { results := [.lit (.bool false)], args := [] }
  | _ => none }
def Crc32NamesWrongFalsely : Prop := crc32NamesRow.holds Try.pinned (OpenSpec.ofChange crc32NamesWrong)

/-- 'cadenzalaw03.Crc32Sums': WHATEVER THE INPUT: true; the input reads as it did. -/
def crc32SumsSpec : ChangeSpec := { name := "crc32Sums", fn := fun _ => fun
  | [d1, d2] => { results := [.lit (.bool true)], args := [d1, d2] }
  | _ => none }
def crc32SumsRow : OpenClaim := { program := "ythpopnpmaclncaa", sum := "93c551a820847d5acdbf5cb0f5574a6a9b1629149ba7f4ea14e63b03a6973034", func := "cadenza/cadenzalaw03.Crc32Sums", spec := "crc32Sums", apart := false }
def Crc32SumsSaid : Prop := crc32SumsRow.holds Try.pinned (OpenSpec.ofChange crc32SumsSpec)

/-- ITS FALSE NEIGHBOUR: 'it returns false'. Refute it at one input. -/
def crc32SumsWrong : ChangeSpec := { name := "crc32Sums", fn := fun _ => fun
  | [d1, d2] => { results := [.lit (.bool false)], args := [d1, d2] }
  | _ => none }
def Crc32SumsWrongFalsely : Prop := crc32SumsRow.holds Try.pinned (OpenSpec.ofChange crc32SumsWrong)

/-- 'cadenzalaw03.Crc32Burst': WHATEVER THE INPUT: true; the input reads as it did. -/
def crc32BurstSpec : ChangeSpec := { name := "crc32Burst", fn := fun _ => fun
  | [d1, d2, d3] => { results := [.lit (.bool true)], args := [d1, d2, d3] }
  | _ => none }
def crc32BurstRow : OpenClaim := { program := "ythpopnpmaclncaa", sum := "93c551a820847d5acdbf5cb0f5574a6a9b1629149ba7f4ea14e63b03a6973034", func := "cadenza/cadenzalaw03.Crc32Burst", spec := "crc32Burst", apart := false }
def Crc32BurstSaid : Prop := crc32BurstRow.holds Try.pinned (OpenSpec.ofChange crc32BurstSpec)

/-- ITS FALSE NEIGHBOUR: 'it returns false'. Refute it at one input. -/
def crc32BurstWrong : ChangeSpec := { name := "crc32Burst", fn := fun _ => fun
  | [d1, d2, d3] => { results := [.lit (.bool false)], args := [d1, d2, d3] }
  | _ => none }
def Crc32BurstWrongFalsely : Prop := crc32BurstRow.holds Try.pinned (OpenSpec.ofChange crc32BurstWrong)

/-- 'cadenzalaw03.Crc32Parts': WHATEVER THE INPUT: true; the input reads as it did. -/
def crc32PartsSpec : ChangeSpec := { name := "crc32Parts", fn := fun _ => fun
  | [d1, d2, d3] => { results := [.lit (.bool true)], args := [d1, d2, d3] }
  | _ => none }
def crc32PartsRow : OpenClaim := { program := "ythpopnpmaclncaa", sum := "93c551a820847d5acdbf5cb0f5574a6a9b1629149ba7f4ea14e63b03a6973034", func := "cadenza/cadenzalaw03.Crc32Parts", spec := "crc32Parts", apart := false }
def Crc32PartsSaid : Prop := crc32PartsRow.holds Try.pinned (OpenSpec.ofChange crc32PartsSpec)

/-- ITS FALSE NEIGHBOUR: 'it returns false'. Refute it at one input. -/
def crc32PartsWrong : ChangeSpec := { name := "crc32Parts", fn := fun _ => fun
  | [d1, d2, d3] => { results := [.lit (.bool false)], args := [d1, d2, d3] }
  | _ => none }
def Crc32PartsWrongFalsely : Prop := crc32PartsRow.holds Try.pinned (OpenSpec.ofChange crc32PartsWrong)

/-- 'cadenzalaw03.Crc32Linear': WHATEVER THE INPUT: true; the input reads as it did. -/
def crc32LinearSpec : ChangeSpec := { name := "crc32Linear", fn := fun _ => fun
  | [d1, d2] => { results := [.lit (.bool true)], args := [d1, d2] }
  | _ => none }
def crc32LinearRow : OpenClaim := { program := "ythpopnpmaclncaa", sum := "93c551a820847d5acdbf5cb0f5574a6a9b1629149ba7f4ea14e63b03a6973034", func := "cadenza/cadenzalaw03.Crc32Linear", spec := "crc32Linear", apart := false }
def Crc32LinearSaid : Prop := crc32LinearRow.holds Try.pinned (OpenSpec.ofChange crc32LinearSpec)

/-- ITS FALSE NEIGHBOUR: 'it returns false'. Refute it at one input. -/
def crc32LinearWrong : ChangeSpec := { name := "crc32Linear", fn := fun _ => fun
  | [d1, d2] => { results := [.lit (.bool false)], args := [d1, d2] }
  | _ => none }
def Crc32LinearWrongFalsely : Prop := crc32LinearRow.holds Try.pinned (OpenSpec.ofChange crc32LinearWrong)

/-- 'cadenzalaw03.Crc32Table': WHATEVER THE INPUT: true; the input reads as it did. -/
def crc32TableSpec : ChangeSpec := { name := "crc32Table", fn := fun _ => fun
  | [d1, d2] => { results := [.lit (.bool true)], args := [d1, d2] }
  | _ => none }
def crc32TableRow : OpenClaim := { program := "ythpopnpmaclncaa", sum := "93c551a820847d5acdbf5cb0f5574a6a9b1629149ba7f4ea14e63b03a6973034", func := "cadenza/cadenzalaw03.Crc32Table", spec := "crc32Table", apart := false }
def Crc32TableSaid : Prop := crc32TableRow.holds Try.pinned (OpenSpec.ofChange crc32TableSpec)

/-- ITS FALSE NEIGHBOUR: 'it returns false'. Refute it at one input. -/
def crc32TableWrong : ChangeSpec := { name := "crc32Table", fn := fun _ => fun
  | [d1, d2] => { results := [.lit (.bool false)], args := [d1, d2] }
  | _ => none }
def Crc32TableWrongFalsely : Prop := crc32TableRow.holds Try.pinned (OpenSpec.ofChange crc32TableWrong)

/- THE SECOND FORM. 'bulk': how many values and letters a reading holds, each counted each time it is reached (what is shared counts as often as it is met; a slice's spare places count too). A statement '..UptoSaid' is the law's where the arguments, and the package variables that the reading takes, are together of bulk at most 1048576: NARROWER than '..Said'. Prove '..Said' where nothing that the law and all that it calls make is longer than what came in: it says more and counts as full. Else prove '..UptoSaid'. A law counts once. -/
mutual
def uptoBulk {H : Type} : DataW H → Nat
  | .lit (.string bytes) => bytes.length + 1
  | .lit _ => 1
  | .nil => 1
  | .ptr d => uptoBulk d + 1
  | .slice elems spare => uptoBulkAll elems + uptoBulkAll spare + 1
  | .agg parts => uptoBulkAll parts + 1
  | .iface _ d => uptoBulk d + 1
  | .map entries => uptoBulkEntries entries + 1
  | .held _ => 1
def uptoBulkAll {H : Type} : List (DataW H) → Nat
  | [] => 0
  | d :: r => uptoBulk d + uptoBulkAll r
def uptoBulkEntries {H : Type} : List (Lit × DataW H) → Nat
  | [] => 0
  | x :: r => uptoBulkEntry x + uptoBulkEntries r
def uptoBulkEntry {H : Type} : Lit × DataW H → Nat
  | (.string bytes, d) => bytes.length + uptoBulk d + 1
  | (_, d) => uptoBulk d + 1
 end
def uptoSmall : (H : Type) → List (DataW H) → Bool := fun _ ds => decide (uptoBulkAll ds ≤ 1048576)
def OpenSpec.upto (s : _root_.Go.ChangeSpec) : _root_.Go.OpenSpec := { _root_.Go.OpenSpec.ofChange s with cond := some uptoSmall }

/-- 'cadenzalaw03.Crc32Names', WHERE WHAT IT READS IS OF BULK AT MOST 1048576: true; the input reads as it did. -/
def crc32NamesUptoRow : OpenClaim := { program := "ythpopnpmaclncaa", sum := "93c551a820847d5acdbf5cb0f5574a6a9b1629149ba7f4ea14e63b03a6973034", func := "cadenza/cadenzalaw03.Crc32Names", spec := "crc32Names", apart := false, narrowed := true }
def Crc32NamesUptoSaid : Prop := crc32NamesUptoRow.holds Try.pinned (OpenSpec.upto crc32NamesSpec)

/-- 'cadenzalaw03.Crc32Sums', WHERE WHAT IT READS IS OF BULK AT MOST 1048576: true; the input reads as it did. -/
def crc32SumsUptoRow : OpenClaim := { program := "ythpopnpmaclncaa", sum := "93c551a820847d5acdbf5cb0f5574a6a9b1629149ba7f4ea14e63b03a6973034", func := "cadenza/cadenzalaw03.Crc32Sums", spec := "crc32Sums", apart := false, narrowed := true }
def Crc32SumsUptoSaid : Prop := crc32SumsUptoRow.holds Try.pinned (OpenSpec.upto crc32SumsSpec)

/-- 'cadenzalaw03.Crc32Burst', WHERE WHAT IT READS IS OF BULK AT MOST 1048576: true; the input reads as it did. -/
def crc32BurstUptoRow : OpenClaim := { program := "ythpopnpmaclncaa", sum := "93c551a820847d5acdbf5cb0f5574a6a9b1629149ba7f4ea14e63b03a6973034", func := "cadenza/cadenzalaw03.Crc32Burst", spec := "crc32Burst", apart := false, narrowed := true }
def Crc32BurstUptoSaid : Prop := crc32BurstUptoRow.holds Try.pinned (OpenSpec.upto crc32BurstSpec)

/-- 'cadenzalaw03.Crc32Parts', WHERE WHAT IT READS IS OF BULK AT MOST 1048576: true; the input reads as it did. -/
def crc32PartsUptoRow : OpenClaim := { program := "ythpopnpmaclncaa", sum := "93c551a820847d5acdbf5cb0f5574a6a9b1629149ba7f4ea14e63b03a6973034", func := "cadenza/cadenzalaw03.Crc32Parts", spec := "crc32Parts", apart := false, narrowed := true }
def Crc32PartsUptoSaid : Prop := crc32PartsUptoRow.holds Try.pinned (OpenSpec.upto crc32PartsSpec)

/-- 'cadenzalaw03.Crc32Linear', WHERE WHAT IT READS IS OF BULK AT MOST 1048576: true; the input reads as it did. -/
def crc32LinearUptoRow : OpenClaim := { program := "ythpopnpmaclncaa", sum := "93c551a820847d5acdbf5cb0f5574a6a9b1629149ba7f4ea14e63b03a6973034", func := "cadenza/cadenzalaw03.Crc32Linear", spec := "crc32Linear", apart := false, narrowed := true }
def Crc32LinearUptoSaid : Prop := crc32LinearUptoRow.holds Try.pinned (OpenSpec.upto crc32LinearSpec)

/-- 'cadenzalaw03.Crc32Table', WHERE WHAT IT READS IS OF BULK AT MOST 1048576: true; the input reads as it did. -/
def crc32TableUptoRow : OpenClaim := { program := "ythpopnpmaclncaa", sum := "93c551a820847d5acdbf5cb0f5574a6a9b1629149ba7f4ea14e63b03a6973034", func := "cadenza/cadenzalaw03.Crc32Table", spec := "crc32Table", apart := false, narrowed := true }
def Crc32TableUptoSaid : Prop := crc32TableUptoRow.holds Try.pinned (OpenSpec.upto crc32TableSpec)

end Rows
end Go.Proofs.Ythpopnpmaclncaa

/-
  No cell of these rows narrows 'for every input' (looked for: loops, veiled, ifaces, maps, wideKeys, modest, calm, conditions, laid).
  DERIVED. THE GIVEN ROWS OF THIS SEAT. 11 by the template 'for every input the law returns true; each argument reads behind the call as it read before'; 0 by the template 'total and deterministic' (their statements: YtdfkpnimlhcchaaTotals.lean).
  GIVEN WITH THE SEED: the statements are not yours to turn. If you find one false, say at which input.
  Laid BY PROGRAM, IN A SANDBOX (cutbox-rows.mjs): the forced cells as the released guide's own fill.sh prints them over the translation 7179b61e2c5a35b8… (all of the seat's roots in one cut). By AI agents, Wed Nov 11 2026. No macro, syntax, notation, axiom, sorry.
-/
import Derived.Test.YtdfkpnimlhcchaaChecked
import GoSem.Claim
import GoSem.ClaimJoined
import GoSem.ClaimMapViews
import Derived.JoinedTies
import Derived.KernelRfl
namespace Go.Proofs.Ytdfkpnimlhcchaa
/- THE CELL 'sum', in the pinned program and in every row, IS THE sha256 OF THE DUMP (.gsa) THAT YtdfkpnimlhcchaaProg.lean LOADS. Nothing in Lean hashes anything: it is a label: what it is worth is what the hold of that sum in a sandbox is worth. -/
noncomputable def Try.pinned : Pinned := { name := "ytdfkpnimlhcchaa", sum := "7179b61e2c5a35b8f58b3cedc8d358f278474e4ebb8bab315f418257934d7e81", checked := Try.checked }
namespace Rows
def none {H : Type} : Left H := { results := [], args := [] }

/-- 'laws.FnExactAreaFirst': WHATEVER THE INPUT: true; the input reads as it did. -/
def fnExactAreaFirstSpec : ChangeSpec := { name := "fnExactAreaFirst", fn := fun _ => fun
  | [d] => { results := [.lit (.bool true)], args := [d] }
  | _ => none }
def fnExactAreaFirstRow : OpenClaim := { program := "ytdfkpnimlhcchaa", sum := "7179b61e2c5a35b8f58b3cedc8d358f278474e4ebb8bab315f418257934d7e81", func := "loop.example/g00327/laws.FnExactAreaFirst", spec := "fnExactAreaFirst", apart := false }
def FnExactAreaFirstSaid : Prop := fnExactAreaFirstRow.holds Try.pinned (OpenSpec.ofChange fnExactAreaFirstSpec)

/-- ITS FALSE NEIGHBOUR: 'it returns false'. Refute it at one input. -/
def fnExactAreaFirstWrong : ChangeSpec := { name := "fnExactAreaFirst", fn := fun _ => fun
  | [d] => { results := [.lit (.bool false)], args := [d] }
  | _ => none }
def FnExactAreaFirstWrongFalsely : Prop := fnExactAreaFirstRow.holds Try.pinned (OpenSpec.ofChange fnExactAreaFirstWrong)

/-- 'laws.FnExactLogNew': WHATEVER THE INPUT: true; the input reads as it did. -/
def fnExactLogNewSpec : ChangeSpec := { name := "fnExactLogNew", fn := fun _ => fun
  | [] => { results := [.lit (.bool true)], args := [] }
  | _ => none }
def fnExactLogNewRow : OpenClaim := { program := "ytdfkpnimlhcchaa", sum := "7179b61e2c5a35b8f58b3cedc8d358f278474e4ebb8bab315f418257934d7e81", func := "loop.example/g00327/laws.FnExactLogNew", spec := "fnExactLogNew", apart := false }
def FnExactLogNewSaid : Prop := fnExactLogNewRow.holds Try.pinned (OpenSpec.ofChange fnExactLogNewSpec)

/-- ITS FALSE NEIGHBOUR: 'it returns false'. Refute it at one input. -/
def fnExactLogNewWrong : ChangeSpec := { name := "fnExactLogNew", fn := fun _ => fun
  | [] => { results := [.lit (.bool false)], args := [] }
  | _ => none }
def FnExactLogNewWrongFalsely : Prop := fnExactLogNewRow.holds Try.pinned (OpenSpec.ofChange fnExactLogNewWrong)

/-- 'laws.FnExactLogOk': WHATEVER THE INPUT: true; the input reads as it did. -/
def fnExactLogOkSpec : ChangeSpec := { name := "fnExactLogOk", fn := fun _ => fun
  | [d] => { results := [.lit (.bool true)], args := [d] }
  | _ => none }
def fnExactLogOkRow : OpenClaim := { program := "ytdfkpnimlhcchaa", sum := "7179b61e2c5a35b8f58b3cedc8d358f278474e4ebb8bab315f418257934d7e81", func := "loop.example/g00327/laws.FnExactLogOk", spec := "fnExactLogOk", inPlace := ["internal/abi.NoEscape"], apart := false }
def FnExactLogOkSaid : Prop := fnExactLogOkRow.holds Try.pinned (OpenSpec.ofChange fnExactLogOkSpec)

/-- ITS FALSE NEIGHBOUR: 'it returns false'. Refute it at one input. -/
def fnExactLogOkWrong : ChangeSpec := { name := "fnExactLogOk", fn := fun _ => fun
  | [d] => { results := [.lit (.bool false)], args := [d] }
  | _ => none }
def FnExactLogOkWrongFalsely : Prop := fnExactLogOkRow.holds Try.pinned (OpenSpec.ofChange fnExactLogOkWrong)

/-- 'laws.FnExactActiveOf': WHATEVER THE INPUT: true; the input reads as it did. -/
def fnExactActiveOfSpec : ChangeSpec := { name := "fnExactActiveOf", fn := fun _ => fun
  | [d] => { results := [.lit (.bool true)], args := [d] }
  | _ => none }
def fnExactActiveOfRow : OpenClaim := { program := "ytdfkpnimlhcchaa", sum := "7179b61e2c5a35b8f58b3cedc8d358f278474e4ebb8bab315f418257934d7e81", func := "loop.example/g00327/laws.FnExactActiveOf", spec := "fnExactActiveOf", apart := false }
def FnExactActiveOfSaid : Prop := fnExactActiveOfRow.holds Try.pinned (OpenSpec.ofChange fnExactActiveOfSpec)

/-- ITS FALSE NEIGHBOUR: 'it returns false'. Refute it at one input. -/
def fnExactActiveOfWrong : ChangeSpec := { name := "fnExactActiveOf", fn := fun _ => fun
  | [d] => { results := [.lit (.bool false)], args := [d] }
  | _ => none }
def FnExactActiveOfWrongFalsely : Prop := fnExactActiveOfRow.holds Try.pinned (OpenSpec.ofChange fnExactActiveOfWrong)

/-- 'laws.FnExactCountIn': WHATEVER THE INPUT: true; the input reads as it did. -/
def fnExactCountInSpec : ChangeSpec := { name := "fnExactCountIn", fn := fun _ => fun
  | [d1, d2] => { results := [.lit (.bool true)], args := [d1, d2] }
  | _ => none }
def fnExactCountInRow : OpenClaim := { program := "ytdfkpnimlhcchaa", sum := "7179b61e2c5a35b8f58b3cedc8d358f278474e4ebb8bab315f418257934d7e81", func := "loop.example/g00327/laws.FnExactCountIn", spec := "fnExactCountIn", apart := false }
def FnExactCountInSaid : Prop := fnExactCountInRow.holds Try.pinned (OpenSpec.ofChange fnExactCountInSpec)

/-- ITS FALSE NEIGHBOUR: 'it returns false'. Refute it at one input. -/
def fnExactCountInWrong : ChangeSpec := { name := "fnExactCountIn", fn := fun _ => fun
  | [d1, d2] => { results := [.lit (.bool false)], args := [d1, d2] }
  | _ => none }
def FnExactCountInWrongFalsely : Prop := fnExactCountInRow.holds Try.pinned (OpenSpec.ofChange fnExactCountInWrong)

/-- 'laws.FnExactReadArea': WHATEVER THE INPUT: true; the input reads as it did. -/
def fnExactReadAreaSpec : ChangeSpec := { name := "fnExactReadArea", fn := fun _ => fun
  | [d1, d2] => { results := [.lit (.bool true)], args := [d1, d2] }
  | _ => none }
def fnExactReadAreaRow : OpenClaim := { program := "ytdfkpnimlhcchaa", sum := "7179b61e2c5a35b8f58b3cedc8d358f278474e4ebb8bab315f418257934d7e81", func := "loop.example/g00327/laws.FnExactReadArea", spec := "fnExactReadArea", inPlace := ["internal/abi.NoEscape"], apart := false }
def FnExactReadAreaSaid : Prop := fnExactReadAreaRow.holds Try.pinned (OpenSpec.ofChange fnExactReadAreaSpec)

/-- ITS FALSE NEIGHBOUR: 'it returns false'. Refute it at one input. -/
def fnExactReadAreaWrong : ChangeSpec := { name := "fnExactReadArea", fn := fun _ => fun
  | [d1, d2] => { results := [.lit (.bool false)], args := [d1, d2] }
  | _ => none }
def FnExactReadAreaWrongFalsely : Prop := fnExactReadAreaRow.holds Try.pinned (OpenSpec.ofChange fnExactReadAreaWrong)

/-- 'laws.FnExactLogTexts': WHATEVER THE INPUT: true; the input reads as it did. -/
def fnExactLogTextsSpec : ChangeSpec := { name := "fnExactLogTexts", fn := fun _ => fun
  | [d] => { results := [.lit (.bool true)], args := [d] }
  | _ => none }
def fnExactLogTextsRow : OpenClaim := { program := "ytdfkpnimlhcchaa", sum := "7179b61e2c5a35b8f58b3cedc8d358f278474e4ebb8bab315f418257934d7e81", func := "loop.example/g00327/laws.FnExactLogTexts", spec := "fnExactLogTexts", inPlace := ["internal/abi.NoEscape"], apart := false }
def FnExactLogTextsSaid : Prop := fnExactLogTextsRow.holds Try.pinned (OpenSpec.ofChange fnExactLogTextsSpec)

/-- ITS FALSE NEIGHBOUR: 'it returns false'. Refute it at one input. -/
def fnExactLogTextsWrong : ChangeSpec := { name := "fnExactLogTexts", fn := fun _ => fun
  | [d] => { results := [.lit (.bool false)], args := [d] }
  | _ => none }
def FnExactLogTextsWrongFalsely : Prop := fnExactLogTextsRow.holds Try.pinned (OpenSpec.ofChange fnExactLogTextsWrong)

/-- 'laws.FnExactPutRecord': WHATEVER THE INPUT: true; the input reads as it did. -/
def fnExactPutRecordSpec : ChangeSpec := { name := "fnExactPutRecord", fn := fun _ => fun
  | [d1, d2, d3] => { results := [.lit (.bool true)], args := [d1, d2, d3] }
  | _ => none }
def fnExactPutRecordRow : OpenClaim := { program := "ytdfkpnimlhcchaa", sum := "7179b61e2c5a35b8f58b3cedc8d358f278474e4ebb8bab315f418257934d7e81", func := "loop.example/g00327/laws.FnExactPutRecord", spec := "fnExactPutRecord", inPlace := ["internal/abi.NoEscape"], apart := false }
def FnExactPutRecordSaid : Prop := fnExactPutRecordRow.holds Try.pinned (OpenSpec.ofChange fnExactPutRecordSpec)

/-- ITS FALSE NEIGHBOUR: 'it returns false'. Refute it at one input. -/
def fnExactPutRecordWrong : ChangeSpec := { name := "fnExactPutRecord", fn := fun _ => fun
  | [d1, d2, d3] => { results := [.lit (.bool false)], args := [d1, d2, d3] }
  | _ => none }
def FnExactPutRecordWrongFalsely : Prop := fnExactPutRecordRow.holds Try.pinned (OpenSpec.ofChange fnExactPutRecordWrong)

/-- 'laws.FnExactAppendLog': WHATEVER THE INPUT: true; the input reads as it did. -/
def fnExactAppendLogSpec : ChangeSpec := { name := "fnExactAppendLog", fn := fun _ => fun
  | [d1, d2] => { results := [.lit (.bool true)], args := [d1, d2] }
  | _ => none }
def fnExactAppendLogRow : OpenClaim := { program := "ytdfkpnimlhcchaa", sum := "7179b61e2c5a35b8f58b3cedc8d358f278474e4ebb8bab315f418257934d7e81", func := "loop.example/g00327/laws.FnExactAppendLog", spec := "fnExactAppendLog", inPlace := ["internal/abi.NoEscape"], apart := false }
def FnExactAppendLogSaid : Prop := fnExactAppendLogRow.holds Try.pinned (OpenSpec.ofChange fnExactAppendLogSpec)

/-- ITS FALSE NEIGHBOUR: 'it returns false'. Refute it at one input. -/
def fnExactAppendLogWrong : ChangeSpec := { name := "fnExactAppendLog", fn := fun _ => fun
  | [d1, d2] => { results := [.lit (.bool false)], args := [d1, d2] }
  | _ => none }
def FnExactAppendLogWrongFalsely : Prop := fnExactAppendLogRow.holds Try.pinned (OpenSpec.ofChange fnExactAppendLogWrong)

/-- 'laws.FnExactSwitchLog': WHATEVER THE INPUT: true; the input reads as it did. -/
def fnExactSwitchLogSpec : ChangeSpec := { name := "fnExactSwitchLog", fn := fun _ => fun
  | [d1, d2] => { results := [.lit (.bool true)], args := [d1, d2] }
  | _ => none }
def fnExactSwitchLogRow : OpenClaim := { program := "ytdfkpnimlhcchaa", sum := "7179b61e2c5a35b8f58b3cedc8d358f278474e4ebb8bab315f418257934d7e81", func := "loop.example/g00327/laws.FnExactSwitchLog", spec := "fnExactSwitchLog", inPlace := ["internal/abi.NoEscape"], apart := false }
def FnExactSwitchLogSaid : Prop := fnExactSwitchLogRow.holds Try.pinned (OpenSpec.ofChange fnExactSwitchLogSpec)

/-- ITS FALSE NEIGHBOUR: 'it returns false'. Refute it at one input. -/
def fnExactSwitchLogWrong : ChangeSpec := { name := "fnExactSwitchLog", fn := fun _ => fun
  | [d1, d2] => { results := [.lit (.bool false)], args := [d1, d2] }
  | _ => none }
def FnExactSwitchLogWrongFalsely : Prop := fnExactSwitchLogRow.holds Try.pinned (OpenSpec.ofChange fnExactSwitchLogWrong)

/-- 'laws.FnExactCrashDisk': WHATEVER THE INPUT: true; the input reads as it did. -/
def fnExactCrashDiskSpec : ChangeSpec := { name := "fnExactCrashDisk", fn := fun _ => fun
  | [d1, d2, d3] => { results := [.lit (.bool true)], args := [d1, d2, d3] }
  | _ => none }
def fnExactCrashDiskRow : OpenClaim := { program := "ytdfkpnimlhcchaa", sum := "7179b61e2c5a35b8f58b3cedc8d358f278474e4ebb8bab315f418257934d7e81", func := "loop.example/g00327/laws.FnExactCrashDisk", spec := "fnExactCrashDisk", apart := false }
def FnExactCrashDiskSaid : Prop := fnExactCrashDiskRow.holds Try.pinned (OpenSpec.ofChange fnExactCrashDiskSpec)

/-- ITS FALSE NEIGHBOUR: 'it returns false'. Refute it at one input. -/
def fnExactCrashDiskWrong : ChangeSpec := { name := "fnExactCrashDisk", fn := fun _ => fun
  | [d1, d2, d3] => { results := [.lit (.bool false)], args := [d1, d2, d3] }
  | _ => none }
def FnExactCrashDiskWrongFalsely : Prop := fnExactCrashDiskRow.holds Try.pinned (OpenSpec.ofChange fnExactCrashDiskWrong)

/- THE SECOND FORM. 'bulk': how many values and letters a reading holds, each counted each time it is reached (what is shared counts as often as it is met; a slice's spare places count too). A statement '..UptoSaid' is the law's where the arguments, and the package variables that the reading takes, are together of bulk at most 1048576: NARROWER than '..Said'. Prove '..Said' where nothing that the law and all that it calls make is longer than what came in: it says more and counts as full. Else prove '..UptoSaid'. A law counts once. -/
mutual
def uptoBulk {H : Type} : DataW H → Nat
  | .lit (.string bytes) => bytes.length + 1
  | .lit _ => 1
  | .nil => 1
  | .ptr d => uptoBulk d + 1
  | .slice elems spare => uptoBulkAll elems + uptoBulkAll spare + 1
  | .agg parts => uptoBulkAll parts + 1
  | .iface _ d => uptoBulk d + 1
  | .map entries => uptoBulkEntries entries + 1
  | .held _ => 1
def uptoBulkAll {H : Type} : List (DataW H) → Nat
  | [] => 0
  | d :: r => uptoBulk d + uptoBulkAll r
def uptoBulkEntries {H : Type} : List (Lit × DataW H) → Nat
  | [] => 0
  | x :: r => uptoBulkEntry x + uptoBulkEntries r
def uptoBulkEntry {H : Type} : Lit × DataW H → Nat
  | (.string bytes, d) => bytes.length + uptoBulk d + 1
  | (_, d) => uptoBulk d + 1
 end
def uptoSmall : (H : Type) → List (DataW H) → Bool := fun _ ds => decide (uptoBulkAll ds ≤ 1048576)
def OpenSpec.upto (s : _root_.Go.ChangeSpec) : _root_.Go.OpenSpec := { _root_.Go.OpenSpec.ofChange s with cond := some uptoSmall }

/-- 'laws.FnExactAreaFirst', WHERE WHAT IT READS IS OF BULK AT MOST 1048576: true; the input reads as it did. -/
def fnExactAreaFirstUptoRow : OpenClaim := { program := "ytdfkpnimlhcchaa", sum := "7179b61e2c5a35b8f58b3cedc8d358f278474e4ebb8bab315f418257934d7e81", func := "loop.example/g00327/laws.FnExactAreaFirst", spec := "fnExactAreaFirst", apart := false, narrowed := true }
def FnExactAreaFirstUptoSaid : Prop := fnExactAreaFirstUptoRow.holds Try.pinned (OpenSpec.upto fnExactAreaFirstSpec)

/-- 'laws.FnExactLogNew', WHERE WHAT IT READS IS OF BULK AT MOST 1048576: true; the input reads as it did. -/
def fnExactLogNewUptoRow : OpenClaim := { program := "ytdfkpnimlhcchaa", sum := "7179b61e2c5a35b8f58b3cedc8d358f278474e4ebb8bab315f418257934d7e81", func := "loop.example/g00327/laws.FnExactLogNew", spec := "fnExactLogNew", apart := false, narrowed := true }
def FnExactLogNewUptoSaid : Prop := fnExactLogNewUptoRow.holds Try.pinned (OpenSpec.upto fnExactLogNewSpec)

/-- 'laws.FnExactLogOk', WHERE WHAT IT READS IS OF BULK AT MOST 1048576: true; the input reads as it did. -/
def fnExactLogOkUptoRow : OpenClaim := { program := "ytdfkpnimlhcchaa", sum := "7179b61e2c5a35b8f58b3cedc8d358f278474e4ebb8bab315f418257934d7e81", func := "loop.example/g00327/laws.FnExactLogOk", spec := "fnExactLogOk", inPlace := ["internal/abi.NoEscape"], apart := false, narrowed := true }
def FnExactLogOkUptoSaid : Prop := fnExactLogOkUptoRow.holds Try.pinned (OpenSpec.upto fnExactLogOkSpec)

/-- 'laws.FnExactActiveOf', WHERE WHAT IT READS IS OF BULK AT MOST 1048576: true; the input reads as it did. -/
def fnExactActiveOfUptoRow : OpenClaim := { program := "ytdfkpnimlhcchaa", sum := "7179b61e2c5a35b8f58b3cedc8d358f278474e4ebb8bab315f418257934d7e81", func := "loop.example/g00327/laws.FnExactActiveOf", spec := "fnExactActiveOf", apart := false, narrowed := true }
def FnExactActiveOfUptoSaid : Prop := fnExactActiveOfUptoRow.holds Try.pinned (OpenSpec.upto fnExactActiveOfSpec)

/-- 'laws.FnExactCountIn', WHERE WHAT IT READS IS OF BULK AT MOST 1048576: true; the input reads as it did. -/
def fnExactCountInUptoRow : OpenClaim := { program := "ytdfkpnimlhcchaa", sum := "7179b61e2c5a35b8f58b3cedc8d358f278474e4ebb8bab315f418257934d7e81", func := "loop.example/g00327/laws.FnExactCountIn", spec := "fnExactCountIn", apart := false, narrowed := true }
def FnExactCountInUptoSaid : Prop := fnExactCountInUptoRow.holds Try.pinned (OpenSpec.upto fnExactCountInSpec)

/-- 'laws.FnExactReadArea', WHERE WHAT IT READS IS OF BULK AT MOST 1048576: true; the input reads as it did. -/
def fnExactReadAreaUptoRow : OpenClaim := { program := "ytdfkpnimlhcchaa", sum := "7179b61e2c5a35b8f58b3cedc8d358f278474e4ebb8bab315f418257934d7e81", func := "loop.example/g00327/laws.FnExactReadArea", spec := "fnExactReadArea", inPlace := ["internal/abi.NoEscape"], apart := false, narrowed := true }
def FnExactReadAreaUptoSaid : Prop := fnExactReadAreaUptoRow.holds Try.pinned (OpenSpec.upto fnExactReadAreaSpec)

/-- 'laws.FnExactLogTexts', WHERE WHAT IT READS IS OF BULK AT MOST 1048576: true; the input reads as it did. -/
def fnExactLogTextsUptoRow : OpenClaim := { program := "ytdfkpnimlhcchaa", sum := "7179b61e2c5a35b8f58b3cedc8d358f278474e4ebb8bab315f418257934d7e81", func := "loop.example/g00327/laws.FnExactLogTexts", spec := "fnExactLogTexts", inPlace := ["internal/abi.NoEscape"], apart := false, narrowed := true }
def FnExactLogTextsUptoSaid : Prop := fnExactLogTextsUptoRow.holds Try.pinned (OpenSpec.upto fnExactLogTextsSpec)

/-- 'laws.FnExactPutRecord', WHERE WHAT IT READS IS OF BULK AT MOST 1048576: true; the input reads as it did. -/
def fnExactPutRecordUptoRow : OpenClaim := { program := "ytdfkpnimlhcchaa", sum := "7179b61e2c5a35b8f58b3cedc8d358f278474e4ebb8bab315f418257934d7e81", func := "loop.example/g00327/laws.FnExactPutRecord", spec := "fnExactPutRecord", inPlace := ["internal/abi.NoEscape"], apart := false, narrowed := true }
def FnExactPutRecordUptoSaid : Prop := fnExactPutRecordUptoRow.holds Try.pinned (OpenSpec.upto fnExactPutRecordSpec)

/-- 'laws.FnExactAppendLog', WHERE WHAT IT READS IS OF BULK AT MOST 1048576: true; the input reads as it did. -/
def fnExactAppendLogUptoRow : OpenClaim := { program := "ytdfkpnimlhcchaa", sum := "7179b61e2c5a35b8f58b3cedc8d358f278474e4ebb8bab315f418257934d7e81", func := "loop.example/g00327/laws.FnExactAppendLog", spec := "fnExactAppendLog", inPlace := ["internal/abi.NoEscape"], apart := false, narrowed := true }
def FnExactAppendLogUptoSaid : Prop := fnExactAppendLogUptoRow.holds Try.pinned (OpenSpec.upto fnExactAppendLogSpec)

/-- 'laws.FnExactSwitchLog', WHERE WHAT IT READS IS OF BULK AT MOST 1048576: true; the input reads as it did. -/
def fnExactSwitchLogUptoRow : OpenClaim := { program := "ytdfkpnimlhcchaa", sum := "7179b61e2c5a35b8f58b3cedc8d358f278474e4ebb8bab315f418257934d7e81", func := "loop.example/g00327/laws.FnExactSwitchLog", spec := "fnExactSwitchLog", inPlace := ["internal/abi.NoEscape"], apart := false, narrowed := true }
def FnExactSwitchLogUptoSaid : Prop := fnExactSwitchLogUptoRow.holds Try.pinned (OpenSpec.upto fnExactSwitchLogSpec)

/-- 'laws.FnExactCrashDisk', WHERE WHAT IT READS IS OF BULK AT MOST 1048576: true; the input reads as it did. -/
def fnExactCrashDiskUptoRow : OpenClaim := { program := "ytdfkpnimlhcchaa", sum := "7179b61e2c5a35b8f58b3cedc8d358f278474e4ebb8bab315f418257934d7e81", func := "loop.example/g00327/laws.FnExactCrashDisk", spec := "fnExactCrashDisk", apart := false, narrowed := true }
def FnExactCrashDiskUptoSaid : Prop := fnExactCrashDiskUptoRow.holds Try.pinned (OpenSpec.upto fnExactCrashDiskSpec)

end Rows
end Go.Proofs.Ytdfkpnimlhcchaa

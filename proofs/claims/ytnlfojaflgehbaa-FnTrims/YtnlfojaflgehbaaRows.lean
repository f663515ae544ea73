/-
  No cell of these rows narrows 'for every input' (looked for: loops, veiled, ifaces, maps, wideKeys, modest, calm, conditions, laid).
  DERIVED. THE GIVEN ROWS OF THIS SEAT. 7 by the template 'for every input the law returns true; each argument reads behind the call as it read before'; 0 by the template 'total and deterministic' (their statements: YtnlfojaflgehbaaTotals.lean).
  GIVEN WITH THE SEED: the statements are not yours to turn. If you find one false, say at which input.
  Laid BY PROGRAM, IN A SANDBOX (cutbox-rows.mjs): the forced cells as the released guide's own fill.sh prints them over the translation 23e08cc1664ceecf… (all of the seat's roots in one cut). By AI agents, Wed Nov 11 2026. No macro, syntax, notation, axiom, sorry.
-/
import Derived.Test.YtnlfojaflgehbaaChecked
import GoSem.Claim
import GoSem.ClaimJoined
import GoSem.ClaimMapViews
import Derived.JoinedTies
import Derived.KernelRfl
namespace Go.Proofs.Ytnlfojaflgehbaa
/- THE CELL 'sum', in the pinned program and in every row, IS THE sha256 OF THE DUMP (.gsa) THAT YtnlfojaflgehbaaProg.lean LOADS. Nothing in Lean hashes anything: it is a label: what it is worth is what the hold of that sum in a sandbox is worth. -/
noncomputable def Try.pinned : Pinned := { name := "ytnlfojaflgehbaa", sum := "23e08cc1664ceecf34a41518250b00487fa363f62dcd83e8ee1ddf459640b740", checked := Try.checked }
namespace Rows
def none {H : Type} : Left H := { results := [], args := [] }

/-- 'laws.FnSeen': WHATEVER THE INPUT: true; the input reads as it did. -/
def fnSeenSpec : ChangeSpec := { name := "fnSeen", fn := fun _ => fun
  | [d] => { results := [.lit (.bool true)], args := [d] }
  | _ => none }
def fnSeenRow : OpenClaim := { program := "ytnlfojaflgehbaa", sum := "23e08cc1664ceecf34a41518250b00487fa363f62dcd83e8ee1ddf459640b740", func := "loop.example/g00327/laws.FnSeen", spec := "fnSeen", inPlace := ["internal/bytealg.abigen_runtime_cmpstring"], recurses := true, apart := false }
def FnSeenSaid : Prop := fnSeenRow.holds Try.pinned (OpenSpec.ofChange fnSeenSpec)

/-- ITS FALSE NEIGHBOUR: 'it returns false'. Refute it at one input. -/
def fnSeenWrong : ChangeSpec := { name := "fnSeen", fn := fun _ => fun
  | [d] => { results := [.lit (.bool false)], args := [d] }
  | _ => none }
def FnSeenWrongFalsely : Prop := fnSeenRow.holds Try.pinned (OpenSpec.ofChange fnSeenWrong)

/-- 'laws.FnTrims': WHATEVER THE INPUT: true; the input reads as it did. -/
def fnTrimsSpec : ChangeSpec := { name := "fnTrims", fn := fun _ => fun
  | [d] => { results := [.lit (.bool true)], args := [d] }
  | _ => none }
def fnTrimsRow : OpenClaim := { program := "ytnlfojaflgehbaa", sum := "23e08cc1664ceecf34a41518250b00487fa363f62dcd83e8ee1ddf459640b740", func := "loop.example/g00327/laws.FnTrims", spec := "fnTrims", inPlace := ["internal/bytealg.abigen_runtime_cmpstring"], unfollowed := true, recurses := true, apart := false }
def FnTrimsSaid : Prop := fnTrimsRow.holds Try.pinned (OpenSpec.ofChange fnTrimsSpec)

/-- ITS FALSE NEIGHBOUR: 'it returns false'. Refute it at one input. -/
def fnTrimsWrong : ChangeSpec := { name := "fnTrims", fn := fun _ => fun
  | [d] => { results := [.lit (.bool false)], args := [d] }
  | _ => none }
def FnTrimsWrongFalsely : Prop := fnTrimsRow.holds Try.pinned (OpenSpec.ofChange fnTrimsWrong)

/-- 'laws.FnExactVersionsOk': WHATEVER THE INPUT: true; the input reads as it did. -/
def fnExactVersionsOkSpec : ChangeSpec := { name := "fnExactVersionsOk", fn := fun _ => fun
  | [d] => { results := [.lit (.bool true)], args := [d] }
  | _ => none }
def fnExactVersionsOkRow : OpenClaim := { program := "ytnlfojaflgehbaa", sum := "23e08cc1664ceecf34a41518250b00487fa363f62dcd83e8ee1ddf459640b740", func := "loop.example/g00327/laws.FnExactVersionsOk", spec := "fnExactVersionsOk", inPlace := ["internal/bytealg.abigen_runtime_cmpstring"], apart := false }
def FnExactVersionsOkSaid : Prop := fnExactVersionsOkRow.holds Try.pinned (OpenSpec.ofChange fnExactVersionsOkSpec)

/-- ITS FALSE NEIGHBOUR: 'it returns false'. Refute it at one input. -/
def fnExactVersionsOkWrong : ChangeSpec := { name := "fnExactVersionsOk", fn := fun _ => fun
  | [d] => { results := [.lit (.bool false)], args := [d] }
  | _ => none }
def FnExactVersionsOkWrongFalsely : Prop := fnExactVersionsOkRow.holds Try.pinned (OpenSpec.ofChange fnExactVersionsOkWrong)

/-- 'laws.FnExactSeenAt': WHATEVER THE INPUT: true; the input reads as it did. -/
def fnExactSeenAtSpec : ChangeSpec := { name := "fnExactSeenAt", fn := fun _ => fun
  | [d1, d2, d3] => { results := [.lit (.bool true)], args := [d1, d2, d3] }
  | _ => none }
def fnExactSeenAtRow : OpenClaim := { program := "ytnlfojaflgehbaa", sum := "23e08cc1664ceecf34a41518250b00487fa363f62dcd83e8ee1ddf459640b740", func := "loop.example/g00327/laws.FnExactSeenAt", spec := "fnExactSeenAt", apart := false }
def FnExactSeenAtSaid : Prop := fnExactSeenAtRow.holds Try.pinned (OpenSpec.ofChange fnExactSeenAtSpec)

/-- ITS FALSE NEIGHBOUR: 'it returns false'. Refute it at one input. -/
def fnExactSeenAtWrong : ChangeSpec := { name := "fnExactSeenAt", fn := fun _ => fun
  | [d1, d2, d3] => { results := [.lit (.bool false)], args := [d1, d2, d3] }
  | _ => none }
def FnExactSeenAtWrongFalsely : Prop := fnExactSeenAtRow.holds Try.pinned (OpenSpec.ofChange fnExactSeenAtWrong)

/-- 'laws.FnExactScanAt': WHATEVER THE INPUT: true; the input reads as it did. -/
def fnExactScanAtSpec : ChangeSpec := { name := "fnExactScanAt", fn := fun _ => fun
  | [d1, d2, d3] => { results := [.lit (.bool true)], args := [d1, d2, d3] }
  | _ => none }
def fnExactScanAtRow : OpenClaim := { program := "ytnlfojaflgehbaa", sum := "23e08cc1664ceecf34a41518250b00487fa363f62dcd83e8ee1ddf459640b740", func := "loop.example/g00327/laws.FnExactScanAt", spec := "fnExactScanAt", recurses := true, apart := false }
def FnExactScanAtSaid : Prop := fnExactScanAtRow.holds Try.pinned (OpenSpec.ofChange fnExactScanAtSpec)

/-- ITS FALSE NEIGHBOUR: 'it returns false'. Refute it at one input. -/
def fnExactScanAtWrong : ChangeSpec := { name := "fnExactScanAt", fn := fun _ => fun
  | [d1, d2, d3] => { results := [.lit (.bool false)], args := [d1, d2, d3] }
  | _ => none }
def FnExactScanAtWrongFalsely : Prop := fnExactScanAtRow.holds Try.pinned (OpenSpec.ofChange fnExactScanAtWrong)

/-- 'laws.FnExactTrimmed': WHATEVER THE INPUT: true; the input reads as it did. -/
def fnExactTrimmedSpec : ChangeSpec := { name := "fnExactTrimmed", fn := fun _ => fun
  | [d1, d2] => { results := [.lit (.bool true)], args := [d1, d2] }
  | _ => none }
def fnExactTrimmedRow : OpenClaim := { program := "ytnlfojaflgehbaa", sum := "23e08cc1664ceecf34a41518250b00487fa363f62dcd83e8ee1ddf459640b740", func := "loop.example/g00327/laws.FnExactTrimmed", spec := "fnExactTrimmed", unfollowed := true, recurses := true, apart := false }
def FnExactTrimmedSaid : Prop := fnExactTrimmedRow.holds Try.pinned (OpenSpec.ofChange fnExactTrimmedSpec)

/-- ITS FALSE NEIGHBOUR: 'it returns false'. Refute it at one input. -/
def fnExactTrimmedWrong : ChangeSpec := { name := "fnExactTrimmed", fn := fun _ => fun
  | [d1, d2] => { results := [.lit (.bool false)], args := [d1, d2] }
  | _ => none }
def FnExactTrimmedWrongFalsely : Prop := fnExactTrimmedRow.holds Try.pinned (OpenSpec.ofChange fnExactTrimmedWrong)

/-- 'laws.FnExactSameFrom': WHATEVER THE INPUT: true; the input reads as it did. -/
def fnExactSameFromSpec : ChangeSpec := { name := "fnExactSameFrom", fn := fun _ => fun
  | [d1, d2, d3] => { results := [.lit (.bool true)], args := [d1, d2, d3] }
  | _ => none }
def fnExactSameFromRow : OpenClaim := { program := "ytnlfojaflgehbaa", sum := "23e08cc1664ceecf34a41518250b00487fa363f62dcd83e8ee1ddf459640b740", func := "loop.example/g00327/laws.FnExactSameFrom", spec := "fnExactSameFrom", recurses := true, apart := false }
def FnExactSameFromSaid : Prop := fnExactSameFromRow.holds Try.pinned (OpenSpec.ofChange fnExactSameFromSpec)

/-- ITS FALSE NEIGHBOUR: 'it returns false'. Refute it at one input. -/
def fnExactSameFromWrong : ChangeSpec := { name := "fnExactSameFrom", fn := fun _ => fun
  | [d1, d2, d3] => { results := [.lit (.bool false)], args := [d1, d2, d3] }
  | _ => none }
def FnExactSameFromWrongFalsely : Prop := fnExactSameFromRow.holds Try.pinned (OpenSpec.ofChange fnExactSameFromWrong)

/- THE SECOND FORM. 'bulk': how many values and letters a reading holds, each counted each time it is reached (what is shared counts as often as it is met; a slice's spare places count too). A statement '..UptoSaid' is the law's where the arguments, and the package variables that the reading takes, are together of bulk at most 1048576: NARROWER than '..Said'. Prove '..Said' where nothing that the law and all that it calls make is longer than what came in: it says more and counts as full. Else prove '..UptoSaid'. A law counts once. -/
mutual
def uptoBulk {H : Type} : DataW H → Nat
  | .lit (.string bytes) => bytes.length + 1
  | .lit _ => 1
  | .nil => 1
  | .ptr d => uptoBulk d + 1
  | .slice elems spare => uptoBulkAll elems + uptoBulkAll spare + 1
  | .agg parts => uptoBulkAll parts + 1
  | .iface _ d => uptoBulk d + 1
  | .map entries => uptoBulkEntries entries + 1
  | .held _ => 1
def uptoBulkAll {H : Type} : List (DataW H) → Nat
  | [] => 0
  | d :: r => uptoBulk d + uptoBulkAll r
def uptoBulkEntries {H : Type} : List (Lit × DataW H) → Nat
  | [] => 0
  | x :: r => uptoBulkEntry x + uptoBulkEntries r
def uptoBulkEntry {H : Type} : Lit × DataW H → Nat
  | (.string bytes, d) => bytes.length + uptoBulk d + 1
  | (_, d) => uptoBulk d + 1
 end
def uptoSmall : (H : Type) → List (DataW H) → Bool := fun _ ds => decide (uptoBulkAll ds ≤ 1048576)
def OpenSpec.upto (s : _root_.Go.ChangeSpec) : _root_.Go.OpenSpec := { _root_.Go.OpenSpec.ofChange s with cond := some uptoSmall }

/-- 'laws.FnSeen', WHERE WHAT IT READS IS OF BULK AT MOST 1048576: true; the input reads as it did. -/
def fnSeenUptoRow : OpenClaim := { program := "ytnlfojaflgehbaa", sum := "23e08cc1664ceecf34a41518250b00487fa363f62dcd83e8ee1ddf459640b740", func := "loop.example/g00327/laws.FnSeen", spec := "fnSeen", inPlace := ["internal/bytealg.abigen_runtime_cmpstring"], recurses := true, apart := false, narrowed := true }
def FnSeenUptoSaid : Prop := fnSeenUptoRow.holds Try.pinned (OpenSpec.upto fnSeenSpec)

/-- 'laws.FnTrims', WHERE WHAT IT READS IS OF BULK AT MOST 1048576: true; the input reads as it did. -/
def fnTrimsUptoRow : OpenClaim := { program := "ytnlfojaflgehbaa", sum := "23e08cc1664ceecf34a41518250b00487fa363f62dcd83e8ee1ddf459640b740", func := "loop.example/g00327/laws.FnTrims", spec := "fnTrims", inPlace := ["internal/bytealg.abigen_runtime_cmpstring"], unfollowed := true, recurses := true, apart := false, narrowed := true }
def FnTrimsUptoSaid : Prop := fnTrimsUptoRow.holds Try.pinned (OpenSpec.upto fnTrimsSpec)

/-- 'laws.FnExactVersionsOk', WHERE WHAT IT READS IS OF BULK AT MOST 1048576: true; the input reads as it did. -/
def fnExactVersionsOkUptoRow : OpenClaim := { program := "ytnlfojaflgehbaa", sum := "23e08cc1664ceecf34a41518250b00487fa363f62dcd83e8ee1ddf459640b740", func := "loop.example/g00327/laws.FnExactVersionsOk", spec := "fnExactVersionsOk", inPlace := ["internal/bytealg.abigen_runtime_cmpstring"], apart := false, narrowed := true }
def FnExactVersionsOkUptoSaid : Prop := fnExactVersionsOkUptoRow.holds Try.pinned (OpenSpec.upto fnExactVersionsOkSpec)

/-- 'laws.FnExactSeenAt', WHERE WHAT IT READS IS OF BULK AT MOST 1048576: true; the input reads as it did. -/
def fnExactSeenAtUptoRow : OpenClaim := { program := "ytnlfojaflgehbaa", sum := "23e08cc1664ceecf34a41518250b00487fa363f62dcd83e8ee1ddf459640b740", func := "loop.example/g00327/laws.FnExactSeenAt", spec := "fnExactSeenAt", apart := false, narrowed := true }
def FnExactSeenAtUptoSaid : Prop := fnExactSeenAtUptoRow.holds Try.pinned (OpenSpec.upto fnExactSeenAtSpec)

/-- 'laws.FnExactScanAt', WHERE WHAT IT READS IS OF BULK AT MOST 1048576: true; the input reads as it did. -/
def fnExactScanAtUptoRow : OpenClaim := { program := "ytnlfojaflgehbaa", sum := "23e08cc1664ceecf34a41518250b00487fa363f62dcd83e8ee1ddf459640b740", func := "loop.example/g00327/laws.FnExactScanAt", spec := "fnExactScanAt", recurses := true, apart := false, narrowed := true }
def FnExactScanAtUptoSaid : Prop := fnExactScanAtUptoRow.holds Try.pinned (OpenSpec.upto fnExactScanAtSpec)

/-- 'laws.FnExactTrimmed', WHERE WHAT IT READS IS OF BULK AT MOST 1048576: true; the input reads as it did. -/
def fnExactTrimmedUptoRow : OpenClaim := { program := "ytnlfojaflgehbaa", sum := "23e08cc1664ceecf34a41518250b00487fa363f62dcd83e8ee1ddf459640b740", func := "loop.example/g00327/laws.FnExactTrimmed", spec := "fnExactTrimmed", unfollowed := true, recurses := true, apart := false, narrowed := true }
def FnExactTrimmedUptoSaid : Prop := fnExactTrimmedUptoRow.holds Try.pinned (OpenSpec.upto fnExactTrimmedSpec)

/-- 'laws.FnExactSameFrom', WHERE WHAT IT READS IS OF BULK AT MOST 1048576: true; the input reads as it did. -/
def fnExactSameFromUptoRow : OpenClaim := { program := "ytnlfojaflgehbaa", sum := "23e08cc1664ceecf34a41518250b00487fa363f62dcd83e8ee1ddf459640b740", func := "loop.example/g00327/laws.FnExactSameFrom", spec := "fnExactSameFrom", recurses := true, apart := false, narrowed := true }
def FnExactSameFromUptoSaid : Prop := fnExactSameFromUptoRow.holds Try.pinned (OpenSpec.upto fnExactSameFromSpec)

end Rows
end Go.Proofs.Ytnlfojaflgehbaa

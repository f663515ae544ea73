/-
  No cell of these rows narrows 'for every input' (looked for: loops, veiled, ifaces, maps, wideKeys, modest, calm, conditions, laid).
  DERIVED. THE GIVEN ROWS OF THIS SEAT. 8 by the template 'for every input the law returns true; each argument reads behind the call as it read before'; 0 by the template 'total and deterministic' (their statements: YtblfljmcbpodbaaTotals.lean).
  GIVEN WITH THE SEED: the statements are not yours to turn. If you find one false, say at which input.
  Laid BY PROGRAM, IN A SANDBOX (cutbox-rows.mjs): the forced cells as the released guide's own fill.sh prints them over the translation 54c69c8c171c4e2f… (all of the seat's roots in one cut). By AI agents, Wed Nov 11 2026. No macro, syntax, notation, axiom, sorry.
-/
import Derived.Test.YtblfljmcbpodbaaChecked
import GoSem.Claim
import GoSem.ClaimJoined
import GoSem.ClaimMapViews
import Derived.JoinedTies
import Derived.KernelRfl
namespace Go.Proofs.Ytblfljmcbpodbaa
/- THE CELL 'sum', in the pinned program and in every row, IS THE sha256 OF THE DUMP (.gsa) THAT YtblfljmcbpodbaaProg.lean LOADS. Nothing in Lean hashes anything: it is a label: what it is worth is what the hold of that sum in a sandbox is worth. -/
noncomputable def Try.pinned : Pinned := { name := "ytblfljmcbpodbaa", sum := "54c69c8c171c4e2f897b15eabc5afe7fc68e1afb2af00c817d9ae9c209322307", checked := Try.checked }
namespace Rows
def none {H : Type} : Left H := { results := [], args := [] }

/-- 'laws.FnOwn': WHATEVER THE INPUT: true; the input reads as it did. -/
def fnOwnSpec : ChangeSpec := { name := "fnOwn", fn := fun _ => fun
  | [d] => { results := [.lit (.bool true)], args := [d] }
  | _ => none }
def fnOwnRow : OpenClaim := { program := "ytblfljmcbpodbaa", sum := "54c69c8c171c4e2f897b15eabc5afe7fc68e1afb2af00c817d9ae9c209322307", func := "loop.example/g00327/laws.FnOwn", spec := "fnOwn", unfollowed := true, recurses := true, apart := false }
def FnOwnSaid : Prop := fnOwnRow.holds Try.pinned (OpenSpec.ofChange fnOwnSpec)

/-- ITS FALSE NEIGHBOUR: 'it returns false'. Refute it at one input. -/
def fnOwnWrong : ChangeSpec := { name := "fnOwn", fn := fun _ => fun
  | [d] => { results := [.lit (.bool false)], args := [d] }
  | _ => none }
def FnOwnWrongFalsely : Prop := fnOwnRow.holds Try.pinned (OpenSpec.ofChange fnOwnWrong)

/-- 'laws.FnExactTxnOk': WHATEVER THE INPUT: true; the input reads as it did. -/
def fnExactTxnOkSpec : ChangeSpec := { name := "fnExactTxnOk", fn := fun _ => fun
  | [d] => { results := [.lit (.bool true)], args := [d] }
  | _ => none }
def fnExactTxnOkRow : OpenClaim := { program := "ytblfljmcbpodbaa", sum := "54c69c8c171c4e2f897b15eabc5afe7fc68e1afb2af00c817d9ae9c209322307", func := "loop.example/g00327/laws.FnExactTxnOk", spec := "fnExactTxnOk", apart := false }
def FnExactTxnOkSaid : Prop := fnExactTxnOkRow.holds Try.pinned (OpenSpec.ofChange fnExactTxnOkSpec)

/-- ITS FALSE NEIGHBOUR: 'it returns false'. Refute it at one input. -/
def fnExactTxnOkWrong : ChangeSpec := { name := "fnExactTxnOk", fn := fun _ => fun
  | [d] => { results := [.lit (.bool false)], args := [d] }
  | _ => none }
def FnExactTxnOkWrongFalsely : Prop := fnExactTxnOkRow.holds Try.pinned (OpenSpec.ofChange fnExactTxnOkWrong)

/-- 'laws.FnExactReadRange': WHATEVER THE INPUT: true; the input reads as it did. -/
def fnExactReadRangeSpec : ChangeSpec := { name := "fnExactReadRange", fn := fun _ => fun
  | [d1, d2] => { results := [.lit (.bool true)], args := [d1, d2] }
  | _ => none }
def fnExactReadRangeRow : OpenClaim := { program := "ytblfljmcbpodbaa", sum := "54c69c8c171c4e2f897b15eabc5afe7fc68e1afb2af00c817d9ae9c209322307", func := "loop.example/g00327/laws.FnExactReadRange", spec := "fnExactReadRange", apart := false }
def FnExactReadRangeSaid : Prop := fnExactReadRangeRow.holds Try.pinned (OpenSpec.ofChange fnExactReadRangeSpec)

/-- ITS FALSE NEIGHBOUR: 'it returns false'. Refute it at one input. -/
def fnExactReadRangeWrong : ChangeSpec := { name := "fnExactReadRange", fn := fun _ => fun
  | [d1, d2] => { results := [.lit (.bool false)], args := [d1, d2] }
  | _ => none }
def FnExactReadRangeWrongFalsely : Prop := fnExactReadRangeRow.holds Try.pinned (OpenSpec.ofChange fnExactReadRangeWrong)

/-- 'laws.FnExactWriteKey': WHATEVER THE INPUT: true; the input reads as it did. -/
def fnExactWriteKeySpec : ChangeSpec := { name := "fnExactWriteKey", fn := fun _ => fun
  | [d1, d2] => { results := [.lit (.bool true)], args := [d1, d2] }
  | _ => none }
def fnExactWriteKeyRow : OpenClaim := { program := "ytblfljmcbpodbaa", sum := "54c69c8c171c4e2f897b15eabc5afe7fc68e1afb2af00c817d9ae9c209322307", func := "loop.example/g00327/laws.FnExactWriteKey", spec := "fnExactWriteKey", inPlace := ["slices.overlaps[loop.example/g00327/impl.Write]"], apart := false }
def FnExactWriteKeySaid : Prop := fnExactWriteKeyRow.holds Try.pinned (OpenSpec.ofChange fnExactWriteKeySpec)

/-- ITS FALSE NEIGHBOUR: 'it returns false'. Refute it at one input. -/
def fnExactWriteKeyWrong : ChangeSpec := { name := "fnExactWriteKey", fn := fun _ => fun
  | [d1, d2] => { results := [.lit (.bool false)], args := [d1, d2] }
  | _ => none }
def FnExactWriteKeyWrongFalsely : Prop := fnExactWriteKeyRow.holds Try.pinned (OpenSpec.ofChange fnExactWriteKeyWrong)

/-- 'laws.FnExactOwnGet': WHATEVER THE INPUT: true; the input reads as it did. -/
def fnExactOwnGetSpec : ChangeSpec := { name := "fnExactOwnGet", fn := fun _ => fun
  | [d1, d2, d3] => { results := [.lit (.bool true)], args := [d1, d2, d3] }
  | _ => none }
def fnExactOwnGetRow : OpenClaim := { program := "ytblfljmcbpodbaa", sum := "54c69c8c171c4e2f897b15eabc5afe7fc68e1afb2af00c817d9ae9c209322307", func := "loop.example/g00327/laws.FnExactOwnGet", spec := "fnExactOwnGet", unfollowed := true, recurses := true, apart := false }
def FnExactOwnGetSaid : Prop := fnExactOwnGetRow.holds Try.pinned (OpenSpec.ofChange fnExactOwnGetSpec)

/-- ITS FALSE NEIGHBOUR: 'it returns false'. Refute it at one input. -/
def fnExactOwnGetWrong : ChangeSpec := { name := "fnExactOwnGet", fn := fun _ => fun
  | [d1, d2, d3] => { results := [.lit (.bool false)], args := [d1, d2, d3] }
  | _ => none }
def FnExactOwnGetWrongFalsely : Prop := fnExactOwnGetRow.holds Try.pinned (OpenSpec.ofChange fnExactOwnGetWrong)

/-- 'laws.FnExactOwnScan': WHATEVER THE INPUT: true; the input reads as it did. -/
def fnExactOwnScanSpec : ChangeSpec := { name := "fnExactOwnScan", fn := fun _ => fun
  | [d1, d2, d3] => { results := [.lit (.bool true)], args := [d1, d2, d3] }
  | _ => none }
def fnExactOwnScanRow : OpenClaim := { program := "ytblfljmcbpodbaa", sum := "54c69c8c171c4e2f897b15eabc5afe7fc68e1afb2af00c817d9ae9c209322307", func := "loop.example/g00327/laws.FnExactOwnScan", spec := "fnExactOwnScan", unfollowed := true, recurses := true, apart := false }
def FnExactOwnScanSaid : Prop := fnExactOwnScanRow.holds Try.pinned (OpenSpec.ofChange fnExactOwnScanSpec)

/-- ITS FALSE NEIGHBOUR: 'it returns false'. Refute it at one input. -/
def fnExactOwnScanWrong : ChangeSpec := { name := "fnExactOwnScan", fn := fun _ => fun
  | [d1, d2, d3] => { results := [.lit (.bool false)], args := [d1, d2, d3] }
  | _ => none }
def FnExactOwnScanWrongFalsely : Prop := fnExactOwnScanRow.holds Try.pinned (OpenSpec.ofChange fnExactOwnScanWrong)

/-- 'laws.FnExactTxnText': WHATEVER THE INPUT: true; the input reads as it did. -/
def fnExactTxnTextSpec : ChangeSpec := { name := "fnExactTxnText", fn := fun _ => fun
  | [d] => { results := [.lit (.bool true)], args := [d] }
  | _ => none }
def fnExactTxnTextRow : OpenClaim := { program := "ytblfljmcbpodbaa", sum := "54c69c8c171c4e2f897b15eabc5afe7fc68e1afb2af00c817d9ae9c209322307", func := "loop.example/g00327/laws.FnExactTxnText", spec := "fnExactTxnText", inPlace := ["internal/abi.NoEscape"], apart := false }
def FnExactTxnTextSaid : Prop := fnExactTxnTextRow.holds Try.pinned (OpenSpec.ofChange fnExactTxnTextSpec)

/-- ITS FALSE NEIGHBOUR: 'it returns false'. Refute it at one input. -/
def fnExactTxnTextWrong : ChangeSpec := { name := "fnExactTxnText", fn := fun _ => fun
  | [d] => { results := [.lit (.bool false)], args := [d] }
  | _ => none }
def FnExactTxnTextWrongFalsely : Prop := fnExactTxnTextRow.holds Try.pinned (OpenSpec.ofChange fnExactTxnTextWrong)

/-- 'laws.FnExactReadTxn': WHATEVER THE INPUT: true; the input reads as it did. -/
def fnExactReadTxnSpec : ChangeSpec := { name := "fnExactReadTxn", fn := fun _ => fun
  | [d1, d2] => { results := [.lit (.bool true)], args := [d1, d2] }
  | _ => none }
def fnExactReadTxnRow : OpenClaim := { program := "ytblfljmcbpodbaa", sum := "54c69c8c171c4e2f897b15eabc5afe7fc68e1afb2af00c817d9ae9c209322307", func := "loop.example/g00327/laws.FnExactReadTxn", spec := "fnExactReadTxn", unfollowed := true, recurses := true, apart := false }
def FnExactReadTxnSaid : Prop := fnExactReadTxnRow.holds Try.pinned (OpenSpec.ofChange fnExactReadTxnSpec)

/-- ITS FALSE NEIGHBOUR: 'it returns false'. Refute it at one input. -/
def fnExactReadTxnWrong : ChangeSpec := { name := "fnExactReadTxn", fn := fun _ => fun
  | [d1, d2] => { results := [.lit (.bool false)], args := [d1, d2] }
  | _ => none }
def FnExactReadTxnWrongFalsely : Prop := fnExactReadTxnRow.holds Try.pinned (OpenSpec.ofChange fnExactReadTxnWrong)

/- THE SECOND FORM. 'bulk': how many values and letters a reading holds, each counted each time it is reached (what is shared counts as often as it is met; a slice's spare places count too). A statement '..UptoSaid' is the law's where the arguments, and the package variables that the reading takes, are together of bulk at most 1048576: NARROWER than '..Said'. Prove '..Said' where nothing that the law and all that it calls make is longer than what came in: it says more and counts as full. Else prove '..UptoSaid'. A law counts once. -/
mutual
def uptoBulk {H : Type} : DataW H → Nat
  | .lit (.string bytes) => bytes.length + 1
  | .lit _ => 1
  | .nil => 1
  | .ptr d => uptoBulk d + 1
  | .slice elems spare => uptoBulkAll elems + uptoBulkAll spare + 1
  | .agg parts => uptoBulkAll parts + 1
  | .iface _ d => uptoBulk d + 1
  | .map entries => uptoBulkEntries entries + 1
  | .held _ => 1
def uptoBulkAll {H : Type} : List (DataW H) → Nat
  | [] => 0
  | d :: r => uptoBulk d + uptoBulkAll r
def uptoBulkEntries {H : Type} : List (Lit × DataW H) → Nat
  | [] => 0
  | x :: r => uptoBulkEntry x + uptoBulkEntries r
def uptoBulkEntry {H : Type} : Lit × DataW H → Nat
  | (.string bytes, d) => bytes.length + uptoBulk d + 1
  | (_, d) => uptoBulk d + 1
 end
def uptoSmall : (H : Type) → List (DataW H) → Bool := fun _ ds => decide (uptoBulkAll ds ≤ 1048576)
def OpenSpec.upto (s : _root_.Go.ChangeSpec) : _root_.Go.OpenSpec := { _root_.Go.OpenSpec.ofChange s with cond := some uptoSmall }

/-- 'laws.FnOwn', WHERE WHAT IT READS IS OF BULK AT MOST 1048576: true; the input reads as it did. -/
def fnOwnUptoRow : OpenClaim := { program := "ytblfljmcbpodbaa", sum := "54c69c8c171c4e2f897b15eabc5afe7fc68e1afb2af00c817d9ae9c209322307", func := "loop.example/g00327/laws.FnOwn", spec := "fnOwn", unfollowed := true, recurses := true, apart := false, narrowed := true }
def FnOwnUptoSaid : Prop := fnOwnUptoRow.holds Try.pinned (OpenSpec.upto fnOwnSpec)

/-- 'laws.FnExactTxnOk', WHERE WHAT IT READS IS OF BULK AT MOST 1048576: true; the input reads as it did. -/
def fnExactTxnOkUptoRow : OpenClaim := { program := "ytblfljmcbpodbaa", sum := "54c69c8c171c4e2f897b15eabc5afe7fc68e1afb2af00c817d9ae9c209322307", func := "loop.example/g00327/laws.FnExactTxnOk", spec := "fnExactTxnOk", apart := false, narrowed := true }
def FnExactTxnOkUptoSaid : Prop := fnExactTxnOkUptoRow.holds Try.pinned (OpenSpec.upto fnExactTxnOkSpec)

/-- 'laws.FnExactReadRange', WHERE WHAT IT READS IS OF BULK AT MOST 1048576: true; the input reads as it did. -/
def fnExactReadRangeUptoRow : OpenClaim := { program := "ytblfljmcbpodbaa", sum := "54c69c8c171c4e2f897b15eabc5afe7fc68e1afb2af00c817d9ae9c209322307", func := "loop.example/g00327/laws.FnExactReadRange", spec := "fnExactReadRange", apart := false, narrowed := true }
def FnExactReadRangeUptoSaid : Prop := fnExactReadRangeUptoRow.holds Try.pinned (OpenSpec.upto fnExactReadRangeSpec)

/-- 'laws.FnExactWriteKey', WHERE WHAT IT READS IS OF BULK AT MOST 1048576: true; the input reads as it did. -/
def fnExactWriteKeyUptoRow : OpenClaim := { program := "ytblfljmcbpodbaa", sum := "54c69c8c171c4e2f897b15eabc5afe7fc68e1afb2af00c817d9ae9c209322307", func := "loop.example/g00327/laws.FnExactWriteKey", spec := "fnExactWriteKey", inPlace := ["slices.overlaps[loop.example/g00327/impl.Write]"], apart := false, narrowed := true }
def FnExactWriteKeyUptoSaid : Prop := fnExactWriteKeyUptoRow.holds Try.pinned (OpenSpec.upto fnExactWriteKeySpec)

/-- 'laws.FnExactOwnGet', WHERE WHAT IT READS IS OF BULK AT MOST 1048576: true; the input reads as it did. -/
def fnExactOwnGetUptoRow : OpenClaim := { program := "ytblfljmcbpodbaa", sum := "54c69c8c171c4e2f897b15eabc5afe7fc68e1afb2af00c817d9ae9c209322307", func := "loop.example/g00327/laws.FnExactOwnGet", spec := "fnExactOwnGet", unfollowed := true, recurses := true, apart := false, narrowed := true }
def FnExactOwnGetUptoSaid : Prop := fnExactOwnGetUptoRow.holds Try.pinned (OpenSpec.upto fnExactOwnGetSpec)

/-- 'laws.FnExactOwnScan', WHERE WHAT IT READS IS OF BULK AT MOST 1048576: true; the input reads as it did. -/
def fnExactOwnScanUptoRow : OpenClaim := { program := "ytblfljmcbpodbaa", sum := "54c69c8c171c4e2f897b15eabc5afe7fc68e1afb2af00c817d9ae9c209322307", func := "loop.example/g00327/laws.FnExactOwnScan", spec := "fnExactOwnScan", unfollowed := true, recurses := true, apart := false, narrowed := true }
def FnExactOwnScanUptoSaid : Prop := fnExactOwnScanUptoRow.holds Try.pinned (OpenSpec.upto fnExactOwnScanSpec)

/-- 'laws.FnExactTxnText', WHERE WHAT IT READS IS OF BULK AT MOST 1048576: true; the input reads as it did. -/
def fnExactTxnTextUptoRow : OpenClaim := { program := "ytblfljmcbpodbaa", sum := "54c69c8c171c4e2f897b15eabc5afe7fc68e1afb2af00c817d9ae9c209322307", func := "loop.example/g00327/laws.FnExactTxnText", spec := "fnExactTxnText", inPlace := ["internal/abi.NoEscape"], apart := false, narrowed := true }
def FnExactTxnTextUptoSaid : Prop := fnExactTxnTextUptoRow.holds Try.pinned (OpenSpec.upto fnExactTxnTextSpec)

/-- 'laws.FnExactReadTxn', WHERE WHAT IT READS IS OF BULK AT MOST 1048576: true; the input reads as it did. -/
def fnExactReadTxnUptoRow : OpenClaim := { program := "ytblfljmcbpodbaa", sum := "54c69c8c171c4e2f897b15eabc5afe7fc68e1afb2af00c817d9ae9c209322307", func := "loop.example/g00327/laws.FnExactReadTxn", spec := "fnExactReadTxn", unfollowed := true, recurses := true, apart := false, narrowed := true }
def FnExactReadTxnUptoSaid : Prop := fnExactReadTxnUptoRow.holds Try.pinned (OpenSpec.upto fnExactReadTxnSpec)

end Rows
end Go.Proofs.Ytblfljmcbpodbaa

/-
  No cell of these rows narrows 'for every input' (looked for: loops, veiled, ifaces, maps, wideKeys, modest, calm, conditions, laid).
  DERIVED. THE GIVEN ROWS OF THIS SEAT. 8 by the template 'for every input the law returns true; each argument reads behind the call as it read before'; 0 by the template 'total and deterministic' (their statements: YthhplblohhkjbaaTotals.lean).
  GIVEN WITH THE SEED: the statements are not yours to turn. If you find one false, say at which input.
  Laid BY PROGRAM, IN A SANDBOX (cutbox-rows.mjs): the forced cells as the released guide's own fill.sh prints them over the translation b99ad9f5aaf0bb59… (all of the seat's roots in one cut). By AI agents, Wed Nov 11 2026. No macro, syntax, notation, axiom, sorry.
-/
import Derived.Test.YthhplblohhkjbaaChecked
import GoSem.Claim
import GoSem.ClaimJoined
import GoSem.ClaimMapViews
import Derived.JoinedTies
import Derived.KernelRfl
namespace Go.Proofs.Ythhplblohhkjbaa
/- THE CELL 'sum', in the pinned program and in every row, IS THE sha256 OF THE DUMP (.gsa) THAT YthhplblohhkjbaaProg.lean LOADS. Nothing in Lean hashes anything: it is a label: what it is worth is what the hold of that sum in a sandbox is worth. -/
noncomputable def Try.pinned : Pinned := { name := "ythhplblohhkjbaa", sum := "b99ad9f5aaf0bb5906c53377a29ffbb9b07dfcdf9cba0c12e0150b3511f48be9", checked := Try.checked }
namespace Rows
def none {H : Type} : Left H := { results := [], args := [] }

/-- 'laws.FnEdges': WHATEVER THE INPUT: true; the input reads as it did. -/
def fnEdgesSpec : ChangeSpec := { name := "fnEdges", fn := fun _ => fun
  | [d] => { results := [.lit (.bool true)], args := [d] }
  | _ => none }
def fnEdgesRow : OpenClaim := { program := "ythhplblohhkjbaa", sum := "b99ad9f5aaf0bb5906c53377a29ffbb9b07dfcdf9cba0c12e0150b3511f48be9", func := "loop.example/g00327/laws.FnEdges", spec := "fnEdges", apart := false }
def FnEdgesSaid : Prop := fnEdgesRow.holds Try.pinned (OpenSpec.ofChange fnEdgesSpec)

/-- ITS FALSE NEIGHBOUR: 'it returns false'. Refute it at one input. -/
def fnEdgesWrong : ChangeSpec := { name := "fnEdges", fn := fun _ => fun
  | [d] => { results := [.lit (.bool false)], args := [d] }
  | _ => none }
def FnEdgesWrongFalsely : Prop := fnEdgesRow.holds Try.pinned (OpenSpec.ofChange fnEdgesWrong)

/-- 'laws.FnDangers': WHATEVER THE INPUT: true; the input reads as it did. -/
def fnDangersSpec : ChangeSpec := { name := "fnDangers", fn := fun _ => fun
  | [d] => { results := [.lit (.bool true)], args := [d] }
  | _ => none }
def fnDangersRow : OpenClaim := { program := "ythhplblohhkjbaa", sum := "b99ad9f5aaf0bb5906c53377a29ffbb9b07dfcdf9cba0c12e0150b3511f48be9", func := "loop.example/g00327/laws.FnDangers", spec := "fnDangers", unfollowed := true, recurses := true, apart := false }
def FnDangersSaid : Prop := fnDangersRow.holds Try.pinned (OpenSpec.ofChange fnDangersSpec)

/-- ITS FALSE NEIGHBOUR: 'it returns false'. Refute it at one input. -/
def fnDangersWrong : ChangeSpec := { name := "fnDangers", fn := fun _ => fun
  | [d] => { results := [.lit (.bool false)], args := [d] }
  | _ => none }
def FnDangersWrongFalsely : Prop := fnDangersRow.holds Try.pinned (OpenSpec.ofChange fnDangersWrong)

/-- 'laws.FnExactBeside': WHATEVER THE INPUT: true; the input reads as it did. -/
def fnExactBesideSpec : ChangeSpec := { name := "fnExactBeside", fn := fun _ => fun
  | [d1, d2] => { results := [.lit (.bool true)], args := [d1, d2] }
  | _ => none }
def fnExactBesideRow : OpenClaim := { program := "ythhplblohhkjbaa", sum := "b99ad9f5aaf0bb5906c53377a29ffbb9b07dfcdf9cba0c12e0150b3511f48be9", func := "loop.example/g00327/laws.FnExactBeside", spec := "fnExactBeside", apart := false }
def FnExactBesideSaid : Prop := fnExactBesideRow.holds Try.pinned (OpenSpec.ofChange fnExactBesideSpec)

/-- ITS FALSE NEIGHBOUR: 'it returns false'. Refute it at one input. -/
def fnExactBesideWrong : ChangeSpec := { name := "fnExactBeside", fn := fun _ => fun
  | [d1, d2] => { results := [.lit (.bool false)], args := [d1, d2] }
  | _ => none }
def FnExactBesideWrongFalsely : Prop := fnExactBesideRow.holds Try.pinned (OpenSpec.ofChange fnExactBesideWrong)

/-- 'laws.FnExactAhead': WHATEVER THE INPUT: true; the input reads as it did. -/
def fnExactAheadSpec : ChangeSpec := { name := "fnExactAhead", fn := fun _ => fun
  | [d1, d2] => { results := [.lit (.bool true)], args := [d1, d2] }
  | _ => none }
def fnExactAheadRow : OpenClaim := { program := "ythhplblohhkjbaa", sum := "b99ad9f5aaf0bb5906c53377a29ffbb9b07dfcdf9cba0c12e0150b3511f48be9", func := "loop.example/g00327/laws.FnExactAhead", spec := "fnExactAhead", apart := false }
def FnExactAheadSaid : Prop := fnExactAheadRow.holds Try.pinned (OpenSpec.ofChange fnExactAheadSpec)

/-- ITS FALSE NEIGHBOUR: 'it returns false'. Refute it at one input. -/
def fnExactAheadWrong : ChangeSpec := { name := "fnExactAhead", fn := fun _ => fun
  | [d1, d2] => { results := [.lit (.bool false)], args := [d1, d2] }
  | _ => none }
def FnExactAheadWrongFalsely : Prop := fnExactAheadRow.holds Try.pinned (OpenSpec.ofChange fnExactAheadWrong)

/-- 'laws.FnExactBlocked': WHATEVER THE INPUT: true; the input reads as it did. -/
def fnExactBlockedSpec : ChangeSpec := { name := "fnExactBlocked", fn := fun _ => fun
  | [d1, d2] => { results := [.lit (.bool true)], args := [d1, d2] }
  | _ => none }
def fnExactBlockedRow : OpenClaim := { program := "ythhplblohhkjbaa", sum := "b99ad9f5aaf0bb5906c53377a29ffbb9b07dfcdf9cba0c12e0150b3511f48be9", func := "loop.example/g00327/laws.FnExactBlocked", spec := "fnExactBlocked", unfollowed := true, recurses := true, apart := false }
def FnExactBlockedSaid : Prop := fnExactBlockedRow.holds Try.pinned (OpenSpec.ofChange fnExactBlockedSpec)

/-- ITS FALSE NEIGHBOUR: 'it returns false'. Refute it at one input. -/
def fnExactBlockedWrong : ChangeSpec := { name := "fnExactBlocked", fn := fun _ => fun
  | [d1, d2] => { results := [.lit (.bool false)], args := [d1, d2] }
  | _ => none }
def FnExactBlockedWrongFalsely : Prop := fnExactBlockedRow.holds Try.pinned (OpenSpec.ofChange fnExactBlockedWrong)

/-- 'laws.FnExactOutOf': WHATEVER THE INPUT: true; the input reads as it did. -/
def fnExactOutOfSpec : ChangeSpec := { name := "fnExactOutOf", fn := fun _ => fun
  | [d1, d2] => { results := [.lit (.bool true)], args := [d1, d2] }
  | _ => none }
def fnExactOutOfRow : OpenClaim := { program := "ythhplblohhkjbaa", sum := "b99ad9f5aaf0bb5906c53377a29ffbb9b07dfcdf9cba0c12e0150b3511f48be9", func := "loop.example/g00327/laws.FnExactOutOf", spec := "fnExactOutOf", unfollowed := true, recurses := true, apart := false }
def FnExactOutOfSaid : Prop := fnExactOutOfRow.holds Try.pinned (OpenSpec.ofChange fnExactOutOfSpec)

/-- ITS FALSE NEIGHBOUR: 'it returns false'. Refute it at one input. -/
def fnExactOutOfWrong : ChangeSpec := { name := "fnExactOutOf", fn := fun _ => fun
  | [d1, d2] => { results := [.lit (.bool false)], args := [d1, d2] }
  | _ => none }
def FnExactOutOfWrongFalsely : Prop := fnExactOutOfRow.holds Try.pinned (OpenSpec.ofChange fnExactOutOfWrong)

/-- 'laws.FnExactInOf': WHATEVER THE INPUT: true; the input reads as it did. -/
def fnExactInOfSpec : ChangeSpec := { name := "fnExactInOf", fn := fun _ => fun
  | [d1, d2] => { results := [.lit (.bool true)], args := [d1, d2] }
  | _ => none }
def fnExactInOfRow : OpenClaim := { program := "ythhplblohhkjbaa", sum := "b99ad9f5aaf0bb5906c53377a29ffbb9b07dfcdf9cba0c12e0150b3511f48be9", func := "loop.example/g00327/laws.FnExactInOf", spec := "fnExactInOf", unfollowed := true, recurses := true, apart := false }
def FnExactInOfSaid : Prop := fnExactInOfRow.holds Try.pinned (OpenSpec.ofChange fnExactInOfSpec)

/-- ITS FALSE NEIGHBOUR: 'it returns false'. Refute it at one input. -/
def fnExactInOfWrong : ChangeSpec := { name := "fnExactInOf", fn := fun _ => fun
  | [d1, d2] => { results := [.lit (.bool false)], args := [d1, d2] }
  | _ => none }
def FnExactInOfWrongFalsely : Prop := fnExactInOfRow.holds Try.pinned (OpenSpec.ofChange fnExactInOfWrong)

/-- 'laws.FnExactReadyDanger': WHATEVER THE INPUT: true; the input reads as it did. -/
def fnExactReadyDangerSpec : ChangeSpec := { name := "fnExactReadyDanger", fn := fun _ => fun
  | [d1, d2] => { results := [.lit (.bool true)], args := [d1, d2] }
  | _ => none }
def fnExactReadyDangerRow : OpenClaim := { program := "ythhplblohhkjbaa", sum := "b99ad9f5aaf0bb5906c53377a29ffbb9b07dfcdf9cba0c12e0150b3511f48be9", func := "loop.example/g00327/laws.FnExactReadyDanger", spec := "fnExactReadyDanger", unfollowed := true, recurses := true, apart := false }
def FnExactReadyDangerSaid : Prop := fnExactReadyDangerRow.holds Try.pinned (OpenSpec.ofChange fnExactReadyDangerSpec)

/-- ITS FALSE NEIGHBOUR: 'it returns false'. Refute it at one input. -/
def fnExactReadyDangerWrong : ChangeSpec := { name := "fnExactReadyDanger", fn := fun _ => fun
  | [d1, d2] => { results := [.lit (.bool false)], args := [d1, d2] }
  | _ => none }
def FnExactReadyDangerWrongFalsely : Prop := fnExactReadyDangerRow.holds Try.pinned (OpenSpec.ofChange fnExactReadyDangerWrong)

/- THE SECOND FORM. 'bulk': how many values and letters a reading holds, each counted each time it is reached (what is shared counts as often as it is met; a slice's spare places count too). A statement '..UptoSaid' is the law's where the arguments, and the package variables that the reading takes, are together of bulk at most 1048576: NARROWER than '..Said'. Prove '..Said' where nothing that the law and all that it calls make is longer than what came in: it says more and counts as full. Else prove '..UptoSaid'. A law counts once. -/
mutual
def uptoBulk {H : Type} : DataW H → Nat
  | .lit (.string bytes) => bytes.length + 1
  | .lit _ => 1
  | .nil => 1
  | .ptr d => uptoBulk d + 1
  | .slice elems spare => uptoBulkAll elems + uptoBulkAll spare + 1
  | .agg parts => uptoBulkAll parts + 1
  | .iface _ d => uptoBulk d + 1
  | .map entries => uptoBulkEntries entries + 1
  | .held _ => 1
def uptoBulkAll {H : Type} : List (DataW H) → Nat
  | [] => 0
  | d :: r => uptoBulk d + uptoBulkAll r
def uptoBulkEntries {H : Type} : List (Lit × DataW H) → Nat
  | [] => 0
  | x :: r => uptoBulkEntry x + uptoBulkEntries r
def uptoBulkEntry {H : Type} : Lit × DataW H → Nat
  | (.string bytes, d) => bytes.length + uptoBulk d + 1
  | (_, d) => uptoBulk d + 1
 end
def uptoSmall : (H : Type) → List (DataW H) → Bool := fun _ ds => decide (uptoBulkAll ds ≤ 1048576)
def OpenSpec.upto (s : _root_.Go.ChangeSpec) : _root_.Go.OpenSpec := { _root_.Go.OpenSpec.ofChange s with cond := some uptoSmall }

/-- 'laws.FnEdges', WHERE WHAT IT READS IS OF BULK AT MOST 1048576: true; the input reads as it did. -/
def fnEdgesUptoRow : OpenClaim := { program := "ythhplblohhkjbaa", sum := "b99ad9f5aaf0bb5906c53377a29ffbb9b07dfcdf9cba0c12e0150b3511f48be9", func := "loop.example/g00327/laws.FnEdges", spec := "fnEdges", apart := false, narrowed := true }
def FnEdgesUptoSaid : Prop := fnEdgesUptoRow.holds Try.pinned (OpenSpec.upto fnEdgesSpec)

/-- 'laws.FnDangers', WHERE WHAT IT READS IS OF BULK AT MOST 1048576: true; the input reads as it did. -/
def fnDangersUptoRow : OpenClaim := { program := "ythhplblohhkjbaa", sum := "b99ad9f5aaf0bb5906c53377a29ffbb9b07dfcdf9cba0c12e0150b3511f48be9", func := "loop.example/g00327/laws.FnDangers", spec := "fnDangers", unfollowed := true, recurses := true, apart := false, narrowed := true }
def FnDangersUptoSaid : Prop := fnDangersUptoRow.holds Try.pinned (OpenSpec.upto fnDangersSpec)

/-- 'laws.FnExactBeside', WHERE WHAT IT READS IS OF BULK AT MOST 1048576: true; the input reads as it did. -/
def fnExactBesideUptoRow : OpenClaim := { program := "ythhplblohhkjbaa", sum := "b99ad9f5aaf0bb5906c53377a29ffbb9b07dfcdf9cba0c12e0150b3511f48be9", func := "loop.example/g00327/laws.FnExactBeside", spec := "fnExactBeside", apart := false, narrowed := true }
def FnExactBesideUptoSaid : Prop := fnExactBesideUptoRow.holds Try.pinned (OpenSpec.upto fnExactBesideSpec)

/-- 'laws.FnExactAhead', WHERE WHAT IT READS IS OF BULK AT MOST 1048576: true; the input reads as it did. -/
def fnExactAheadUptoRow : OpenClaim := { program := "ythhplblohhkjbaa", sum := "b99ad9f5aaf0bb5906c53377a29ffbb9b07dfcdf9cba0c12e0150b3511f48be9", func := "loop.example/g00327/laws.FnExactAhead", spec := "fnExactAhead", apart := false, narrowed := true }
def FnExactAheadUptoSaid : Prop := fnExactAheadUptoRow.holds Try.pinned (OpenSpec.upto fnExactAheadSpec)

/-- 'laws.FnExactBlocked', WHERE WHAT IT READS IS OF BULK AT MOST 1048576: true; the input reads as it did. -/
def fnExactBlockedUptoRow : OpenClaim := { program := "ythhplblohhkjbaa", sum := "b99ad9f5aaf0bb5906c53377a29ffbb9b07dfcdf9cba0c12e0150b3511f48be9", func := "loop.example/g00327/laws.FnExactBlocked", spec := "fnExactBlocked", unfollowed := true, recurses := true, apart := false, narrowed := true }
def FnExactBlockedUptoSaid : Prop := fnExactBlockedUptoRow.holds Try.pinned (OpenSpec.upto fnExactBlockedSpec)

/-- 'laws.FnExactOutOf', WHERE WHAT IT READS IS OF BULK AT MOST 1048576: true; the input reads as it did. -/
def fnExactOutOfUptoRow : OpenClaim := { program := "ythhplblohhkjbaa", sum := "b99ad9f5aaf0bb5906c53377a29ffbb9b07dfcdf9cba0c12e0150b3511f48be9", func := "loop.example/g00327/laws.FnExactOutOf", spec := "fnExactOutOf", unfollowed := true, recurses := true, apart := false, narrowed := true }
def FnExactOutOfUptoSaid : Prop := fnExactOutOfUptoRow.holds Try.pinned (OpenSpec.upto fnExactOutOfSpec)

/-- 'laws.FnExactInOf', WHERE WHAT IT READS IS OF BULK AT MOST 1048576: true; the input reads as it did. -/
def fnExactInOfUptoRow : OpenClaim := { program := "ythhplblohhkjbaa", sum := "b99ad9f5aaf0bb5906c53377a29ffbb9b07dfcdf9cba0c12e0150b3511f48be9", func := "loop.example/g00327/laws.FnExactInOf", spec := "fnExactInOf", unfollowed := true, recurses := true, apart := false, narrowed := true }
def FnExactInOfUptoSaid : Prop := fnExactInOfUptoRow.holds Try.pinned (OpenSpec.upto fnExactInOfSpec)

/-- 'laws.FnExactReadyDanger', WHERE WHAT IT READS IS OF BULK AT MOST 1048576: true; the input reads as it did. -/
def fnExactReadyDangerUptoRow : OpenClaim := { program := "ythhplblohhkjbaa", sum := "b99ad9f5aaf0bb5906c53377a29ffbb9b07dfcdf9cba0c12e0150b3511f48be9", func := "loop.example/g00327/laws.FnExactReadyDanger", spec := "fnExactReadyDanger", unfollowed := true, recurses := true, apart := false, narrowed := true }
def FnExactReadyDangerUptoSaid : Prop := fnExactReadyDangerUptoRow.holds Try.pinned (OpenSpec.upto fnExactReadyDangerSpec)

end Rows
end Go.Proofs.Ythhplblohhkjbaa

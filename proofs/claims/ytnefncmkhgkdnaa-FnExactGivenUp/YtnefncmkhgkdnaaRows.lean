/-
  No cell of these rows narrows 'for every input' (looked for: loops, veiled, ifaces, maps, wideKeys, modest, calm, conditions, laid).
  DERIVED. THE GIVEN ROWS OF THIS SEAT. 6 by the template 'for every input the law returns true; each argument reads behind the call as it read before'; 0 by the template 'total and deterministic' (their statements: YtnefncmkhgkdnaaTotals.lean).
  GIVEN WITH THE SEED: the statements are not yours to turn. If you find one false, say at which input.
  Laid BY PROGRAM, IN A SANDBOX (cutbox-rows.mjs): the forced cells as the released guide's own fill.sh prints them over the translation 63d30363dcab7ff0… (all of the seat's roots in one cut). By AI agents, Wed Nov 11 2026. No macro, syntax, notation, axiom, sorry.
-/
import Derived.Test.YtnefncmkhgkdnaaChecked
import GoSem.Claim
import GoSem.ClaimJoined
import GoSem.ClaimMapViews
import Derived.JoinedTies
import Derived.KernelRfl
namespace Go.Proofs.Ytnefncmkhgkdnaa
/- THE CELL 'sum', in the pinned program and in every row, IS THE sha256 OF THE DUMP (.gsa) THAT YtnefncmkhgkdnaaProg.lean LOADS. Nothing in Lean hashes anything: it is a label: what it is worth is what the hold of that sum in a sandbox is worth. -/
noncomputable def Try.pinned : Pinned := { name := "ytnefncmkhgkdnaa", sum := "63d30363dcab7ff00fe2d5ad69a97858e2d1d7b7acf9dbe267e84003c54f10b5", checked := Try.checked }
namespace Rows
def none {H : Type} : Left H := { results := [], args := [] }

/-- 'laws.FnDangers': WHATEVER THE INPUT: true; the input reads as it did. -/
def fnDangersSpec : ChangeSpec := { name := "fnDangers", fn := fun _ => fun
  | [d] => { results := [.lit (.bool true)], args := [d] }
  | _ => none }
def fnDangersRow : OpenClaim := { program := "ytnefncmkhgkdnaa", sum := "63d30363dcab7ff00fe2d5ad69a97858e2d1d7b7acf9dbe267e84003c54f10b5", func := "loop.example/g00327/laws.FnDangers", spec := "fnDangers", unfollowed := true, recurses := true, apart := false }
def FnDangersSaid : Prop := fnDangersRow.holds Try.pinned (OpenSpec.ofChange fnDangersSpec)

/-- ITS FALSE NEIGHBOUR: 'it returns false'. Refute it at one input. -/
def fnDangersWrong : ChangeSpec := { name := "fnDangers", fn := fun _ => fun
  | [d] => { results := [.lit (.bool false)], args := [d] }
  | _ => none }
def FnDangersWrongFalsely : Prop := fnDangersRow.holds Try.pinned (OpenSpec.ofChange fnDangersWrong)

/-- 'laws.FnExactDanger': WHATEVER THE INPUT: true; the input reads as it did. -/
def fnExactDangerSpec : ChangeSpec := { name := "fnExactDanger", fn := fun _ => fun
  | [d1, d2] => { results := [.lit (.bool true)], args := [d1, d2] }
  | _ => none }
def fnExactDangerRow : OpenClaim := { program := "ytnefncmkhgkdnaa", sum := "63d30363dcab7ff00fe2d5ad69a97858e2d1d7b7acf9dbe267e84003c54f10b5", func := "loop.example/g00327/laws.FnExactDanger", spec := "fnExactDanger", unfollowed := true, recurses := true, apart := false }
def FnExactDangerSaid : Prop := fnExactDangerRow.holds Try.pinned (OpenSpec.ofChange fnExactDangerSpec)

/-- ITS FALSE NEIGHBOUR: 'it returns false'. Refute it at one input. -/
def fnExactDangerWrong : ChangeSpec := { name := "fnExactDanger", fn := fun _ => fun
  | [d1, d2] => { results := [.lit (.bool false)], args := [d1, d2] }
  | _ => none }
def FnExactDangerWrongFalsely : Prop := fnExactDangerRow.holds Try.pinned (OpenSpec.ofChange fnExactDangerWrong)

/-- 'laws.FnExactReadyDanger': WHATEVER THE INPUT: true; the input reads as it did. -/
def fnExactReadyDangerSpec : ChangeSpec := { name := "fnExactReadyDanger", fn := fun _ => fun
  | [d1, d2] => { results := [.lit (.bool true)], args := [d1, d2] }
  | _ => none }
def fnExactReadyDangerRow : OpenClaim := { program := "ytnefncmkhgkdnaa", sum := "63d30363dcab7ff00fe2d5ad69a97858e2d1d7b7acf9dbe267e84003c54f10b5", func := "loop.example/g00327/laws.FnExactReadyDanger", spec := "fnExactReadyDanger", unfollowed := true, recurses := true, apart := false }
def FnExactReadyDangerSaid : Prop := fnExactReadyDangerRow.holds Try.pinned (OpenSpec.ofChange fnExactReadyDangerSpec)

/-- ITS FALSE NEIGHBOUR: 'it returns false'. Refute it at one input. -/
def fnExactReadyDangerWrong : ChangeSpec := { name := "fnExactReadyDanger", fn := fun _ => fun
  | [d1, d2] => { results := [.lit (.bool false)], args := [d1, d2] }
  | _ => none }
def FnExactReadyDangerWrongFalsely : Prop := fnExactReadyDangerRow.holds Try.pinned (OpenSpec.ofChange fnExactReadyDangerWrong)

/-- 'laws.FnExactBaseNew': WHATEVER THE INPUT: true; the input reads as it did. -/
def fnExactBaseNewSpec : ChangeSpec := { name := "fnExactBaseNew", fn := fun _ => fun
  | [] => { results := [.lit (.bool true)], args := [] }
  | _ => none }
def fnExactBaseNewRow : OpenClaim := { program := "ytnefncmkhgkdnaa", sum := "63d30363dcab7ff00fe2d5ad69a97858e2d1d7b7acf9dbe267e84003c54f10b5", func := "loop.example/g00327/laws.FnExactBaseNew", spec := "fnExactBaseNew", apart := false }
def FnExactBaseNewSaid : Prop := fnExactBaseNewRow.holds Try.pinned (OpenSpec.ofChange fnExactBaseNewSpec)

/-- ITS FALSE NEIGHBOUR: 'it returns false'. Refute it at one input. -/
def fnExactBaseNewWrong : ChangeSpec := { name := "fnExactBaseNew", fn := fun _ => fun
  | [] => { results := [.lit (.bool false)], args := [] }
  | _ => none }
def FnExactBaseNewWrongFalsely : Prop := fnExactBaseNewRow.holds Try.pinned (OpenSpec.ofChange fnExactBaseNewWrong)

/-- 'laws.FnExactGivenUp': WHATEVER THE INPUT: true; the input reads as it did. -/
def fnExactGivenUpSpec : ChangeSpec := { name := "fnExactGivenUp", fn := fun _ => fun
  | [d1, d2] => { results := [.lit (.bool true)], args := [d1, d2] }
  | _ => none }
def fnExactGivenUpRow : OpenClaim := { program := "ytnefncmkhgkdnaa", sum := "63d30363dcab7ff00fe2d5ad69a97858e2d1d7b7acf9dbe267e84003c54f10b5", func := "loop.example/g00327/laws.FnExactGivenUp", spec := "fnExactGivenUp", unfollowed := true, recurses := true, apart := false }
def FnExactGivenUpSaid : Prop := fnExactGivenUpRow.holds Try.pinned (OpenSpec.ofChange fnExactGivenUpSpec)

/-- ITS FALSE NEIGHBOUR: 'it returns false'. Refute it at one input. -/
def fnExactGivenUpWrong : ChangeSpec := { name := "fnExactGivenUp", fn := fun _ => fun
  | [d1, d2] => { results := [.lit (.bool false)], args := [d1, d2] }
  | _ => none }
def FnExactGivenUpWrongFalsely : Prop := fnExactGivenUpRow.holds Try.pinned (OpenSpec.ofChange fnExactGivenUpWrong)

/-- 'laws.FnExactReadyAt': WHATEVER THE INPUT: true; the input reads as it did. -/
def fnExactReadyAtSpec : ChangeSpec := { name := "fnExactReadyAt", fn := fun _ => fun
  | [d1, d2] => { results := [.lit (.bool true)], args := [d1, d2] }
  | _ => none }
def fnExactReadyAtRow : OpenClaim := { program := "ytnefncmkhgkdnaa", sum := "63d30363dcab7ff00fe2d5ad69a97858e2d1d7b7acf9dbe267e84003c54f10b5", func := "loop.example/g00327/laws.FnExactReadyAt", spec := "fnExactReadyAt", unfollowed := true, recurses := true, apart := false }
def FnExactReadyAtSaid : Prop := fnExactReadyAtRow.holds Try.pinned (OpenSpec.ofChange fnExactReadyAtSpec)

/-- ITS FALSE NEIGHBOUR: 'it returns false'. Refute it at one input. -/
def fnExactReadyAtWrong : ChangeSpec := { name := "fnExactReadyAt", fn := fun _ => fun
  | [d1, d2] => { results := [.lit (.bool false)], args := [d1, d2] }
  | _ => none }
def FnExactReadyAtWrongFalsely : Prop := fnExactReadyAtRow.holds Try.pinned (OpenSpec.ofChange fnExactReadyAtWrong)

/- THE SECOND FORM. 'bulk': how many values and letters a reading holds, each counted each time it is reached (what is shared counts as often as it is met; a slice's spare places count too). A statement '..UptoSaid' is the law's where the arguments, and the package variables that the reading takes, are together of bulk at most 1048576: NARROWER than '..Said'. Prove '..Said' where nothing that the law and all that it calls make is longer than what came in: it says more and counts as full. Else prove '..UptoSaid'. A law counts once. -/
mutual
def uptoBulk {H : Type} : DataW H → Nat
  | .lit (.string bytes) => bytes.length + 1
  | .lit _ => 1
  | .nil => 1
  | .ptr d => uptoBulk d + 1
  | .slice elems spare => uptoBulkAll elems + uptoBulkAll spare + 1
  | .agg parts => uptoBulkAll parts + 1
  | .iface _ d => uptoBulk d + 1
  | .map entries => uptoBulkEntries entries + 1
  | .held _ => 1
def uptoBulkAll {H : Type} : List (DataW H) → Nat
  | [] => 0
  | d :: r => uptoBulk d + uptoBulkAll r
def uptoBulkEntries {H : Type} : List (Lit × DataW H) → Nat
  | [] => 0
  | x :: r => uptoBulkEntry x + uptoBulkEntries r
def uptoBulkEntry {H : Type} : Lit × DataW H → Nat
  | (.string bytes, d) => bytes.length + uptoBulk d + 1
  | (_, d) => uptoBulk d + 1
 end
def uptoSmall : (H : Type) → List (DataW H) → Bool := fun _ ds => decide (uptoBulkAll ds ≤ 1048576)
def OpenSpec.upto (s : _root_.Go.ChangeSpec) : _root_.Go.OpenSpec := { _root_.Go.OpenSpec.ofChange s with cond := some uptoSmall }

/-- 'laws.FnDangers', WHERE WHAT IT READS IS OF BULK AT MOST 1048576: true; the input reads as it did. -/
def fnDangersUptoRow : OpenClaim := { program := "ytnefncmkhgkdnaa", sum := "63d30363dcab7ff00fe2d5ad69a97858e2d1d7b7acf9dbe267e84003c54f10b5", func := "loop.example/g00327/laws.FnDangers", spec := "fnDangers", unfollowed := true, recurses := true, apart := false, narrowed := true }
def FnDangersUptoSaid : Prop := fnDangersUptoRow.holds Try.pinned (OpenSpec.upto fnDangersSpec)

/-- 'laws.FnExactDanger', WHERE WHAT IT READS IS OF BULK AT MOST 1048576: true; the input reads as it did. -/
def fnExactDangerUptoRow : OpenClaim := { program := "ytnefncmkhgkdnaa", sum := "63d30363dcab7ff00fe2d5ad69a97858e2d1d7b7acf9dbe267e84003c54f10b5", func := "loop.example/g00327/laws.FnExactDanger", spec := "fnExactDanger", unfollowed := true, recurses := true, apart := false, narrowed := true }
def FnExactDangerUptoSaid : Prop := fnExactDangerUptoRow.holds Try.pinned (OpenSpec.upto fnExactDangerSpec)

/-- 'laws.FnExactReadyDanger', WHERE WHAT IT READS IS OF BULK AT MOST 1048576: true; the input reads as it did. -/
def fnExactReadyDangerUptoRow : OpenClaim := { program := "ytnefncmkhgkdnaa", sum := "63d30363dcab7ff00fe2d5ad69a97858e2d1d7b7acf9dbe267e84003c54f10b5", func := "loop.example/g00327/laws.FnExactReadyDanger", spec := "fnExactReadyDanger", unfollowed := true, recurses := true, apart := false, narrowed := true }
def FnExactReadyDangerUptoSaid : Prop := fnExactReadyDangerUptoRow.holds Try.pinned (OpenSpec.upto fnExactReadyDangerSpec)

/-- 'laws.FnExactBaseNew', WHERE WHAT IT READS IS OF BULK AT MOST 1048576: true; the input reads as it did. -/
def fnExactBaseNewUptoRow : OpenClaim := { program := "ytnefncmkhgkdnaa", sum := "63d30363dcab7ff00fe2d5ad69a97858e2d1d7b7acf9dbe267e84003c54f10b5", func := "loop.example/g00327/laws.FnExactBaseNew", spec := "fnExactBaseNew", apart := false, narrowed := true }
def FnExactBaseNewUptoSaid : Prop := fnExactBaseNewUptoRow.holds Try.pinned (OpenSpec.upto fnExactBaseNewSpec)

/-- 'laws.FnExactGivenUp', WHERE WHAT IT READS IS OF BULK AT MOST 1048576: true; the input reads as it did. -/
def fnExactGivenUpUptoRow : OpenClaim := { program := "ytnefncmkhgkdnaa", sum := "63d30363dcab7ff00fe2d5ad69a97858e2d1d7b7acf9dbe267e84003c54f10b5", func := "loop.example/g00327/laws.FnExactGivenUp", spec := "fnExactGivenUp", unfollowed := true, recurses := true, apart := false, narrowed := true }
def FnExactGivenUpUptoSaid : Prop := fnExactGivenUpUptoRow.holds Try.pinned (OpenSpec.upto fnExactGivenUpSpec)

/-- 'laws.FnExactReadyAt', WHERE WHAT IT READS IS OF BULK AT MOST 1048576: true; the input reads as it did. -/
def fnExactReadyAtUptoRow : OpenClaim := { program := "ytnefncmkhgkdnaa", sum := "63d30363dcab7ff00fe2d5ad69a97858e2d1d7b7acf9dbe267e84003c54f10b5", func := "loop.example/g00327/laws.FnExactReadyAt", spec := "fnExactReadyAt", unfollowed := true, recurses := true, apart := false, narrowed := true }
def FnExactReadyAtUptoSaid : Prop := fnExactReadyAtUptoRow.holds Try.pinned (OpenSpec.upto fnExactReadyAtSpec)

end Rows
end Go.Proofs.Ytnefncmkhgkdnaa

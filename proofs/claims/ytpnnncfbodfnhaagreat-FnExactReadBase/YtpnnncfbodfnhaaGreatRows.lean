/-
  No cell of these rows narrows 'for every input' (looked for: loops, veiled, ifaces, maps, wideKeys, modest, calm, conditions, laid).
  DERIVED. THE GIVEN ROWS OF THIS SEAT. 4 by the template 'for every input the law returns true; each argument reads behind the call as it read before'; 0 by the template 'total and deterministic' (their statements: YtpnnncfbodfnhaaGreatTotals.lean).
  GIVEN WITH THE SEED: the statements are not yours to turn. If you find one false, say at which input.
  Laid BY PROGRAM, IN A SANDBOX (cutbox-rows.mjs): the forced cells as the released guide's own fill.sh prints them over the translation 19ae3ca750c9e0de… (all of the seat's roots in one cut). By AI agents, Wed Nov 11 2026. No macro, syntax, notation, axiom, sorry.
-/
import Derived.Test.YtpnnncfbodfnhaaGreatChecked
import GoSem.Claim
import GoSem.ClaimJoined
import GoSem.ClaimMapViews
import Derived.JoinedTies
import Derived.KernelRfl
namespace Go.Proofs.YtpnnncfbodfnhaaGreat
/- THE CELL 'sum', in the pinned program and in every row, IS THE sha256 OF THE DUMP (.gsa) THAT YtpnnncfbodfnhaaGreatProg.lean LOADS. Nothing in Lean hashes anything: it is a label: what it is worth is what the hold of that sum in a sandbox is worth. -/
noncomputable def Tryz.pinned : Pinned := { name := "ytpnnncfbodfnhaagreat", sum := "19ae3ca750c9e0de6558051d659d641c27f585e389af5d18ecab2e26ddd64608", checked := Tryz.checked }
namespace Rows
def none {H : Type} : Left H := { results := [], args := [] }

/-- 'laws.FnExactRecordOk': WHATEVER THE INPUT: true; the input reads as it did. -/
def fnExactRecordOkSpec : ChangeSpec := { name := "fnExactRecordOk", fn := fun _ => fun
  | [d] => { results := [.lit (.bool true)], args := [d] }
  | _ => none }
def fnExactRecordOkRow : OpenClaim := { program := "ytpnnncfbodfnhaagreat", sum := "19ae3ca750c9e0de6558051d659d641c27f585e389af5d18ecab2e26ddd64608", func := "loop.example/g00327/laws.FnExactRecordOk", spec := "fnExactRecordOk", unfollowed := true, recurses := true, apart := false }
def FnExactRecordOkSaid : Prop := fnExactRecordOkRow.holds Tryz.pinned (OpenSpec.ofChange fnExactRecordOkSpec)

/-- ITS FALSE NEIGHBOUR: 'it returns false'. Refute it at one input. -/
def fnExactRecordOkWrong : ChangeSpec := { name := "fnExactRecordOk", fn := fun _ => fun
  | [d] => { results := [.lit (.bool false)], args := [d] }
  | _ => none }
def FnExactRecordOkWrongFalsely : Prop := fnExactRecordOkRow.holds Tryz.pinned (OpenSpec.ofChange fnExactRecordOkWrong)

/-- 'laws.FnExactBaseText': WHATEVER THE INPUT: true; the input reads as it did. -/
def fnExactBaseTextSpec : ChangeSpec := { name := "fnExactBaseText", fn := fun _ => fun
  | [d] => { results := [.lit (.bool true)], args := [d] }
  | _ => none }
def fnExactBaseTextRow : OpenClaim := { program := "ytpnnncfbodfnhaagreat", sum := "19ae3ca750c9e0de6558051d659d641c27f585e389af5d18ecab2e26ddd64608", func := "loop.example/g00327/laws.FnExactBaseText", spec := "fnExactBaseText", inPlace := ["internal/bytealg.abigen_runtime_cmpstring", "internal/abi.NoEscape"], unfollowed := true, recurses := true, apart := false }
def FnExactBaseTextSaid : Prop := fnExactBaseTextRow.holds Tryz.pinned (OpenSpec.ofChange fnExactBaseTextSpec)

/-- ITS FALSE NEIGHBOUR: 'it returns false'. Refute it at one input. -/
def fnExactBaseTextWrong : ChangeSpec := { name := "fnExactBaseText", fn := fun _ => fun
  | [d] => { results := [.lit (.bool false)], args := [d] }
  | _ => none }
def FnExactBaseTextWrongFalsely : Prop := fnExactBaseTextRow.holds Tryz.pinned (OpenSpec.ofChange fnExactBaseTextWrong)

/-- 'laws.FnExactReadBase': WHATEVER THE INPUT: true; the input reads as it did. -/
def fnExactReadBaseSpec : ChangeSpec := { name := "fnExactReadBase", fn := fun _ => fun
  | [d1, d2] => { results := [.lit (.bool true)], args := [d1, d2] }
  | _ => none }
def fnExactReadBaseRow : OpenClaim := { program := "ytpnnncfbodfnhaagreat", sum := "19ae3ca750c9e0de6558051d659d641c27f585e389af5d18ecab2e26ddd64608", func := "loop.example/g00327/laws.FnExactReadBase", spec := "fnExactReadBase", inPlace := ["internal/bytealg.abigen_runtime_cmpstring"], unfollowed := true, recurses := true, apart := false }
def FnExactReadBaseSaid : Prop := fnExactReadBaseRow.holds Tryz.pinned (OpenSpec.ofChange fnExactReadBaseSpec)

/-- ITS FALSE NEIGHBOUR: 'it returns false'. Refute it at one input. -/
def fnExactReadBaseWrong : ChangeSpec := { name := "fnExactReadBase", fn := fun _ => fun
  | [d1, d2] => { results := [.lit (.bool false)], args := [d1, d2] }
  | _ => none }
def FnExactReadBaseWrongFalsely : Prop := fnExactReadBaseRow.holds Tryz.pinned (OpenSpec.ofChange fnExactReadBaseWrong)

/-- 'laws.FnExactPlayed': WHATEVER THE INPUT: true; the input reads as it did. -/
def fnExactPlayedSpec : ChangeSpec := { name := "fnExactPlayed", fn := fun _ => fun
  | [d1, d2] => { results := [.lit (.bool true)], args := [d1, d2] }
  | _ => none }
def fnExactPlayedRow : OpenClaim := { program := "ytpnnncfbodfnhaagreat", sum := "19ae3ca750c9e0de6558051d659d641c27f585e389af5d18ecab2e26ddd64608", func := "loop.example/g00327/laws.FnExactPlayed", spec := "fnExactPlayed", inPlace := ["internal/bytealg.abigen_runtime_cmpstring", "slices.overlaps[loop.example/g00327/impl.Txn]"], unfollowed := true, recurses := true, apart := false }
def FnExactPlayedSaid : Prop := fnExactPlayedRow.holds Tryz.pinned (OpenSpec.ofChange fnExactPlayedSpec)

/-- ITS FALSE NEIGHBOUR: 'it returns false'. Refute it at one input. -/
def fnExactPlayedWrong : ChangeSpec := { name := "fnExactPlayed", fn := fun _ => fun
  | [d1, d2] => { results := [.lit (.bool false)], args := [d1, d2] }
  | _ => none }
def FnExactPlayedWrongFalsely : Prop := fnExactPlayedRow.holds Tryz.pinned (OpenSpec.ofChange fnExactPlayedWrong)

/- THE SECOND FORM. 'bulk': how many values and letters a reading holds, each counted each time it is reached (what is shared counts as often as it is met; a slice's spare places count too). A statement '..UptoSaid' is the law's where the arguments, and the package variables that the reading takes, are together of bulk at most 1048576: NARROWER than '..Said'. Prove '..Said' where nothing that the law and all that it calls make is longer than what came in: it says more and counts as full. Else prove '..UptoSaid'. A law counts once. -/
mutual
def uptoBulk {H : Type} : DataW H → Nat
  | .lit (.string bytes) => bytes.length + 1
  | .lit _ => 1
  | .nil => 1
  | .ptr d => uptoBulk d + 1
  | .slice elems spare => uptoBulkAll elems + uptoBulkAll spare + 1
  | .agg parts => uptoBulkAll parts + 1
  | .iface _ d => uptoBulk d + 1
  | .map entries => uptoBulkEntries entries + 1
  | .held _ => 1
def uptoBulkAll {H : Type} : List (DataW H) → Nat
  | [] => 0
  | d :: r => uptoBulk d + uptoBulkAll r
def uptoBulkEntries {H : Type} : List (Lit × DataW H) → Nat
  | [] => 0
  | x :: r => uptoBulkEntry x + uptoBulkEntries r
def uptoBulkEntry {H : Type} : Lit × DataW H → Nat
  | (.string bytes, d) => bytes.length + uptoBulk d + 1
  | (_, d) => uptoBulk d + 1
 end
def uptoSmall : (H : Type) → List (DataW H) → Bool := fun _ ds => decide (uptoBulkAll ds ≤ 1048576)
def OpenSpec.upto (s : _root_.Go.ChangeSpec) : _root_.Go.OpenSpec := { _root_.Go.OpenSpec.ofChange s with cond := some uptoSmall }

/-- 'laws.FnExactRecordOk', WHERE WHAT IT READS IS OF BULK AT MOST 1048576: true; the input reads as it did. -/
def fnExactRecordOkUptoRow : OpenClaim := { program := "ytpnnncfbodfnhaagreat", sum := "19ae3ca750c9e0de6558051d659d641c27f585e389af5d18ecab2e26ddd64608", func := "loop.example/g00327/laws.FnExactRecordOk", spec := "fnExactRecordOk", unfollowed := true, recurses := true, apart := false, narrowed := true }
def FnExactRecordOkUptoSaid : Prop := fnExactRecordOkUptoRow.holds Tryz.pinned (OpenSpec.upto fnExactRecordOkSpec)

/-- 'laws.FnExactBaseText', WHERE WHAT IT READS IS OF BULK AT MOST 1048576: true; the input reads as it did. -/
def fnExactBaseTextUptoRow : OpenClaim := { program := "ytpnnncfbodfnhaagreat", sum := "19ae3ca750c9e0de6558051d659d641c27f585e389af5d18ecab2e26ddd64608", func := "loop.example/g00327/laws.FnExactBaseText", spec := "fnExactBaseText", inPlace := ["internal/bytealg.abigen_runtime_cmpstring", "internal/abi.NoEscape"], unfollowed := true, recurses := true, apart := false, narrowed := true }
def FnExactBaseTextUptoSaid : Prop := fnExactBaseTextUptoRow.holds Tryz.pinned (OpenSpec.upto fnExactBaseTextSpec)

/-- 'laws.FnExactReadBase', WHERE WHAT IT READS IS OF BULK AT MOST 1048576: true; the input reads as it did. -/
def fnExactReadBaseUptoRow : OpenClaim := { program := "ytpnnncfbodfnhaagreat", sum := "19ae3ca750c9e0de6558051d659d641c27f585e389af5d18ecab2e26ddd64608", func := "loop.example/g00327/laws.FnExactReadBase", spec := "fnExactReadBase", inPlace := ["internal/bytealg.abigen_runtime_cmpstring"], unfollowed := true, recurses := true, apart := false, narrowed := true }
def FnExactReadBaseUptoSaid : Prop := fnExactReadBaseUptoRow.holds Tryz.pinned (OpenSpec.upto fnExactReadBaseSpec)

/-- 'laws.FnExactPlayed', WHERE WHAT IT READS IS OF BULK AT MOST 1048576: true; the input reads as it did. -/
def fnExactPlayedUptoRow : OpenClaim := { program := "ytpnnncfbodfnhaagreat", sum := "19ae3ca750c9e0de6558051d659d641c27f585e389af5d18ecab2e26ddd64608", func := "loop.example/g00327/laws.FnExactPlayed", spec := "fnExactPlayed", inPlace := ["internal/bytealg.abigen_runtime_cmpstring", "slices.overlaps[loop.example/g00327/impl.Txn]"], unfollowed := true, recurses := true, apart := false, narrowed := true }
def FnExactPlayedUptoSaid : Prop := fnExactPlayedUptoRow.holds Tryz.pinned (OpenSpec.upto fnExactPlayedSpec)

end Rows
end Go.Proofs.YtpnnncfbodfnhaaGreat

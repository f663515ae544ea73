/-
  No cell of these rows narrows 'for every input' (looked for: loops, veiled, ifaces, maps, wideKeys, modest, calm, conditions, laid).
  DERIVED. THE GIVEN ROWS OF THIS SEAT. 7 by the template 'for every input the law returns true; each argument reads behind the call as it read before'; 0 by the template 'total and deterministic' (their statements: YtnfkecefkkdedaaTotals.lean).
  GIVEN WITH THE SEED: the statements are not yours to turn. If you find one false, say at which input.
  Laid BY PROGRAM, IN A SANDBOX (cutbox-rows.mjs): the forced cells as the released guide's own fill.sh prints them over the translation a6b35cf247fdab53… (all of the seat's roots in one cut). By AI agents, Wed Nov 11 2026. No macro, syntax, notation, axiom, sorry.
-/
import Derived.Test.YtnfkecefkkdedaaChecked
import GoSem.Claim
import GoSem.ClaimJoined
import GoSem.ClaimMapViews
import Derived.JoinedTies
import Derived.KernelRfl
namespace Go.Proofs.Ytnfkecefkkdedaa
/- THE CELL 'sum', in the pinned program and in every row, IS THE sha256 OF THE DUMP (.gsa) THAT YtnfkecefkkdedaaProg.lean LOADS. Nothing in Lean hashes anything: it is a label: what it is worth is what the hold of that sum in a sandbox is worth. -/
noncomputable def Try.pinned : Pinned := { name := "ytnfkecefkkdedaa", sum := "a6b35cf247fdab53ecdbbdb8d024e7132f80fb6e9248791f138e9e31aa88168e", checked := Try.checked }
namespace Rows
def none {H : Type} : Left H := { results := [], args := [] }

/-- 'laws.FnSectors': WHATEVER THE INPUT: true; the input reads as it did. -/
def fnSectorsSpec : ChangeSpec := { name := "fnSectors", fn := fun _ => fun
  | [d] => { results := [.lit (.bool true)], args := [d] }
  | _ => none }
def fnSectorsRow : OpenClaim := { program := "ytnfkecefkkdedaa", sum := "a6b35cf247fdab53ecdbbdb8d024e7132f80fb6e9248791f138e9e31aa88168e", func := "loop.example/g00327/laws.FnSectors", spec := "fnSectors", apart := false }
def FnSectorsSaid : Prop := fnSectorsRow.holds Try.pinned (OpenSpec.ofChange fnSectorsSpec)

/-- ITS FALSE NEIGHBOUR: 'it returns false'. Refute it at one input. -/
def fnSectorsWrong : ChangeSpec := { name := "fnSectors", fn := fun _ => fun
  | [d] => { results := [.lit (.bool false)], args := [d] }
  | _ => none }
def FnSectorsWrongFalsely : Prop := fnSectorsRow.holds Try.pinned (OpenSpec.ofChange fnSectorsWrong)

/-- 'laws.FnCrashes': WHATEVER THE INPUT: true; the input reads as it did. -/
def fnCrashesSpec : ChangeSpec := { name := "fnCrashes", fn := fun _ => fun
  | [d] => { results := [.lit (.bool true)], args := [d] }
  | _ => none }
def fnCrashesRow : OpenClaim := { program := "ytnfkecefkkdedaa", sum := "a6b35cf247fdab53ecdbbdb8d024e7132f80fb6e9248791f138e9e31aa88168e", func := "loop.example/g00327/laws.FnCrashes", spec := "fnCrashes", apart := false }
def FnCrashesSaid : Prop := fnCrashesRow.holds Try.pinned (OpenSpec.ofChange fnCrashesSpec)

/-- ITS FALSE NEIGHBOUR: 'it returns false'. Refute it at one input. -/
def fnCrashesWrong : ChangeSpec := { name := "fnCrashes", fn := fun _ => fun
  | [d] => { results := [.lit (.bool false)], args := [d] }
  | _ => none }
def FnCrashesWrongFalsely : Prop := fnCrashesRow.holds Try.pinned (OpenSpec.ofChange fnCrashesWrong)

/-- 'laws.FnTorn': WHATEVER THE INPUT: true; the input reads as it did. -/
def fnTornSpec : ChangeSpec := { name := "fnTorn", fn := fun _ => fun
  | [d] => { results := [.lit (.bool true)], args := [d] }
  | _ => none }
def fnTornRow : OpenClaim := { program := "ytnfkecefkkdedaa", sum := "a6b35cf247fdab53ecdbbdb8d024e7132f80fb6e9248791f138e9e31aa88168e", func := "loop.example/g00327/laws.FnTorn", spec := "fnTorn", apart := false }
def FnTornSaid : Prop := fnTornRow.holds Try.pinned (OpenSpec.ofChange fnTornSpec)

/-- ITS FALSE NEIGHBOUR: 'it returns false'. Refute it at one input. -/
def fnTornWrong : ChangeSpec := { name := "fnTorn", fn := fun _ => fun
  | [d] => { results := [.lit (.bool false)], args := [d] }
  | _ => none }
def FnTornWrongFalsely : Prop := fnTornRow.holds Try.pinned (OpenSpec.ofChange fnTornWrong)

/-- 'laws.FnDisksTold': WHATEVER THE INPUT: true; the input reads as it did. -/
def fnDisksToldSpec : ChangeSpec := { name := "fnDisksTold", fn := fun _ => fun
  | [d] => { results := [.lit (.bool true)], args := [d] }
  | _ => none }
def fnDisksToldRow : OpenClaim := { program := "ytnfkecefkkdedaa", sum := "a6b35cf247fdab53ecdbbdb8d024e7132f80fb6e9248791f138e9e31aa88168e", func := "loop.example/g00327/laws.FnDisksTold", spec := "fnDisksTold", inPlace := ["internal/abi.NoEscape"], apart := false }
def FnDisksToldSaid : Prop := fnDisksToldRow.holds Try.pinned (OpenSpec.ofChange fnDisksToldSpec)

/-- ITS FALSE NEIGHBOUR: 'it returns false'. Refute it at one input. -/
def fnDisksToldWrong : ChangeSpec := { name := "fnDisksTold", fn := fun _ => fun
  | [d] => { results := [.lit (.bool false)], args := [d] }
  | _ => none }
def FnDisksToldWrongFalsely : Prop := fnDisksToldRow.holds Try.pinned (OpenSpec.ofChange fnDisksToldWrong)

/-- 'laws.FnLogs': WHATEVER THE INPUT: true; the input reads as it did. -/
def fnLogsSpec : ChangeSpec := { name := "fnLogs", fn := fun _ => fun
  | [d] => { results := [.lit (.bool true)], args := [d] }
  | _ => none }
def fnLogsRow : OpenClaim := { program := "ytnfkecefkkdedaa", sum := "a6b35cf247fdab53ecdbbdb8d024e7132f80fb6e9248791f138e9e31aa88168e", func := "loop.example/g00327/laws.FnLogs", spec := "fnLogs", inPlace := ["internal/abi.NoEscape"], apart := false }
def FnLogsSaid : Prop := fnLogsRow.holds Try.pinned (OpenSpec.ofChange fnLogsSpec)

/-- ITS FALSE NEIGHBOUR: 'it returns false'. Refute it at one input. -/
def fnLogsWrong : ChangeSpec := { name := "fnLogs", fn := fun _ => fun
  | [d] => { results := [.lit (.bool false)], args := [d] }
  | _ => none }
def FnLogsWrongFalsely : Prop := fnLogsRow.holds Try.pinned (OpenSpec.ofChange fnLogsWrong)

/-- 'laws.FnSwitches': WHATEVER THE INPUT: true; the input reads as it did. -/
def fnSwitchesSpec : ChangeSpec := { name := "fnSwitches", fn := fun _ => fun
  | [d] => { results := [.lit (.bool true)], args := [d] }
  | _ => none }
def fnSwitchesRow : OpenClaim := { program := "ytnfkecefkkdedaa", sum := "a6b35cf247fdab53ecdbbdb8d024e7132f80fb6e9248791f138e9e31aa88168e", func := "loop.example/g00327/laws.FnSwitches", spec := "fnSwitches", inPlace := ["internal/abi.NoEscape"], apart := false }
def FnSwitchesSaid : Prop := fnSwitchesRow.holds Try.pinned (OpenSpec.ofChange fnSwitchesSpec)

/-- ITS FALSE NEIGHBOUR: 'it returns false'. Refute it at one input. -/
def fnSwitchesWrong : ChangeSpec := { name := "fnSwitches", fn := fun _ => fun
  | [d] => { results := [.lit (.bool false)], args := [d] }
  | _ => none }
def FnSwitchesWrongFalsely : Prop := fnSwitchesRow.holds Try.pinned (OpenSpec.ofChange fnSwitchesWrong)

/-- 'laws.FnLogsTold': WHATEVER THE INPUT: true; the input reads as it did. -/
def fnLogsToldSpec : ChangeSpec := { name := "fnLogsTold", fn := fun _ => fun
  | [d] => { results := [.lit (.bool true)], args := [d] }
  | _ => none }
def fnLogsToldRow : OpenClaim := { program := "ytnfkecefkkdedaa", sum := "a6b35cf247fdab53ecdbbdb8d024e7132f80fb6e9248791f138e9e31aa88168e", func := "loop.example/g00327/laws.FnLogsTold", spec := "fnLogsTold", inPlace := ["internal/abi.NoEscape"], apart := false }
def FnLogsToldSaid : Prop := fnLogsToldRow.holds Try.pinned (OpenSpec.ofChange fnLogsToldSpec)

/-- ITS FALSE NEIGHBOUR: 'it returns false'. Refute it at one input. -/
def fnLogsToldWrong : ChangeSpec := { name := "fnLogsTold", fn := fun _ => fun
  | [d] => { results := [.lit (.bool false)], args := [d] }
  | _ => none }
def FnLogsToldWrongFalsely : Prop := fnLogsToldRow.holds Try.pinned (OpenSpec.ofChange fnLogsToldWrong)

/- THE SECOND FORM. 'bulk': how many values and letters a reading holds, each counted each time it is reached (what is shared counts as often as it is met; a slice's spare places count too). A statement '..UptoSaid' is the law's where the arguments, and the package variables that the reading takes, are together of bulk at most 1048576: NARROWER than '..Said'. Prove '..Said' where nothing that the law and all that it calls make is longer than what came in: it says more and counts as full. Else prove '..UptoSaid'. A law counts once. -/
mutual
def uptoBulk {H : Type} : DataW H → Nat
  | .lit (.string bytes) => bytes.length + 1
  | .lit _ => 1
  | .nil => 1
  | .ptr d => uptoBulk d + 1
  | .slice elems spare => uptoBulkAll elems + uptoBulkAll spare + 1
  | .agg parts => uptoBulkAll parts + 1
  | .iface _ d => uptoBulk d + 1
  | .map entries => uptoBulkEntries entries + 1
  | .held _ => 1
def uptoBulkAll {H : Type} : List (DataW H) → Nat
  | [] => 0
  | d :: r => uptoBulk d + uptoBulkAll r
def uptoBulkEntries {H : Type} : List (Lit × DataW H) → Nat
  | [] => 0
  | x :: r => uptoBulkEntry x + uptoBulkEntries r
def uptoBulkEntry {H : Type} : Lit × DataW H → Nat
  | (.string bytes, d) => bytes.length + uptoBulk d + 1
  | (_, d) => uptoBulk d + 1
 end
def uptoSmall : (H : Type) → List (DataW H) → Bool := fun _ ds => decide (uptoBulkAll ds ≤ 1048576)
def OpenSpec.upto (s : _root_.Go.ChangeSpec) : _root_.Go.OpenSpec := { _root_.Go.OpenSpec.ofChange s with cond := some uptoSmall }

/-- 'laws.FnSectors', WHERE WHAT IT READS IS OF BULK AT MOST 1048576: true; the input reads as it did. -/
def fnSectorsUptoRow : OpenClaim := { program := "ytnfkecefkkdedaa", sum := "a6b35cf247fdab53ecdbbdb8d024e7132f80fb6e9248791f138e9e31aa88168e", func := "loop.example/g00327/laws.FnSectors", spec := "fnSectors", apart := false, narrowed := true }
def FnSectorsUptoSaid : Prop := fnSectorsUptoRow.holds Try.pinned (OpenSpec.upto fnSectorsSpec)

/-- 'laws.FnCrashes', WHERE WHAT IT READS IS OF BULK AT MOST 1048576: true; the input reads as it did. -/
def fnCrashesUptoRow : OpenClaim := { program := "ytnfkecefkkdedaa", sum := "a6b35cf247fdab53ecdbbdb8d024e7132f80fb6e9248791f138e9e31aa88168e", func := "loop.example/g00327/laws.FnCrashes", spec := "fnCrashes", apart := false, narrowed := true }
def FnCrashesUptoSaid : Prop := fnCrashesUptoRow.holds Try.pinned (OpenSpec.upto fnCrashesSpec)

/-- 'laws.FnTorn', WHERE WHAT IT READS IS OF BULK AT MOST 1048576: true; the input reads as it did. -/
def fnTornUptoRow : OpenClaim := { program := "ytnfkecefkkdedaa", sum := "a6b35cf247fdab53ecdbbdb8d024e7132f80fb6e9248791f138e9e31aa88168e", func := "loop.example/g00327/laws.FnTorn", spec := "fnTorn", apart := false, narrowed := true }
def FnTornUptoSaid : Prop := fnTornUptoRow.holds Try.pinned (OpenSpec.upto fnTornSpec)

/-- 'laws.FnDisksTold', WHERE WHAT IT READS IS OF BULK AT MOST 1048576: true; the input reads as it did. -/
def fnDisksToldUptoRow : OpenClaim := { program := "ytnfkecefkkdedaa", sum := "a6b35cf247fdab53ecdbbdb8d024e7132f80fb6e9248791f138e9e31aa88168e", func := "loop.example/g00327/laws.FnDisksTold", spec := "fnDisksTold", inPlace := ["internal/abi.NoEscape"], apart := false, narrowed := true }
def FnDisksToldUptoSaid : Prop := fnDisksToldUptoRow.holds Try.pinned (OpenSpec.upto fnDisksToldSpec)

/-- 'laws.FnLogs', WHERE WHAT IT READS IS OF BULK AT MOST 1048576: true; the input reads as it did. -/
def fnLogsUptoRow : OpenClaim := { program := "ytnfkecefkkdedaa", sum := "a6b35cf247fdab53ecdbbdb8d024e7132f80fb6e9248791f138e9e31aa88168e", func := "loop.example/g00327/laws.FnLogs", spec := "fnLogs", inPlace := ["internal/abi.NoEscape"], apart := false, narrowed := true }
def FnLogsUptoSaid : Prop := fnLogsUptoRow.holds Try.pinned (OpenSpec.upto fnLogsSpec)

/-- 'laws.FnSwitches', WHERE WHAT IT READS IS OF BULK AT MOST 1048576: true; the input reads as it did. -/
def fnSwitchesUptoRow : OpenClaim := { program := "ytnfkecefkkdedaa", sum := "a6b35cf247fdab53ecdbbdb8d024e7132f80fb6e9248791f138e9e31aa88168e", func := "loop.example/g00327/laws.FnSwitches", spec := "fnSwitches", inPlace := ["internal/abi.NoEscape"], apart := false, narrowed := true }
def FnSwitchesUptoSaid : Prop := fnSwitchesUptoRow.holds Try.pinned (OpenSpec.upto fnSwitchesSpec)

/-- 'laws.FnLogsTold', WHERE WHAT IT READS IS OF BULK AT MOST 1048576: true; the input reads as it did. -/
def fnLogsToldUptoRow : OpenClaim := { program := "ytnfkecefkkdedaa", sum := "a6b35cf247fdab53ecdbbdb8d024e7132f80fb6e9248791f138e9e31aa88168e", func := "loop.example/g00327/laws.FnLogsTold", spec := "fnLogsTold", inPlace := ["internal/abi.NoEscape"], apart := false, narrowed := true }
def FnLogsToldUptoSaid : Prop := fnLogsToldUptoRow.holds Try.pinned (OpenSpec.upto fnLogsToldSpec)

end Rows
end Go.Proofs.Ytnfkecefkkdedaa

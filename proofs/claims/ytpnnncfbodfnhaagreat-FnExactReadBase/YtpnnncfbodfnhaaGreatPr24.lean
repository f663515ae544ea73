/- What readWhole does. -/
import Derived.Test.YtpnnncfbodfnhaaGreatPr11
import Derived.Defers
import Derived.Recover
import Derived.Laws.Pointers
namespace Go.Proofs.YtpnnncfbodfnhaaGreat
open Go.RowKit
open KM
open VM
attribute [local go_sem ↓] Go.wp_at_zero Go.wp_at_succ

theorem ta_yes (w : World) : (Instr.typeAssert (.iface 152 (.agg #[])) 20 152 true).run Tryz.prog w = .ok (.tuple #[.agg #[], .bool true]) w := by kernel_rfl
theorem ta_no (w : World) : (Instr.typeAssert .nilIface 20 152 true).run Tryz.prog w = .ok (.tuple #[.agg #[], .bool false]) w := by kernel_rfl
set_option maxRecDepth 100000 in
set_option maxHeartbeats 2000000 in
theorem catch_pan (c : Nat) (z : Bool) (w : World) (hc : w.cell? ⟨c, 0, none⟩ = some (.bool z)) (hz : w.frozen? ⟨c, 0, none⟩ = false) (hlt : c < w.heap.size) :
  CallsD Tryz.prog 92 #[.pointer (some ⟨c, 0, none⟩)] (.panicking PAN) w fun e u' w' =>
   e = .returned (.tuple #[]) ∧ u' = .panicking [{ v := .iface 152 (.agg #[]), recovered := true }] ∧ w' = (w.setCell ⟨c, 0, none⟩ (.bool false)).alloc (.cells #[] 152) := by
 refine callsD_of_wpS Tryz.func92 rfl fun c₀ cs hu => ?_
 unfold PAN at hu
 apply wpS_seq
 apply wpS_region
 simp [wpOpsS, go_sem, recoverD, hu, Tryz.ntmps92, Exit.thenS]
 refine wpS_of_wp ?_
 change Code.wp _ _ _ { tmps := #[.pointer (some ⟨c, 0, none⟩), .iface 152 (.agg #[]), undef, undef, .iface 152 (.agg #[]), undef, undef, undef, undef, undef, undef, undef, undef, undef, undef, undef, undef, undef, undef], defers := [] } w
 have ty := ta_yes
 have tn := ta_no
 go_wp2
 exact ⟨rfl, _, rfl, _, by simp [results, Tryz.results92], rfl, rfl, rfl⟩

set_option maxRecDepth 100000 in
set_option maxHeartbeats 2000000 in
theorem catch_idle (c : Nat) (z : Bool) (w : World) (hc : w.cell? ⟨c, 0, none⟩ = some (.bool z)) (hz : w.frozen? ⟨c, 0, none⟩ = false) (hlt : c < w.heap.size) :
  CallsD Tryz.prog 92 #[.pointer (some ⟨c, 0, none⟩)] .returning w fun e u' w' => e = .returned (.tuple #[]) ∧ u' = .returning ∧ w' = (w.setCell ⟨c, 0, none⟩ (.bool true)).alloc (.cells #[] 152) := by
 refine callsD_of_wpS Tryz.func92 rfl fun c₀ cs hu => ?_
 apply wpS_seq
 apply wpS_region
 simp [wpOpsS, go_sem, recoverD, hu, Tryz.ntmps92, Exit.thenS]
 refine wpS_of_wp ?_
 change Code.wp _ _ _ { tmps := #[.pointer (some ⟨c, 0, none⟩), .nilIface, undef, undef, .nilIface, undef, undef, undef, undef, undef, undef, undef, undef, undef, undef, undef, undef, undef, undef], defers := [] } w
 have ty := ta_yes
 have tn := ta_no
 go_wp2
 refine ⟨rfl, .returning, by rw [← hu], _, by simp [results, Tryz.results92], rfl, rfl, rfl⟩

end Go.Proofs.YtpnnncfbodfnhaaGreat

namespace Go.Proofs.YtpnnncfbodfnhaaGreat
open Go.RowKit
open KM
open VM
attribute [local go_sem ↓] Go.wp_at_zero Go.wp_at_succ

def zT : Tx := ⟨0, 0, 0, 0, [], [], false, ⟨#[]⟩⟩
def ansT : Option (Tx × Nat) → Tx × Nat × Bool
 | none => (zT, 0, false)
 | some r => (r.1, r.2, true)
theorem zlie (w : World) (lo hi : Nat) (h : lo ≤ hi) : TLie w lo hi zT none 0 none 0 := ⟨hi, h, Nat.le_refl _, ⟨World.ownsRow_nil _ _ _ _, fun g hg => by cases hg⟩, ⟨World.ownsRow_nil _ _ _ _, fun g hg => by cases hg⟩⟩
theorem below_ca {w1 : World} {c : Nat} (hc : c ≤ w1.heap.size) (v : Value) : Below c w1 ((w1.setCell ⟨c, 0, none⟩ v).alloc (.cells #[] 152)) := ((Below.refl c w1).setCell (Nat.le_refl _) v).alloc (by simpa [World.setCell] using hc) _
theorem kn_new {bs : List Nat} {w w1 w2 w3 : World} (h0 : Below w.heap.size w w1) (h1 : Kn bs w1 w2) (h2 : Below w.heap.size w2 w3) : Kn bs w w3 :=
 ⟨h2.os.trans (h1.os.trans h0.os), h2.tape.trans (h1.tape.trans h0.tape), h2.output.trans (h1.output.trans h0.output), Nat.le_trans h0.size (Nat.le_trans h1.size h2.size), fun j hj hn => (h2.block j hj).trans ((h1.block j (Nat.lt_of_lt_of_le hj h0.size) hn).trans (h0.block j hj))⟩

end Go.Proofs.YtpnnncfbodfnhaaGreat

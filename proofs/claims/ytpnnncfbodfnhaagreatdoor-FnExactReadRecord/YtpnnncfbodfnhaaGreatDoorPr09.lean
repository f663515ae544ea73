/- Nothing at all: what isNoTxn, isNoBase and the document's l10NoTxn, l10NoBase answer. -/
import Derived.Test.YtpnnncfbodfnhaaGreatDoorPr08
import Derived.Test.YtpnnncfbodfnhaaGreatDoorPr06
import Derived.Deep.RegionHeld3
import Derived.Deep.Cut
import Derived.Deep.CutRange
import Derived.Laws.EntriesVeiled
namespace Go.Proofs.YtpnnncfbodfnhaaGreatDoor
open Go.RowKit
open KM
attribute [local go_sem ↓] Go.wp_at_zero Go.wp_at_succ

def noT (t : Tx) : Bool := decide (t.id = 0) && decide (t.st = 0) && decide (t.snap = 0) && decide (t.cs = 0) && !t.out && t.nm.toList.isEmpty && decide (t.rs.length = 0) && decide (t.ws.length = 0)
def noB (b : Bb) : Bool := decide (b.cs = 0) && decide (b.nx = 0) && decide (b.vs.length = 0) && decide (b.ps.length = 0) && decide (b.qs.length = 0)
theorem len0 {α : Type} (l : List α) : ((l.length : Int) == 0) = decide (l.length = 0) := by
 rw [Bool.eq_iff_iff]; simp

set_option maxRecDepth 100000 in
set_option maxHeartbeats 2000000 in
theorem inoT (t : Tx) (ra wa : Option Addr) (rc wc : Nat) (w : World) : Calls Tryz.prog 61 #[.agg #[.int .i64 t.id, .int .i64 t.st, .int .i64 t.snap, .int .i64 t.cs, .slice ra t.rs.length rc, .slice wa t.ws.length wc, .bool t.out, .string t.nm]] w fun e w' => e = .returned (.bool (noT t)) ∧ Below w.heap.size w w' := by
 by_cases c0 : t.id = 0
 rotate_left
 ·have d0 : (t.id == 0) = false := by simp [c0]
  have f0 : (t.id != 0) = true := by simp [c0]
  have HN : Hid (noT t = false) := by show _ = _; unfold noT; simp [c0]
  clear c0
  go_enter Tryz.func61, Tryz.ntmps61
  go_wp2
  go_ret
  exact ⟨ret_bool HN.out.symm, (belowRefl w).alloc (Nat.le_refl _) _⟩
 have d0 : (t.id == 0) = true := by simp [c0]
 have f0 : (t.id != 0) = false := by simp [c0]
 by_cases c1 : t.st = 0
 rotate_left
 ·have d1 : (t.st == 0) = false := by simp [c1]
  have f1 : (t.st != 0) = true := by simp [c1]
  have HN : Hid (noT t = false) := by show _ = _; unfold noT; simp [c0, c1]
  clear c0 c1
  go_enter Tryz.func61, Tryz.ntmps61
  go_wp2
  go_ret
  exact ⟨ret_bool HN.out.symm, (belowRefl w).alloc (Nat.le_refl _) _⟩
 have d1 : (t.st == 0) = true := by simp [c1]
 have f1 : (t.st != 0) = false := by simp [c1]
 by_cases c2 : t.snap = 0
 rotate_left
 ·have d2 : (t.snap == 0) = false := by simp [c2]
  have f2 : (t.snap != 0) = true := by simp [c2]
  have HN : Hid (noT t = false) := by show _ = _; unfold noT; simp [c0, c1, c2]
  clear c0 c1 c2
  go_enter Tryz.func61, Tryz.ntmps61
  go_wp2
  go_ret
  exact ⟨ret_bool HN.out.symm, (belowRefl w).alloc (Nat.le_refl _) _⟩
 have d2 : (t.snap == 0) = true := by simp [c2]
 have f2 : (t.snap != 0) = false := by simp [c2]
 by_cases c3 : t.cs = 0
 rotate_left
 ·have d3 : (t.cs == 0) = false := by simp [c3]
  have f3 : (t.cs != 0) = true := by simp [c3]
  have HN : Hid (noT t = false) := by show _ = _; unfold noT; simp [c0, c1, c2, c3]
  clear c0 c1 c2 c3
  go_enter Tryz.func61, Tryz.ntmps61
  go_wp2
  go_ret
  exact ⟨ret_bool HN.out.symm, (belowRefl w).alloc (Nat.le_refl _) _⟩
 have d3 : (t.cs == 0) = true := by simp [c3]
 have f3 : (t.cs != 0) = false := by simp [c3]
 cases h4 : t.out
 rotate_left
 ·have HN : Hid (noT t = false) := by show _ = _; unfold noT; simp [c0, c1, c2, c3, h4]
  clear c0 c1 c2 c3
  go_enter Tryz.func61, Tryz.ntmps61
  go_wp2
  go_ret
  exact ⟨ret_bool HN.out.symm, (belowRefl w).alloc (Nat.le_refl _) _⟩
 cases h5 : t.nm.toList.isEmpty
 ·have HN : Hid (noT t = false) := by show _ = _; unfold noT; simp [c0, c1, c2, c3, h4, h5]
  clear c0 c1 c2 c3
  go_enter Tryz.func61, Tryz.ntmps61
  go_wp2
  go_ret
  exact ⟨ret_bool HN.out.symm, (belowRefl w).alloc (Nat.le_refl _) _⟩
 by_cases c6 : t.rs.length = 0
 rotate_left
 ·have d6 : ((t.rs.length : Int) == 0) = false := by simp [c6]
  have HN : Hid (noT t = false) := by show _ = _; unfold noT; simp [c0, c1, c2, c3, h4, h5, c6]
  clear c0 c1 c2 c3 c6
  go_enter Tryz.func61, Tryz.ntmps61
  go_wp2
  go_ret
  exact ⟨ret_bool HN.out.symm, (belowRefl w).alloc (Nat.le_refl _) _⟩
 have d6 : ((t.rs.length : Int) == 0) = true := by simp [c6]
 by_cases c7 : t.ws.length = 0
 rotate_left
 ·have d7 : ((t.ws.length : Int) == 0) = false := by simp [c7]
  have HN : Hid (noT t = false) := by show _ = _; unfold noT; simp [c0, c1, c2, c3, h4, h5, c6, c7]
  clear c0 c1 c2 c3 c6 c7
  go_enter Tryz.func61, Tryz.ntmps61
  go_wp2
  go_ret
  exact ⟨ret_bool HN.out.symm, (belowRefl w).alloc (Nat.le_refl _) _⟩
 have d7 : ((t.ws.length : Int) == 0) = true := by simp [c7]
 have HN : Hid (noT t = true) := by show _ = _; unfold noT; simp [c0, c1, c2, c3, h4, h5, c6, c7]
 clear c0 c1 c2 c3 c6 c7
 go_enter Tryz.func61, Tryz.ntmps61
 go_wp2
 go_ret
 exact ⟨ret_bool HN.out.symm, (belowRefl w).alloc (Nat.le_refl _) _⟩

set_option maxRecDepth 100000 in
set_option maxHeartbeats 2000000 in
theorem snoT (t : Tx) (ra wa : Option Addr) (rc wc : Nat) (w : World) : Calls Tryz.prog 49 #[.agg #[.int .i64 t.id, .int .i64 t.st, .int .i64 t.snap, .int .i64 t.cs, .slice ra t.rs.length rc, .slice wa t.ws.length wc, .bool t.out, .string t.nm]] w fun e w' => e = .returned (.bool (noT t)) ∧ Below w.heap.size w w' := by
 by_cases c0 : t.id = 0
 rotate_left
 ·have d0 : (t.id == 0) = false := by simp [c0]
  have f0 : (t.id != 0) = true := by simp [c0]
  have HN : Hid (noT t = false) := by show _ = _; unfold noT; simp [c0]
  clear c0
  go_enter Tryz.func49, Tryz.ntmps49
  go_wp2
  go_ret
  exact ⟨ret_bool HN.out.symm, (belowRefl w).alloc (Nat.le_refl _) _⟩
 have d0 : (t.id == 0) = true := by simp [c0]
 have f0 : (t.id != 0) = false := by simp [c0]
 by_cases c1 : t.st = 0
 rotate_left
 ·have d1 : (t.st == 0) = false := by simp [c1]
  have f1 : (t.st != 0) = true := by simp [c1]
  have HN : Hid (noT t = false) := by show _ = _; unfold noT; simp [c0, c1]
  clear c0 c1
  go_enter Tryz.func49, Tryz.ntmps49
  go_wp2
  go_ret
  exact ⟨ret_bool HN.out.symm, (belowRefl w).alloc (Nat.le_refl _) _⟩
 have d1 : (t.st == 0) = true := by simp [c1]
 have f1 : (t.st != 0) = false := by simp [c1]
 by_cases c2 : t.snap = 0
 rotate_left
 ·have d2 : (t.snap == 0) = false := by simp [c2]
  have f2 : (t.snap != 0) = true := by simp [c2]
  have HN : Hid (noT t = false) := by show _ = _; unfold noT; simp [c0, c1, c2]
  clear c0 c1 c2
  go_enter Tryz.func49, Tryz.ntmps49
  go_wp2
  go_ret
  exact ⟨ret_bool HN.out.symm, (belowRefl w).alloc (Nat.le_refl _) _⟩
 have d2 : (t.snap == 0) = true := by simp [c2]
 have f2 : (t.snap != 0) = false := by simp [c2]
 by_cases c3 : t.cs = 0
 rotate_left
 ·have d3 : (t.cs == 0) = false := by simp [c3]
  have f3 : (t.cs != 0) = true := by simp [c3]
  have HN : Hid (noT t = false) := by show _ = _; unfold noT; simp [c0, c1, c2, c3]
  clear c0 c1 c2 c3
  go_enter Tryz.func49, Tryz.ntmps49
  go_wp2
  go_ret
  exact ⟨ret_bool HN.out.symm, (belowRefl w).alloc (Nat.le_refl _) _⟩
 have d3 : (t.cs == 0) = true := by simp [c3]
 have f3 : (t.cs != 0) = false := by simp [c3]
 by_cases c4 : t.rs.length = 0
 rotate_left
 ·have d4 : ((t.rs.length : Int) == 0) = false := by simp [c4]
  have HN : Hid (noT t = false) := by show _ = _; unfold noT; simp [c0, c1, c2, c3, c4]
  clear c0 c1 c2 c3 c4
  go_enter Tryz.func49, Tryz.ntmps49
  go_wp2
  go_ret
  exact ⟨ret_bool HN.out.symm, (belowRefl w).alloc (Nat.le_refl _) _⟩
 have d4 : ((t.rs.length : Int) == 0) = true := by simp [c4]
 by_cases c5 : t.ws.length = 0
 rotate_left
 ·have d5 : ((t.ws.length : Int) == 0) = false := by simp [c5]
  have HN : Hid (noT t = false) := by show _ = _; unfold noT; simp [c0, c1, c2, c3, c4, c5]
  clear c0 c1 c2 c3 c4 c5
  go_enter Tryz.func49, Tryz.ntmps49
  go_wp2
  go_ret
  exact ⟨ret_bool HN.out.symm, (belowRefl w).alloc (Nat.le_refl _) _⟩
 have d5 : ((t.ws.length : Int) == 0) = true := by simp [c5]
 cases h6 : t.out
 rotate_left
 ·have HN : Hid (noT t = false) := by show _ = _; unfold noT; simp [c0, c1, c2, c3, c4, c5, h6]
  clear c0 c1 c2 c3 c4 c5
  go_enter Tryz.func49, Tryz.ntmps49
  go_wp2
  go_ret
  exact ⟨ret_bool HN.out.symm, (belowRefl w).alloc (Nat.le_refl _) _⟩
 cases h7 : t.nm.toList.isEmpty
 ·have HN : Hid (noT t = false) := by show _ = _; unfold noT; simp [c0, c1, c2, c3, c4, c5, h6, h7]
  clear c0 c1 c2 c3 c4 c5
  go_enter Tryz.func49, Tryz.ntmps49
  go_wp2
  go_ret
  exact ⟨ret_bool HN.out.symm, (belowRefl w).alloc (Nat.le_refl _) _⟩
 have HN : Hid (noT t = true) := by show _ = _; unfold noT; simp [c0, c1, c2, c3, c4, c5, h6, h7]
 clear c0 c1 c2 c3 c4 c5
 go_enter Tryz.func49, Tryz.ntmps49
 go_wp2
 go_ret
 exact ⟨ret_bool HN.out.symm, (belowRefl w).alloc (Nat.le_refl _) _⟩

set_option maxRecDepth 100000 in
set_option maxHeartbeats 2000000 in
theorem inoB (b : Bb) (w : World) : Calls Tryz.prog 62 #[.agg #[.slice b.va b.vs.length b.vc, .slice b.pa b.ps.length b.pc, .slice b.qa b.qs.length b.qc, .int .i64 b.cs, .int .i64 b.nx]] w fun e w' => e = .returned (.bool (noB b)) ∧ Below w.heap.size w w' := by
 by_cases c0 : b.vs.length = 0
 rotate_left
 ·have d0 : ((b.vs.length : Int) == 0) = false := by simp [c0]
  have HN : Hid (noB b = false) := by show _ = _; unfold noB; simp [c0]
  clear c0
  go_enter Tryz.func62, Tryz.ntmps62
  go_wp2
  go_ret
  exact ⟨ret_bool HN.out.symm, (belowRefl w).alloc (Nat.le_refl _) _⟩
 have d0 : ((b.vs.length : Int) == 0) = true := by simp [c0]
 by_cases c1 : b.ps.length = 0
 rotate_left
 ·have d1 : ((b.ps.length : Int) == 0) = false := by simp [c1]
  have HN : Hid (noB b = false) := by show _ = _; unfold noB; simp [c0, c1]
  clear c0 c1
  go_enter Tryz.func62, Tryz.ntmps62
  go_wp2
  go_ret
  exact ⟨ret_bool HN.out.symm, (belowRefl w).alloc (Nat.le_refl _) _⟩
 have d1 : ((b.ps.length : Int) == 0) = true := by simp [c1]
 by_cases c2 : b.qs.length = 0
 rotate_left
 ·have d2 : ((b.qs.length : Int) == 0) = false := by simp [c2]
  have HN : Hid (noB b = false) := by show _ = _; unfold noB; simp [c0, c1, c2]
  clear c0 c1 c2
  go_enter Tryz.func62, Tryz.ntmps62
  go_wp2
  go_ret
  exact ⟨ret_bool HN.out.symm, (belowRefl w).alloc (Nat.le_refl _) _⟩
 have d2 : ((b.qs.length : Int) == 0) = true := by simp [c2]
 by_cases c3 : b.cs = 0
 rotate_left
 ·have d3 : (b.cs == 0) = false := by simp [c3]
  have f3 : (b.cs != 0) = true := by simp [c3]
  have HN : Hid (noB b = false) := by show _ = _; unfold noB; simp [c0, c1, c2, c3]
  clear c0 c1 c2 c3
  go_enter Tryz.func62, Tryz.ntmps62
  go_wp2
  go_ret
  exact ⟨ret_bool HN.out.symm, (belowRefl w).alloc (Nat.le_refl _) _⟩
 have d3 : (b.cs == 0) = true := by simp [c3]
 have f3 : (b.cs != 0) = false := by simp [c3]
 by_cases c4 : b.nx = 0
 rotate_left
 ·have d4 : (b.nx == 0) = false := by simp [c4]
  have f4 : (b.nx != 0) = true := by simp [c4]
  have HN : Hid (noB b = false) := by show _ = _; unfold noB; simp [c0, c1, c2, c3, c4]
  clear c0 c1 c2 c3 c4
  go_enter Tryz.func62, Tryz.ntmps62
  go_wp2
  go_ret
  exact ⟨ret_bool HN.out.symm, (belowRefl w).alloc (Nat.le_refl _) _⟩
 have d4 : (b.nx == 0) = true := by simp [c4]
 have f4 : (b.nx != 0) = false := by simp [c4]
 have HN : Hid (noB b = true) := by show _ = _; unfold noB; simp [c0, c1, c2, c3, c4]
 clear c0 c1 c2 c3 c4
 go_enter Tryz.func62, Tryz.ntmps62
 go_wp2
 go_ret
 exact ⟨ret_bool HN.out.symm, (belowRefl w).alloc (Nat.le_refl _) _⟩

set_option maxRecDepth 100000 in
set_option maxHeartbeats 2000000 in
theorem snoB (b : Bb) (w : World) : Calls Tryz.prog 52 #[.agg #[.slice b.va b.vs.length b.vc, .slice b.pa b.ps.length b.pc, .slice b.qa b.qs.length b.qc, .int .i64 b.cs, .int .i64 b.nx]] w fun e w' => e = .returned (.bool (noB b)) ∧ Below w.heap.size w w' := by
 by_cases c0 : b.cs = 0
 rotate_left
 ·have d0 : (b.cs == 0) = false := by simp [c0]
  have f0 : (b.cs != 0) = true := by simp [c0]
  have HN : Hid (noB b = false) := by show _ = _; unfold noB; simp [c0]
  clear c0
  go_enter Tryz.func52, Tryz.ntmps52
  go_wp2
  go_ret
  exact ⟨ret_bool HN.out.symm, (belowRefl w).alloc (Nat.le_refl _) _⟩
 have d0 : (b.cs == 0) = true := by simp [c0]
 have f0 : (b.cs != 0) = false := by simp [c0]
 by_cases c1 : b.nx = 0
 rotate_left
 ·have d1 : (b.nx == 0) = false := by simp [c1]
  have f1 : (b.nx != 0) = true := by simp [c1]
  have HN : Hid (noB b = false) := by show _ = _; unfold noB; simp [c0, c1]
  clear c0 c1
  go_enter Tryz.func52, Tryz.ntmps52
  go_wp2
  go_ret
  exact ⟨ret_bool HN.out.symm, (belowRefl w).alloc (Nat.le_refl _) _⟩
 have d1 : (b.nx == 0) = true := by simp [c1]
 have f1 : (b.nx != 0) = false := by simp [c1]
 by_cases c2 : b.vs.length = 0
 rotate_left
 ·have d2 : ((b.vs.length : Int) == 0) = false := by simp [c2]
  have HN : Hid (noB b = false) := by show _ = _; unfold noB; simp [c0, c1, c2]
  clear c0 c1 c2
  go_enter Tryz.func52, Tryz.ntmps52
  go_wp2
  go_ret
  exact ⟨ret_bool HN.out.symm, (belowRefl w).alloc (Nat.le_refl _) _⟩
 have d2 : ((b.vs.length : Int) == 0) = true := by simp [c2]
 by_cases c3 : b.ps.length = 0
 rotate_left
 ·have d3 : ((b.ps.length : Int) == 0) = false := by simp [c3]
  have HN : Hid (noB b = false) := by show _ = _; unfold noB; simp [c0, c1, c2, c3]
  clear c0 c1 c2 c3
  go_enter Tryz.func52, Tryz.ntmps52
  go_wp2
  go_ret
  exact ⟨ret_bool HN.out.symm, (belowRefl w).alloc (Nat.le_refl _) _⟩
 have d3 : ((b.ps.length : Int) == 0) = true := by simp [c3]
 by_cases c4 : b.qs.length = 0
 rotate_left
 ·have d4 : ((b.qs.length : Int) == 0) = false := by simp [c4]
  have HN : Hid (noB b = false) := by show _ = _; unfold noB; simp [c0, c1, c2, c3, c4]
  clear c0 c1 c2 c3 c4
  go_enter Tryz.func52, Tryz.ntmps52
  go_wp2
  go_ret
  exact ⟨ret_bool HN.out.symm, (belowRefl w).alloc (Nat.le_refl _) _⟩
 have d4 : ((b.qs.length : Int) == 0) = true := by simp [c4]
 have HN : Hid (noB b = true) := by show _ = _; unfold noB; simp [c0, c1, c2, c3, c4]
 clear c0 c1 c2 c3 c4
 go_enter Tryz.func52, Tryz.ntmps52
 go_wp2
 go_ret
 exact ⟨ret_bool HN.out.symm, (belowRefl w).alloc (Nat.le_refl _) _⟩

end Go.Proofs.YtpnnncfbodfnhaaGreatDoor

namespace Go.Proofs.YtpnnncfbodfnhaaGreatDoor
open Go.RowKit
open KM
attribute [local go_sem ↓] Go.wp_at_zero Go.wp_at_succ

theorem wpAppK {ops : Array Oper} {rest : List Oper} {o : Oper} {a : Act} {Q : Exit → Act → World → Prop} {α : Type} {E : Enc α} (T e bytes : Nat) (z : Value) (hT : Tryz.prog.underlying T = some (.slice e))
  (hinfo : (Tryz.prog.info? e).map (fun i => (i.zero, i.size, i.bytes)) = some (some z, E.size, bytes)) (hzs : z.cells.size = E.size) (hby : bytes ≤ 128)
  (hgd : o.guard = none) (s x : Operand) (ho : o.op = .call { callee := .builtin .append, args := #[s, x], argTypes := #[T, T] })
  {W : World} {base g : Nat} {v : Value} {xs : List α} (y : α) (h1 : ∀ u ∈ E.enc y, u.oneCell' = true)
  (hs : a.eval s = v) (hown : GOwn E e W base v xs) (hx : a.eval x = .slice (some ⟨g, 0, none⟩) 1 1) (hblk : W.heap[g]? = some (.cells (E.enc y).toArray e (0, 0)))
  (hlen : xs.length ≤ 100000000) (hB : base ≤ W.heap.size)
  (h : ∀ g' cap w', GOwn E e w' base (.slice (some ⟨g', 0, none⟩) (xs.length + 1) cap) (xs ++ [y]) → W.grownBy w' v.ownBlock → (v.ownBlock = some g' ∨ g' = W.heap.size) → g' < w'.heap.size → wpList Tryz.prog ops Q rest (a.put o.dst (.slice (some ⟨g', 0, none⟩) (xs.length + 1) cap)) w') :
  wpList Tryz.prog ops Q (o :: rest) a W := by
 obtain ⟨i0, hi, hz0, hz1, hz2⟩ := info_parts hinfo
 refine wpList_append_lies _ hgd s x T ho base e i0 z E.size bytes hT hi hz0 hz1 hz2 hzs E.pos v xs.length (E.cells xs) hs hown ⟨g, 0, none⟩ 1 1 (E.enc y) hx (by rw [E.len, Nat.one_mul]) ?_ h1 (by omega) (by unfold maxLen; omega) ?_ hB _ rfl ?_
 ·intro j u hj
  rw [Addr.add_lit, Nat.zero_add, World.cell?, hblk]
  simpa using hj
 ·calc (xs.length + 1) * bytes ≤ 100000001 * 128 := Nat.mul_le_mul (by omega) hby
   _ ≤ _ := by omega
 ·intro g' cap w' k1 k2 k3 k4
  refine h g' cap w' ?_ k2 k3 k4
  have e : E.cells (xs ++ [y]) = E.cells xs ++ E.enc y := by rw [E.cells_app]; simp [Enc.cells]
  unfold GOwn
  rw [e, List.length_append]
  exact k1
theorem Lies.marked2 {α : Type} {E : Enc α} {e : TypeId} {w w' : World} {lo hi : Nat} {v : Value} {row : Option Nat} {xs : List α} (h : Lies E e w lo hi v xs) (hg : w.grownBy w' row) (hne : ∀ g, row = some g → g < lo ∨ hi ≤ g) : Lies E e w' lo hi v xs := by
 refine ⟨?_, h.up⟩
 obtain ⟨h1, h2⟩ := h.own
 refine ⟨h1, ?_⟩
 rcases h2 with h2 | ⟨g, cap, cur, hv, hg', hh, r⟩
 ·exact Or.inl h2
 ·refine Or.inr ⟨g, cap, cur, hv, hg', ?_, r⟩
  have hlt : g < w.heap.size := (Array.getElem?_eq_some_iff.1 hh).1
  have hup := h.up g (by rw [hv]; rfl)
  rw [hg.block g hlt (fun e => by have := hne g e.symm; omega)]
  exact hh

end Go.Proofs.YtpnnncfbodfnhaaGreatDoor

namespace Go.Proofs.YtpnnncfbodfnhaaGreatDoor
open Go.RowKit
open KM
attribute [local go_sem ↓] Go.wp_at_zero Go.wp_at_succ

theorem bx_low {w w' : World} {b base : Nat} {cs : List Value} (h : Bx w b cs) (hb : Below base w w') (hl : b < base) : Bx w' b cs :=
 ⟨Nat.lt_of_lt_of_le h.lt hb.size, fun j hj => (hb.cell (p := ⟨b, j, none⟩) hl).trans (h.at' j hj), fun j => (hb.frozen (p := ⟨b, j, none⟩) hl).trans (h.fz j)⟩
theorem oneS' {y : ByteArray} : ∀ u ∈ encS.enc y, u.oneCell' = true := by
 intro u hu
 simp only [encS, List.mem_cons, List.not_mem_nil, or_false] at hu
 rw [hu]; rfl
def AscI (zs : List Int) (k : Nat) : Prop := ∀ j (h : j < zs.length), j < k → ∀ (_ : 0 < j), zs[j - 1]'(by omega) < zs[j]
def ascIB (zs : List Int) : Bool := decide (∀ j (h : j < zs.length), ∀ (_ : 0 < j), zs[j - 1]'(by omega) < zs[j])
def AscS (zs : List ByteArray) (k : Nat) : Prop := ∀ j (h : j < zs.length), j < k → ∀ (_ : 0 < j), Op.bytesLess (zs[j - 1]'(by omega)).toList zs[j].toList = true
def ascSB (zs : List ByteArray) : Bool := decide (∀ j (h : j < zs.length), ∀ (_ : 0 < j), Op.bytesLess (zs[j - 1]'(by omega)).toList zs[j].toList = true)
theorem ascI_all {zs : List Int} {k : Nat} (h : AscI zs k) (hk : zs.length ≤ k) : ascIB zs = true := decide_eq_true fun j hj h0 => h j hj (by omega) h0
theorem ascI_no {zs : List Int} (k : Nat) (hk : k < zs.length) (h0 : 0 < k) (h : ¬ zs[k - 1]'(by omega) < zs[k]) : ascIB zs = false := decide_eq_false fun g => h (g k hk h0)
theorem ascI_more {zs : List Int} {k : Nat} (h : AscI zs k) (hk : k < zs.length) (h2 : ∀ (_ : 0 < k), zs[k - 1]'(by omega) < zs[k]) : AscI zs (k + 1) := fun j hj hlt h0 => by
 by_cases e : j = k
 ·subst e; exact h2 h0
 ·exact h j hj (by omega) h0
theorem ascS_all {zs : List ByteArray} {k : Nat} (h : AscS zs k) (hk : zs.length ≤ k) : ascSB zs = true := decide_eq_true fun j hj h0 => h j hj (by omega) h0
theorem ascS_no {zs : List ByteArray} (k : Nat) (hk : k < zs.length) (h0 : 0 < k) (h : ¬ Op.bytesLess (zs[k - 1]'(by omega)).toList zs[k].toList = true) : ascSB zs = false := decide_eq_false fun g => h (g k hk h0)
theorem ascS_more {zs : List ByteArray} {k : Nat} (h : AscS zs k) (hk : k < zs.length) (h2 : ∀ (_ : 0 < k), Op.bytesLess (zs[k - 1]'(by omega)).toList zs[k].toList = true) : AscS zs (k + 1) := fun j hj hlt h0 => by
 by_cases e : j = k
 ·subst e; exact h2 h0
 ·exact h j hj (by omega) h0

set_option maxRecDepth 100000 in
set_option maxHeartbeats 2000000 in
theorem by17 (a : Option Addr) (c n : Nat) (w : World) : Calls Tryz.prog 123 #[.slice a n c] w fun e w' => e = .returned (.agg #[.slice a n c, .func (.func 134) #[] #[]]) ∧ Below w.heap.size w w' := by
 go_enter Tryz.func123, Tryz.ntmps123
 go_wp2
 refine bodyPost_ret (v := .agg #[.slice a n c, .func (.func 134) #[] #[]]) (by simp [results, Tryz.results123, go_sem]) rfl ⟨rfl, ?_⟩
 exact (belowRefl w).alloc (Nat.le_refl _) _

set_option maxRecDepth 100000 in
set_option maxHeartbeats 2000000 in
theorem by35 (a : Option Addr) (c n : Nat) (w : World) : Calls Tryz.prog 136 #[.slice a n c] w fun e w' => e = .returned (.agg #[.slice a n c, .func (.func 151) #[] #[]]) ∧ Below w.heap.size w w' := by
 go_enter Tryz.func136, Tryz.ntmps136
 go_wp2
 refine bodyPost_ret (v := .agg #[.slice a n c, .func (.func 151) #[] #[]]) (by simp [results, Tryz.results136, go_sem]) rfl ⟨rfl, ?_⟩
 exact (belowRefl w).alloc (Nat.le_refl _) _

set_option maxRecDepth 100000 in
set_option maxHeartbeats 2000000 in
theorem by41 (a : Option Addr) (c n : Nat) (w : World) : Calls Tryz.prog 142 #[.slice a n c] w fun e w' => e = .returned (.agg #[.slice a n c, .func (.func 158) #[] #[]]) ∧ Below w.heap.size w w' := by
 go_enter Tryz.func142, Tryz.ntmps142
 go_wp2
 refine bodyPost_ret (v := .agg #[.slice a n c, .func (.func 158) #[] #[]]) (by simp [results, Tryz.results142, go_sem]) rfl ⟨rfl, ?_⟩
 exact (belowRefl w).alloc (Nat.le_refl _) _

set_option maxRecDepth 100000 in
set_option maxHeartbeats 2000000 in
theorem by42 (a : Option Addr) (c n : Nat) (w : World) : Calls Tryz.prog 143 #[.slice a n c] w fun e w' => e = .returned (.agg #[.slice a n c, .func (.func 159) #[] #[]]) ∧ Below w.heap.size w w' := by
 go_enter Tryz.func143, Tryz.ntmps143
 go_wp2
 refine bodyPost_ret (v := .agg #[.slice a n c, .func (.func 159) #[] #[]]) (by simp [results, Tryz.results143, go_sem]) rfl ⟨rfl, ?_⟩
 exact (belowRefl w).alloc (Nat.le_refl _) _

set_option maxRecDepth 100000 in
set_option maxHeartbeats 2000000 in
theorem by39 (a : Option Addr) (c n : Nat) (w : World) : Calls Tryz.prog 140 #[.slice a n c] w fun e w' => e = .returned (.agg #[.slice a n c, .func (.func 155) #[] #[]]) ∧ Below w.heap.size w w' := by
 go_enter Tryz.func140, Tryz.ntmps140
 go_wp2
 refine bodyPost_ret (v := .agg #[.slice a n c, .func (.func 155) #[] #[]]) (by simp [results, Tryz.results140, go_sem]) rfl ⟨rfl, ?_⟩
 exact (belowRefl w).alloc (Nat.le_refl _) _

set_option maxRecDepth 100000 in
set_option maxHeartbeats 2000000 in
theorem key33 (x : Vr) (w : World) : Calls Tryz.prog 134 #[.agg #[.string x.1, .string x.2.1, .bool x.2.2.1, .int .i64 x.2.2.2]] w fun e w' => e = .returned (.int .i64 x.2.2.2) ∧ Below w.heap.size w w' := by
 have HB : Hid (Below w.heap.size w (w.alloc (.cells #[.string x.1, .string x.2.1, .bool x.2.2.1, .int .i64 x.2.2.2] 106))) := (belowRefl w).alloc (Nat.le_refl _) _
 go_enter Tryz.func134, Tryz.ntmps134
 go_wp2
 go_ret
 exact ⟨rfl, HB.out⟩

set_option maxRecDepth 100000 in
set_option maxHeartbeats 2000000 in
theorem key58 (x : Ta) (w : World) : Calls Tryz.prog 151 #[.agg #[.int .i64 x.t.id, .int .i64 x.t.st, .int .i64 x.t.snap, .int .i64 x.t.cs, .slice x.ra x.t.rs.length x.rc, .slice x.wa x.t.ws.length x.wc, .bool x.t.out, .string x.t.nm]] w fun e w' => e = .returned (.int .i64 x.t.cs) ∧ Below w.heap.size w w' := by
 have HB : Hid (Below w.heap.size w (w.alloc (.cells #[.int .i64 x.t.id, .int .i64 x.t.st, .int .i64 x.t.snap, .int .i64 x.t.cs, .slice x.ra x.t.rs.length x.rc, .slice x.wa x.t.ws.length x.wc, .bool x.t.out, .string x.t.nm] 38))) := (belowRefl w).alloc (Nat.le_refl _) _
 go_enter Tryz.func151, Tryz.ntmps151
 go_wp2
 go_ret
 exact ⟨rfl, HB.out⟩

set_option maxRecDepth 100000 in
set_option maxHeartbeats 2000000 in
theorem key66 (x : Ta) (w : World) : Calls Tryz.prog 158 #[.agg #[.int .i64 x.t.id, .int .i64 x.t.st, .int .i64 x.t.snap, .int .i64 x.t.cs, .slice x.ra x.t.rs.length x.rc, .slice x.wa x.t.ws.length x.wc, .bool x.t.out, .string x.t.nm]] w fun e w' => e = .returned (.int .i64 x.t.snap) ∧ Below w.heap.size w w' := by
 have HB : Hid (Below w.heap.size w (w.alloc (.cells #[.int .i64 x.t.id, .int .i64 x.t.st, .int .i64 x.t.snap, .int .i64 x.t.cs, .slice x.ra x.t.rs.length x.rc, .slice x.wa x.t.ws.length x.wc, .bool x.t.out, .string x.t.nm] 38))) := (belowRefl w).alloc (Nat.le_refl _) _
 go_enter Tryz.func158, Tryz.ntmps158
 go_wp2
 go_ret
 exact ⟨rfl, HB.out⟩

set_option maxRecDepth 100000 in
set_option maxHeartbeats 2000000 in
theorem key67 (x : Ta) (w : World) : Calls Tryz.prog 159 #[.agg #[.int .i64 x.t.id, .int .i64 x.t.st, .int .i64 x.t.snap, .int .i64 x.t.cs, .slice x.ra x.t.rs.length x.rc, .slice x.wa x.t.ws.length x.wc, .bool x.t.out, .string x.t.nm]] w fun e w' => e = .returned (.int .i64 x.t.id) ∧ Below w.heap.size w w' := by
 have HB : Hid (Below w.heap.size w (w.alloc (.cells #[.int .i64 x.t.id, .int .i64 x.t.st, .int .i64 x.t.snap, .int .i64 x.t.cs, .slice x.ra x.t.rs.length x.rc, .slice x.wa x.t.ws.length x.wc, .bool x.t.out, .string x.t.nm] 38))) := (belowRefl w).alloc (Nat.le_refl _) _
 go_enter Tryz.func159, Tryz.ntmps159
 go_wp2
 go_ret
 exact ⟨rfl, HB.out⟩

set_option maxRecDepth 100000 in
set_option maxHeartbeats 2000000 in
theorem key63 (x : Ta) (w : World) : Calls Tryz.prog 155 #[.agg #[.int .i64 x.t.id, .int .i64 x.t.st, .int .i64 x.t.snap, .int .i64 x.t.cs, .slice x.ra x.t.rs.length x.rc, .slice x.wa x.t.ws.length x.wc, .bool x.t.out, .string x.t.nm]] w fun e w' => e = .returned (.string x.t.nm) ∧ Below w.heap.size w w' := by
 have HB : Hid (Below w.heap.size w (w.alloc (.cells #[.int .i64 x.t.id, .int .i64 x.t.st, .int .i64 x.t.snap, .int .i64 x.t.cs, .slice x.ra x.t.rs.length x.rc, .slice x.wa x.t.ws.length x.wc, .bool x.t.out, .string x.t.nm] 38))) := (belowRefl w).alloc (Nat.le_refl _) _
 go_enter Tryz.func155, Tryz.ntmps155
 go_wp2
 go_ret
 exact ⟨rfl, HB.out⟩

set_option maxRecDepth 100000 in
set_option maxHeartbeats 2000000 in
theorem keys58 (xs : List Ta) (a : Option Addr) (c n : Nat) (hx : n = xs.length) (hn : n ≤ 10000000) (w : World) (hp : TRows w a xs) :
  Calls Tryz.prog 153 #[.agg #[.slice a n c, .func (.func 151) #[] #[]]] w fun e w' => ∃ (a1 : Option Addr) (c1 : Nat), e = .returned (.slice a1 n c1) ∧ GOwn encI 3 w' (w.heap.size + 1) (.slice a1 n c1) (xs.map fun x : Ta => x.t.cs) ∧ Below w.heap.size w w' := by
 have BA0 : Hid (Bx (w.alloc (.cells #[.slice a n c, .func (.func 151) #[] #[]] 189)) w.heap.size [.slice a n c, .func (.func 151) #[] #[]]) := Bx.new w [.slice a n c, .func (.func 151) #[] #[]] 189
 have HB0 : Hid (Below w.heap.size w (w.alloc (.cells #[.slice a n c, .func (.func 151) #[] #[]] 189))) := (belowRefl w).alloc (Nat.le_refl _) _
 have HP : Hid (TRows w a xs) := hp
 have HX : Hid (n = xs.length) := hx
 clear hp hx
 go_enter Tryz.func153, Tryz.ntmps153
 go_upto_region 1 with fail
 generalize (w.alloc (.cells #[.slice a n c, .func (.func 151) #[] #[]] 189)) = w0 at *
 have x0 := BA0.out.c0
 go_wp2
 go_loopw [3, 9] (fun v t wr => ∃ k : Nat, k ≤ n ∧ t = .int .i64 k ∧ Hid (GOwn encI 3 wr (w.heap.size + 1) v ((xs.take k).map fun x : Ta => x.t.cs)) ∧ Hid (Below w.heap.size w wr) ∧ Hid (Bx wr w.heap.size [.slice a n c, .func (.func 151) #[] #[]])) (fun _ t _ => n - (intOf t).toNat)
 case atStart => exact ⟨0, Nat.zero_le _, rfl, GOwn.nil _ _, HB0, BA0⟩
 case round =>
  clear BA0 HB0 x0
  obtain ⟨k, hk, rfl, HO, HB, BA⟩ := hrel
  by_cases hlt : k < n
  ·have hlt' : (k : Int) < (n : Int) := by omega
   have h0 : (0 : Int) ≤ (k : Int) := by omega
   have hkx : k < xs.length := by rw [← HX.out]; exact hlt
   obtain ⟨b, o, rfl, hbl, hc, -⟩ := (HP.out.below HB.out).cls k hkx
   have HNX : Hid (((xs.take (k + 1)).map fun x : Ta => x.t.cs) = ((xs.take k).map fun x : Ta => x.t.cs) ++ [xs[k].t.cs]) := by
    show _ = _
    rw [List.take_add_one, List.getElem?_eq_getElem hkx, List.map_append]
    rfl
   have HLn : Hid (((xs.take k).map fun x : Ta => x.t.cs).length ≤ 100000000) := by show _ ≤ _; rw [List.length_map]; exact Nat.le_trans (List.length_take_le _ _) (by omega)
   obtain ⟨x, hx⟩ : ∃ x, x = xs[k] := ⟨_, rfl⟩
   rw [← hx] at hc HNX
   clear hx hkx
   have r0 := hc.c0
   have r1 := hc.c1
   have r2 := hc.c2
   have r3 := hc.c3
   have r4 := hc.c4
   have r5 := hc.c5
   have r6 := hc.c6
   have r7 := hc.c7
   clear hc
   obtain ⟨F, hF⟩ : ∃ F, F = ((xs.take k).map fun x : Ta => x.t.cs) := ⟨_, rfl⟩
   rw [← hF] at HO HNX HLn
   clear hF
   have hln := HLn.out
   have HB1 : Hid (Below w.heap.size w (wr.alloc (.cells #[.int .i64 x.t.id, .int .i64 x.t.st, .int .i64 x.t.snap, .int .i64 x.t.cs, .slice x.ra x.t.rs.length x.rc, .slice x.wa x.t.ws.length x.wc, .bool x.t.out, .string x.t.nm] 38))) := HB.out.alloc HB.out.size _
   have BX1 := hide (Bx.new wr [.int .i64 x.t.id, .int .i64 x.t.st, .int .i64 x.t.snap, .int .i64 x.t.cs, .slice x.ra x.t.rs.length x.rc, .slice x.wa x.t.ws.length x.wc, .bool x.t.out, .string x.t.nm] 38)
   have BA1 : Hid (Bx (wr.alloc (.cells #[.int .i64 x.t.id, .int .i64 x.t.st, .int .i64 x.t.snap, .int .i64 x.t.cs, .slice x.ra x.t.rs.length x.rc, .slice x.wa x.t.ws.length x.wc, .bool x.t.out, .string x.t.nm] 38)) w.heap.size [.slice (some ⟨b, o, none⟩) n c, .func (.func 151) #[] #[]]) := BA.out.alloc _
   have O1 := hide (HO.out.alloc (.cells #[.int .i64 x.t.id, .int .i64 x.t.st, .int .i64 x.t.snap, .int .i64 x.t.cs, .slice x.ra x.t.rs.length x.rc, .slice x.wa x.t.ws.length x.wc, .bool x.t.out, .string x.t.nm] 38))
   go_upto_region 5 with fail
   clear r0 r1 r2 r3 r4 r5 r6 r7 BA HO HB
   generalize (wr.alloc (.cells #[.int .i64 x.t.id, .int .i64 x.t.st, .int .i64 x.t.snap, .int .i64 x.t.cs, .slice x.ra x.t.rs.length x.rc, .slice x.wa x.t.ws.length x.wc, .bool x.t.out, .string x.t.nm] 38)) = w1 at *
   have y1 := BA1.out.c1
   have x0 := BX1.out.c0
   have x1 := BX1.out.c1
   have x2 := BX1.out.c2
   have x3 := BX1.out.c3
   have x4 := BX1.out.c4
   have x5 := BX1.out.c5
   have x6 := BX1.out.c6
   have x7 := BX1.out.c7
   go_wp2_with fail
   refine (key58 x _).mono ?_
   rintro e w2 ⟨rfl, hb2⟩
   have HB2 := hide (HB1.out.trans (hb2.mono HB1.out.size))
   have O2 := hide (O1.out.below hb2)
   have BA2 := hide (BA1.out.below hb2)
   have hsz2 := BA2.out.lt
   clear hb2 y1 x0 x1 x2 x3 x4 x5 x6 x7
   obtain ⟨yy, hyy⟩ : ∃ yy, yy = x.t.cs := ⟨_, rfl⟩
   rw [← hyy] at HNX ⊢
   clear hyy
   have HBK : Hid ((w2.alloc (.cells #[.int .i64 yy] 3)).heap[w2.heap.size]? = some (.cells (encI.enc yy).toArray 3 (0, 0))) := heap_alloc_new w2 _
   have O2a := hide (O2.out.alloc (.cells #[.int .i64 yy] 3))
   obtain ⟨n0, hn0⟩ : ∃ n0, n0 = F.length := ⟨_, rfl⟩
   go_wp2_with (at_builtin; refine wpAppK (E := encI) 158 3 8 _ Tryz.underlying158 Tryz.info3 rfl (by omega) rfl _ _ rfl yy oneI rfl O2a.out rfl HBK.out hln (by simp; omega) ?_)
   intro g' cap w3 ho3 hg3 hg4 hlt3
   have hb3 : Below (w.heap.size + 1) w2 w3 := ((Below.refl _ _).alloc (Nat.succ_le_of_lt hsz2) _).trans ((Below.refl _ _).grown hg3 (by simp; omega) (fun j hj => (World.ownsRow.lt O2a.out j hj).1))
   have O3 : Hid (GOwn encI 3 w3 (w.heap.size + 1) (.slice (some ⟨g', 0, none⟩) (F.length + 1) cap) (F ++ [yy])) := ho3
   have HB3 : Hid (Below w.heap.size w w3) := HB2.out.trans (hb3.mono (Nat.le_succ _))
   have BA3 := hide (bx_low BA2.out hb3 (Nat.lt_succ_self _))
   clear ho3 hb3 hg3 hg4 hlt3 O2a O2 HBK hn0
   go_wp2
   go_roundw
   case rel => exact ⟨k + 1, by omega, by go_num, by rw [HNX.out]; exact O3, HB3, BA3⟩
   case measure => simp [intOf]; omega
  ·have hd : ¬ (k : Int) < (n : Int) := by omega
   have HE := hide (List.take_of_length_le (by rw [← HX.out]; omega))
   rw [HE.out] at HO
   have HL : Hid ((xs.map fun x : Ta => x.t.cs).length = n) := by show _ = _; rw [List.length_map, HX.out]
   obtain ⟨a1, c1, rfl, _⟩ := HO.out.row
   rw [HL.out] at HO ⊢
   go_wp2
   go_ret
   exact ⟨a1, c1, rfl, HO.out, HB.out⟩

set_option maxRecDepth 100000 in
set_option maxHeartbeats 2000000 in
theorem keys67 (xs : List Ta) (a : Option Addr) (c n : Nat) (hx : n = xs.length) (hn : n ≤ 10000000) (w : World) (hp : TRows w a xs) :
  Calls Tryz.prog 153 #[.agg #[.slice a n c, .func (.func 159) #[] #[]]] w fun e w' => ∃ (a1 : Option Addr) (c1 : Nat), e = .returned (.slice a1 n c1) ∧ GOwn encI 3 w' (w.heap.size + 1) (.slice a1 n c1) (xs.map fun x : Ta => x.t.id) ∧ Below w.heap.size w w' := by
 have BA0 : Hid (Bx (w.alloc (.cells #[.slice a n c, .func (.func 159) #[] #[]] 189)) w.heap.size [.slice a n c, .func (.func 159) #[] #[]]) := Bx.new w [.slice a n c, .func (.func 159) #[] #[]] 189
 have HB0 : Hid (Below w.heap.size w (w.alloc (.cells #[.slice a n c, .func (.func 159) #[] #[]] 189))) := (belowRefl w).alloc (Nat.le_refl _) _
 have HP : Hid (TRows w a xs) := hp
 have HX : Hid (n = xs.length) := hx
 clear hp hx
 go_enter Tryz.func153, Tryz.ntmps153
 go_upto_region 1 with fail
 generalize (w.alloc (.cells #[.slice a n c, .func (.func 159) #[] #[]] 189)) = w0 at *
 have x0 := BA0.out.c0
 go_wp2
 go_loopw [3, 9] (fun v t wr => ∃ k : Nat, k ≤ n ∧ t = .int .i64 k ∧ Hid (GOwn encI 3 wr (w.heap.size + 1) v ((xs.take k).map fun x : Ta => x.t.id)) ∧ Hid (Below w.heap.size w wr) ∧ Hid (Bx wr w.heap.size [.slice a n c, .func (.func 159) #[] #[]])) (fun _ t _ => n - (intOf t).toNat)
 case atStart => exact ⟨0, Nat.zero_le _, rfl, GOwn.nil _ _, HB0, BA0⟩
 case round =>
  clear BA0 HB0 x0
  obtain ⟨k, hk, rfl, HO, HB, BA⟩ := hrel
  by_cases hlt : k < n
  ·have hlt' : (k : Int) < (n : Int) := by omega
   have h0 : (0 : Int) ≤ (k : Int) := by omega
   have hkx : k < xs.length := by rw [← HX.out]; exact hlt
   obtain ⟨b, o, rfl, hbl, hc, -⟩ := (HP.out.below HB.out).cls k hkx
   have HNX : Hid (((xs.take (k + 1)).map fun x : Ta => x.t.id) = ((xs.take k).map fun x : Ta => x.t.id) ++ [xs[k].t.id]) := by
    show _ = _
    rw [List.take_add_one, List.getElem?_eq_getElem hkx, List.map_append]
    rfl
   have HLn : Hid (((xs.take k).map fun x : Ta => x.t.id).length ≤ 100000000) := by show _ ≤ _; rw [List.length_map]; exact Nat.le_trans (List.length_take_le _ _) (by omega)
   obtain ⟨x, hx⟩ : ∃ x, x = xs[k] := ⟨_, rfl⟩
   rw [← hx] at hc HNX
   clear hx hkx
   have r0 := hc.c0
   have r1 := hc.c1
   have r2 := hc.c2
   have r3 := hc.c3
   have r4 := hc.c4
   have r5 := hc.c5
   have r6 := hc.c6
   have r7 := hc.c7
   clear hc
   obtain ⟨F, hF⟩ : ∃ F, F = ((xs.take k).map fun x : Ta => x.t.id) := ⟨_, rfl⟩
   rw [← hF] at HO HNX HLn
   clear hF
   have hln := HLn.out
   have HB1 : Hid (Below w.heap.size w (wr.alloc (.cells #[.int .i64 x.t.id, .int .i64 x.t.st, .int .i64 x.t.snap, .int .i64 x.t.cs, .slice x.ra x.t.rs.length x.rc, .slice x.wa x.t.ws.length x.wc, .bool x.t.out, .string x.t.nm] 38))) := HB.out.alloc HB.out.size _
   have BX1 := hide (Bx.new wr [.int .i64 x.t.id, .int .i64 x.t.st, .int .i64 x.t.snap, .int .i64 x.t.cs, .slice x.ra x.t.rs.length x.rc, .slice x.wa x.t.ws.length x.wc, .bool x.t.out, .string x.t.nm] 38)
   have BA1 : Hid (Bx (wr.alloc (.cells #[.int .i64 x.t.id, .int .i64 x.t.st, .int .i64 x.t.snap, .int .i64 x.t.cs, .slice x.ra x.t.rs.length x.rc, .slice x.wa x.t.ws.length x.wc, .bool x.t.out, .string x.t.nm] 38)) w.heap.size [.slice (some ⟨b, o, none⟩) n c, .func (.func 159) #[] #[]]) := BA.out.alloc _
   have O1 := hide (HO.out.alloc (.cells #[.int .i64 x.t.id, .int .i64 x.t.st, .int .i64 x.t.snap, .int .i64 x.t.cs, .slice x.ra x.t.rs.length x.rc, .slice x.wa x.t.ws.length x.wc, .bool x.t.out, .string x.t.nm] 38))
   go_upto_region 5 with fail
   clear r0 r1 r2 r3 r4 r5 r6 r7 BA HO HB
   generalize (wr.alloc (.cells #[.int .i64 x.t.id, .int .i64 x.t.st, .int .i64 x.t.snap, .int .i64 x.t.cs, .slice x.ra x.t.rs.length x.rc, .slice x.wa x.t.ws.length x.wc, .bool x.t.out, .string x.t.nm] 38)) = w1 at *
   have y1 := BA1.out.c1
   have x0 := BX1.out.c0
   have x1 := BX1.out.c1
   have x2 := BX1.out.c2
   have x3 := BX1.out.c3
   have x4 := BX1.out.c4
   have x5 := BX1.out.c5
   have x6 := BX1.out.c6
   have x7 := BX1.out.c7
   go_wp2_with fail
   refine (key67 x _).mono ?_
   rintro e w2 ⟨rfl, hb2⟩
   have HB2 := hide (HB1.out.trans (hb2.mono HB1.out.size))
   have O2 := hide (O1.out.below hb2)
   have BA2 := hide (BA1.out.below hb2)
   have hsz2 := BA2.out.lt
   clear hb2 y1 x0 x1 x2 x3 x4 x5 x6 x7
   obtain ⟨yy, hyy⟩ : ∃ yy, yy = x.t.id := ⟨_, rfl⟩
   rw [← hyy] at HNX ⊢
   clear hyy
   have HBK : Hid ((w2.alloc (.cells #[.int .i64 yy] 3)).heap[w2.heap.size]? = some (.cells (encI.enc yy).toArray 3 (0, 0))) := heap_alloc_new w2 _
   have O2a := hide (O2.out.alloc (.cells #[.int .i64 yy] 3))
   obtain ⟨n0, hn0⟩ : ∃ n0, n0 = F.length := ⟨_, rfl⟩
   go_wp2_with (at_builtin; refine wpAppK (E := encI) 158 3 8 _ Tryz.underlying158 Tryz.info3 rfl (by omega) rfl _ _ rfl yy oneI rfl O2a.out rfl HBK.out hln (by simp; omega) ?_)
   intro g' cap w3 ho3 hg3 hg4 hlt3
   have hb3 : Below (w.heap.size + 1) w2 w3 := ((Below.refl _ _).alloc (Nat.succ_le_of_lt hsz2) _).trans ((Below.refl _ _).grown hg3 (by simp; omega) (fun j hj => (World.ownsRow.lt O2a.out j hj).1))
   have O3 : Hid (GOwn encI 3 w3 (w.heap.size + 1) (.slice (some ⟨g', 0, none⟩) (F.length + 1) cap) (F ++ [yy])) := ho3
   have HB3 : Hid (Below w.heap.size w w3) := HB2.out.trans (hb3.mono (Nat.le_succ _))
   have BA3 := hide (bx_low BA2.out hb3 (Nat.lt_succ_self _))
   clear ho3 hb3 hg3 hg4 hlt3 O2a O2 HBK hn0
   go_wp2
   go_roundw
   case rel => exact ⟨k + 1, by omega, by go_num, by rw [HNX.out]; exact O3, HB3, BA3⟩
   case measure => simp [intOf]; omega
  ·have hd : ¬ (k : Int) < (n : Int) := by omega
   have HE := hide (List.take_of_length_le (by rw [← HX.out]; omega))
   rw [HE.out] at HO
   have HL : Hid ((xs.map fun x : Ta => x.t.id).length = n) := by show _ = _; rw [List.length_map, HX.out]
   obtain ⟨a1, c1, rfl, _⟩ := HO.out.row
   rw [HL.out] at HO ⊢
   go_wp2
   go_ret
   exact ⟨a1, c1, rfl, HO.out, HB.out⟩

set_option maxRecDepth 100000 in
set_option maxHeartbeats 2000000 in
theorem keys63 (xs : List Ta) (a : Option Addr) (c n : Nat) (hx : n = xs.length) (hn : n ≤ 10000000) (w : World) (hp : TRows w a xs) :
  Calls Tryz.prog 157 #[.agg #[.slice a n c, .func (.func 155) #[] #[]]] w fun e w' => ∃ (a1 : Option Addr) (c1 : Nat), e = .returned (.slice a1 n c1) ∧ GOwn encS 9 w' (w.heap.size + 1) (.slice a1 n c1) (xs.map fun x : Ta => x.t.nm) ∧ Below w.heap.size w w' := by
 have BA0 : Hid (Bx (w.alloc (.cells #[.slice a n c, .func (.func 155) #[] #[]] 194)) w.heap.size [.slice a n c, .func (.func 155) #[] #[]]) := Bx.new w [.slice a n c, .func (.func 155) #[] #[]] 194
 have HB0 : Hid (Below w.heap.size w (w.alloc (.cells #[.slice a n c, .func (.func 155) #[] #[]] 194))) := (belowRefl w).alloc (Nat.le_refl _) _
 have HP : Hid (TRows w a xs) := hp
 have HX : Hid (n = xs.length) := hx
 clear hp hx
 go_enter Tryz.func157, Tryz.ntmps157
 go_upto_region 1 with fail
 generalize (w.alloc (.cells #[.slice a n c, .func (.func 155) #[] #[]] 194)) = w0 at *
 have x0 := BA0.out.c0
 go_wp2
 go_loopw [3, 9] (fun v t wr => ∃ k : Nat, k ≤ n ∧ t = .int .i64 k ∧ Hid (GOwn encS 9 wr (w.heap.size + 1) v ((xs.take k).map fun x : Ta => x.t.nm)) ∧ Hid (Below w.heap.size w wr) ∧ Hid (Bx wr w.heap.size [.slice a n c, .func (.func 155) #[] #[]])) (fun _ t _ => n - (intOf t).toNat)
 case atStart => exact ⟨0, Nat.zero_le _, rfl, GOwn.nil _ _, HB0, BA0⟩
 case round =>
  clear BA0 HB0 x0
  obtain ⟨k, hk, rfl, HO, HB, BA⟩ := hrel
  by_cases hlt : k < n
  ·have hlt' : (k : Int) < (n : Int) := by omega
   have h0 : (0 : Int) ≤ (k : Int) := by omega
   have hkx : k < xs.length := by rw [← HX.out]; exact hlt
   obtain ⟨b, o, rfl, hbl, hc, -⟩ := (HP.out.below HB.out).cls k hkx
   have HNX : Hid (((xs.take (k + 1)).map fun x : Ta => x.t.nm) = ((xs.take k).map fun x : Ta => x.t.nm) ++ [xs[k].t.nm]) := by
    show _ = _
    rw [List.take_add_one, List.getElem?_eq_getElem hkx, List.map_append]
    rfl
   have HLn : Hid (((xs.take k).map fun x : Ta => x.t.nm).length ≤ 100000000) := by show _ ≤ _; rw [List.length_map]; exact Nat.le_trans (List.length_take_le _ _) (by omega)
   obtain ⟨x, hx⟩ : ∃ x, x = xs[k] := ⟨_, rfl⟩
   rw [← hx] at hc HNX
   clear hx hkx
   have r0 := hc.c0
   have r1 := hc.c1
   have r2 := hc.c2
   have r3 := hc.c3
   have r4 := hc.c4
   have r5 := hc.c5
   have r6 := hc.c6
   have r7 := hc.c7
   clear hc
   obtain ⟨F, hF⟩ : ∃ F, F = ((xs.take k).map fun x : Ta => x.t.nm) := ⟨_, rfl⟩
   rw [← hF] at HO HNX HLn
   clear hF
   have hln := HLn.out
   have HB1 : Hid (Below w.heap.size w (wr.alloc (.cells #[.int .i64 x.t.id, .int .i64 x.t.st, .int .i64 x.t.snap, .int .i64 x.t.cs, .slice x.ra x.t.rs.length x.rc, .slice x.wa x.t.ws.length x.wc, .bool x.t.out, .string x.t.nm] 38))) := HB.out.alloc HB.out.size _
   have BX1 := hide (Bx.new wr [.int .i64 x.t.id, .int .i64 x.t.st, .int .i64 x.t.snap, .int .i64 x.t.cs, .slice x.ra x.t.rs.length x.rc, .slice x.wa x.t.ws.length x.wc, .bool x.t.out, .string x.t.nm] 38)
   have BA1 : Hid (Bx (wr.alloc (.cells #[.int .i64 x.t.id, .int .i64 x.t.st, .int .i64 x.t.snap, .int .i64 x.t.cs, .slice x.ra x.t.rs.length x.rc, .slice x.wa x.t.ws.length x.wc, .bool x.t.out, .string x.t.nm] 38)) w.heap.size [.slice (some ⟨b, o, none⟩) n c, .func (.func 155) #[] #[]]) := BA.out.alloc _
   have O1 := hide (HO.out.alloc (.cells #[.int .i64 x.t.id, .int .i64 x.t.st, .int .i64 x.t.snap, .int .i64 x.t.cs, .slice x.ra x.t.rs.length x.rc, .slice x.wa x.t.ws.length x.wc, .bool x.t.out, .string x.t.nm] 38))
   go_upto_region 5 with fail
   clear r0 r1 r2 r3 r4 r5 r6 r7 BA HO HB
   generalize (wr.alloc (.cells #[.int .i64 x.t.id, .int .i64 x.t.st, .int .i64 x.t.snap, .int .i64 x.t.cs, .slice x.ra x.t.rs.length x.rc, .slice x.wa x.t.ws.length x.wc, .bool x.t.out, .string x.t.nm] 38)) = w1 at *
   have y1 := BA1.out.c1
   have x0 := BX1.out.c0
   have x1 := BX1.out.c1
   have x2 := BX1.out.c2
   have x3 := BX1.out.c3
   have x4 := BX1.out.c4
   have x5 := BX1.out.c5
   have x6 := BX1.out.c6
   have x7 := BX1.out.c7
   go_wp2_with fail
   refine (key63 x _).mono ?_
   rintro e w2 ⟨rfl, hb2⟩
   have HB2 := hide (HB1.out.trans (hb2.mono HB1.out.size))
   have O2 := hide (O1.out.below hb2)
   have BA2 := hide (BA1.out.below hb2)
   have hsz2 := BA2.out.lt
   clear hb2 y1 x0 x1 x2 x3 x4 x5 x6 x7
   obtain ⟨yy, hyy⟩ : ∃ yy, yy = x.t.nm := ⟨_, rfl⟩
   rw [← hyy] at HNX ⊢
   clear hyy
   have HBK : Hid ((w2.alloc (.cells #[.string yy] 9)).heap[w2.heap.size]? = some (.cells (encS.enc yy).toArray 9 (0, 0))) := heap_alloc_new w2 _
   have O2a := hide (O2.out.alloc (.cells #[.string yy] 9))
   obtain ⟨n0, hn0⟩ : ∃ n0, n0 = F.length := ⟨_, rfl⟩
   go_wp2_with (at_builtin; refine wpAppK (E := encS) 206 9 16 _ Tryz.underlying206 Tryz.info9 rfl (by omega) rfl _ _ rfl yy oneS' rfl O2a.out rfl HBK.out hln (by simp; omega) ?_)
   intro g' cap w3 ho3 hg3 hg4 hlt3
   have hb3 : Below (w.heap.size + 1) w2 w3 := ((Below.refl _ _).alloc (Nat.succ_le_of_lt hsz2) _).trans ((Below.refl _ _).grown hg3 (by simp; omega) (fun j hj => (World.ownsRow.lt O2a.out j hj).1))
   have O3 : Hid (GOwn encS 9 w3 (w.heap.size + 1) (.slice (some ⟨g', 0, none⟩) (F.length + 1) cap) (F ++ [yy])) := ho3
   have HB3 : Hid (Below w.heap.size w w3) := HB2.out.trans (hb3.mono (Nat.le_succ _))
   have BA3 := hide (bx_low BA2.out hb3 (Nat.lt_succ_self _))
   clear ho3 hb3 hg3 hg4 hlt3 O2a O2 HBK hn0
   go_wp2
   go_roundw
   case rel => exact ⟨k + 1, by omega, by go_num, by rw [HNX.out]; exact O3, HB3, BA3⟩
   case measure => simp [intOf]; omega
  ·have hd : ¬ (k : Int) < (n : Int) := by omega
   have HE := hide (List.take_of_length_le (by rw [← HX.out]; omega))
   rw [HE.out] at HO
   have HL : Hid ((xs.map fun x : Ta => x.t.nm).length = n) := by show _ = _; rw [List.length_map, HX.out]
   obtain ⟨a1, c1, rfl, _⟩ := HO.out.row
   rw [HL.out] at HO ⊢
   go_wp2
   go_ret
   exact ⟨a1, c1, rfl, HO.out, HB.out⟩

end Go.Proofs.YtpnnncfbodfnhaaGreatDoor

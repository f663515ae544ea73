/- Nothing at all: what isNoTxn, isNoBase and the document's l10NoTxn, l10NoBase answer. -/
import Derived.Test.YtpnnncfbodfnhaaGreatDoorPr08
import Derived.Test.YtpnnncfbodfnhaaGreatDoorPr06
import Derived.Deep.RegionHeld3
namespace Go.Proofs.YtpnnncfbodfnhaaGreatDoor
open Go.RowKit
open KM
attribute [local go_sem ↓] Go.wp_at_zero Go.wp_at_succ

def noT (t : Tx) : Bool := decide (t.id = 0) && decide (t.st = 0) && decide (t.snap = 0) && decide (t.cs = 0) && !t.out && t.nm.toList.isEmpty && decide (t.rs.length = 0) && decide (t.ws.length = 0)
def noB (b : Bb) : Bool := decide (b.cs = 0) && decide (b.nx = 0) && decide (b.vs.length = 0) && decide (b.ps.length = 0) && decide (b.qs.length = 0)
theorem len0 {α : Type} (l : List α) : ((l.length : Int) == 0) = decide (l.length = 0) := by
 rw [Bool.eq_iff_iff]; simp

set_option maxRecDepth 100000 in
set_option maxHeartbeats 2000000 in
theorem inoT (t : Tx) (ra wa : Option Addr) (rc wc : Nat) (w : World) : Calls Tryz.prog 61 #[.agg #[.int .i64 t.id, .int .i64 t.st, .int .i64 t.snap, .int .i64 t.cs, .slice ra t.rs.length rc, .slice wa t.ws.length wc, .bool t.out, .string t.nm]] w fun e w' => e = .returned (.bool (noT t)) ∧ Below w.heap.size w w' := by
 by_cases c0 : t.id = 0
 rotate_left
 ·have d0 : (t.id == 0) = false := by simp [c0]
  have f0 : (t.id != 0) = true := by simp [c0]
  have HN : Hid (noT t = false) := by show _ = _; unfold noT; simp [c0]
  clear c0
  go_enter Tryz.func61, Tryz.ntmps61
  go_wp2
  go_ret
  exact ⟨ret_bool HN.out.symm, (belowRefl w).alloc (Nat.le_refl _) _⟩
 have d0 : (t.id == 0) = true := by simp [c0]
 have f0 : (t.id != 0) = false := by simp [c0]
 by_cases c1 : t.st = 0
 rotate_left
 ·have d1 : (t.st == 0) = false := by simp [c1]
  have f1 : (t.st != 0) = true := by simp [c1]
  have HN : Hid (noT t = false) := by show _ = _; unfold noT; simp [c0, c1]
  clear c0 c1
  go_enter Tryz.func61, Tryz.ntmps61
  go_wp2
  go_ret
  exact ⟨ret_bool HN.out.symm, (belowRefl w).alloc (Nat.le_refl _) _⟩
 have d1 : (t.st == 0) = true := by simp [c1]
 have f1 : (t.st != 0) = false := by simp [c1]
 by_cases c2 : t.snap = 0
 rotate_left
 ·have d2 : (t.snap == 0) = false := by simp [c2]
  have f2 : (t.snap != 0) = true := by simp [c2]
  have HN : Hid (noT t = false) := by show _ = _; unfold noT; simp [c0, c1, c2]
  clear c0 c1 c2
  go_enter Tryz.func61, Tryz.ntmps61
  go_wp2
  go_ret
  exact ⟨ret_bool HN.out.symm, (belowRefl w).alloc (Nat.le_refl _) _⟩
 have d2 : (t.snap == 0) = true := by simp [c2]
 have f2 : (t.snap != 0) = false := by simp [c2]
 by_cases c3 : t.cs = 0
 rotate_left
 ·have d3 : (t.cs == 0) = false := by simp [c3]
  have f3 : (t.cs != 0) = true := by simp [c3]
  have HN : Hid (noT t = false) := by show _ = _; unfold noT; simp [c0, c1, c2, c3]
  clear c0 c1 c2 c3
  go_enter Tryz.func61, Tryz.ntmps61
  go_wp2
  go_ret
  exact ⟨ret_bool HN.out.symm, (belowRefl w).alloc (Nat.le_refl _) _⟩
 have d3 : (t.cs == 0) = true := by simp [c3]
 have f3 : (t.cs != 0) = false := by simp [c3]
 cases h4 : t.out
 rotate_left
 ·have HN : Hid (noT t = false) := by show _ = _; unfold noT; simp [c0, c1, c2, c3, h4]
  clear c0 c1 c2 c3
  go_enter Tryz.func61, Tryz.ntmps61
  go_wp2
  go_ret
  exact ⟨ret_bool HN.out.symm, (belowRefl w).alloc (Nat.le_refl _) _⟩
 cases h5 : t.nm.toList.isEmpty
 ·have HN : Hid (noT t = false) := by show _ = _; unfold noT; simp [c0, c1, c2, c3, h4, h5]
  clear c0 c1 c2 c3
  go_enter Tryz.func61, Tryz.ntmps61
  go_wp2
  go_ret
  exact ⟨ret_bool HN.out.symm, (belowRefl w).alloc (Nat.le_refl _) _⟩
 by_cases c6 : t.rs.length = 0
 rotate_left
 ·have d6 : ((t.rs.length : Int) == 0) = false := by simp [c6]
  have HN : Hid (noT t = false) := by show _ = _; unfold noT; simp [c0, c1, c2, c3, h4, h5, c6]
  clear c0 c1 c2 c3 c6
  go_enter Tryz.func61, Tryz.ntmps61
  go_wp2
  go_ret
  exact ⟨ret_bool HN.out.symm, (belowRefl w).alloc (Nat.le_refl _) _⟩
 have d6 : ((t.rs.length : Int) == 0) = true := by simp [c6]
 by_cases c7 : t.ws.length = 0
 rotate_left
 ·have d7 : ((t.ws.length : Int) == 0) = false := by simp [c7]
  have HN : Hid (noT t = false) := by show _ = _; unfold noT; simp [c0, c1, c2, c3, h4, h5, c6, c7]
  clear c0 c1 c2 c3 c6 c7
  go_enter Tryz.func61, Tryz.ntmps61
  go_wp2
  go_ret
  exact ⟨ret_bool HN.out.symm, (belowRefl w).alloc (Nat.le_refl _) _⟩
 have d7 : ((t.ws.length : Int) == 0) = true := by simp [c7]
 have HN : Hid (noT t = true) := by show _ = _; unfold noT; simp [c0, c1, c2, c3, h4, h5, c6, c7]
 clear c0 c1 c2 c3 c6 c7
 go_enter Tryz.func61, Tryz.ntmps61
 go_wp2
 go_ret
 exact ⟨ret_bool HN.out.symm, (belowRefl w).alloc (Nat.le_refl _) _⟩

set_option maxRecDepth 100000 in
set_option maxHeartbeats 2000000 in
theorem snoT (t : Tx) (ra wa : Option Addr) (rc wc : Nat) (w : World) : Calls Tryz.prog 49 #[.agg #[.int .i64 t.id, .int .i64 t.st, .int .i64 t.snap, .int .i64 t.cs, .slice ra t.rs.length rc, .slice wa t.ws.length wc, .bool t.out, .string t.nm]] w fun e w' => e = .returned (.bool (noT t)) ∧ Below w.heap.size w w' := by
 by_cases c0 : t.id = 0
 rotate_left
 ·have d0 : (t.id == 0) = false := by simp [c0]
  have f0 : (t.id != 0) = true := by simp [c0]
  have HN : Hid (noT t = false) := by show _ = _; unfold noT; simp [c0]
  clear c0
  go_enter Tryz.func49, Tryz.ntmps49
  go_wp2
  go_ret
  exact ⟨ret_bool HN.out.symm, (belowRefl w).alloc (Nat.le_refl _) _⟩
 have d0 : (t.id == 0) = true := by simp [c0]
 have f0 : (t.id != 0) = false := by simp [c0]
 by_cases c1 : t.st = 0
 rotate_left
 ·have d1 : (t.st == 0) = false := by simp [c1]
  have f1 : (t.st != 0) = true := by simp [c1]
  have HN : Hid (noT t = false) := by show _ = _; unfold noT; simp [c0, c1]
  clear c0 c1
  go_enter Tryz.func49, Tryz.ntmps49
  go_wp2
  go_ret
  exact ⟨ret_bool HN.out.symm, (belowRefl w).alloc (Nat.le_refl _) _⟩
 have d1 : (t.st == 0) = true := by simp [c1]
 have f1 : (t.st != 0) = false := by simp [c1]
 by_cases c2 : t.snap = 0
 rotate_left
 ·have d2 : (t.snap == 0) = false := by simp [c2]
  have f2 : (t.snap != 0) = true := by simp [c2]
  have HN : Hid (noT t = false) := by show _ = _; unfold noT; simp [c0, c1, c2]
  clear c0 c1 c2
  go_enter Tryz.func49, Tryz.ntmps49
  go_wp2
  go_ret
  exact ⟨ret_bool HN.out.symm, (belowRefl w).alloc (Nat.le_refl _) _⟩
 have d2 : (t.snap == 0) = true := by simp [c2]
 have f2 : (t.snap != 0) = false := by simp [c2]
 by_cases c3 : t.cs = 0
 rotate_left
 ·have d3 : (t.cs == 0) = false := by simp [c3]
  have f3 : (t.cs != 0) = true := by simp [c3]
  have HN : Hid (noT t = false) := by show _ = _; unfold noT; simp [c0, c1, c2, c3]
  clear c0 c1 c2 c3
  go_enter Tryz.func49, Tryz.ntmps49
  go_wp2
  go_ret
  exact ⟨ret_bool HN.out.symm, (belowRefl w).alloc (Nat.le_refl _) _⟩
 have d3 : (t.cs == 0) = true := by simp [c3]
 have f3 : (t.cs != 0) = false := by simp [c3]
 by_cases c4 : t.rs.length = 0
 rotate_left
 ·have d4 : ((t.rs.length : Int) == 0) = false := by simp [c4]
  have HN : Hid (noT t = false) := by show _ = _; unfold noT; simp [c0, c1, c2, c3, c4]
  clear c0 c1 c2 c3 c4
  go_enter Tryz.func49, Tryz.ntmps49
  go_wp2
  go_ret
  exact ⟨ret_bool HN.out.symm, (belowRefl w).alloc (Nat.le_refl _) _⟩
 have d4 : ((t.rs.length : Int) == 0) = true := by simp [c4]
 by_cases c5 : t.ws.length = 0
 rotate_left
 ·have d5 : ((t.ws.length : Int) == 0) = false := by simp [c5]
  have HN : Hid (noT t = false) := by show _ = _; unfold noT; simp [c0, c1, c2, c3, c4, c5]
  clear c0 c1 c2 c3 c4 c5
  go_enter Tryz.func49, Tryz.ntmps49
  go_wp2
  go_ret
  exact ⟨ret_bool HN.out.symm, (belowRefl w).alloc (Nat.le_refl _) _⟩
 have d5 : ((t.ws.length : Int) == 0) = true := by simp [c5]
 cases h6 : t.out
 rotate_left
 ·have HN : Hid (noT t = false) := by show _ = _; unfold noT; simp [c0, c1, c2, c3, c4, c5, h6]
  clear c0 c1 c2 c3 c4 c5
  go_enter Tryz.func49, Tryz.ntmps49
  go_wp2
  go_ret
  exact ⟨ret_bool HN.out.symm, (belowRefl w).alloc (Nat.le_refl _) _⟩
 cases h7 : t.nm.toList.isEmpty
 ·have HN : Hid (noT t = false) := by show _ = _; unfold noT; simp [c0, c1, c2, c3, c4, c5, h6, h7]
  clear c0 c1 c2 c3 c4 c5
  go_enter Tryz.func49, Tryz.ntmps49
  go_wp2
  go_ret
  exact ⟨ret_bool HN.out.symm, (belowRefl w).alloc (Nat.le_refl _) _⟩
 have HN : Hid (noT t = true) := by show _ = _; unfold noT; simp [c0, c1, c2, c3, c4, c5, h6, h7]
 clear c0 c1 c2 c3 c4 c5
 go_enter Tryz.func49, Tryz.ntmps49
 go_wp2
 go_ret
 exact ⟨ret_bool HN.out.symm, (belowRefl w).alloc (Nat.le_refl _) _⟩

set_option maxRecDepth 100000 in
set_option maxHeartbeats 2000000 in
theorem inoB (b : Bb) (w : World) : Calls Tryz.prog 62 #[.agg #[.slice b.va b.vs.length b.vc, .slice b.pa b.ps.length b.pc, .slice b.qa b.qs.length b.qc, .int .i64 b.cs, .int .i64 b.nx]] w fun e w' => e = .returned (.bool (noB b)) ∧ Below w.heap.size w w' := by
 by_cases c0 : b.vs.length = 0
 rotate_left
 ·have d0 : ((b.vs.length : Int) == 0) = false := by simp [c0]
  have HN : Hid (noB b = false) := by show _ = _; unfold noB; simp [c0]
  clear c0
  go_enter Tryz.func62, Tryz.ntmps62
  go_wp2
  go_ret
  exact ⟨ret_bool HN.out.symm, (belowRefl w).alloc (Nat.le_refl _) _⟩
 have d0 : ((b.vs.length : Int) == 0) = true := by simp [c0]
 by_cases c1 : b.ps.length = 0
 rotate_left
 ·have d1 : ((b.ps.length : Int) == 0) = false := by simp [c1]
  have HN : Hid (noB b = false) := by show _ = _; unfold noB; simp [c0, c1]
  clear c0 c1
  go_enter Tryz.func62, Tryz.ntmps62
  go_wp2
  go_ret
  exact ⟨ret_bool HN.out.symm, (belowRefl w).alloc (Nat.le_refl _) _⟩
 have d1 : ((b.ps.length : Int) == 0) = true := by simp [c1]
 by_cases c2 : b.qs.length = 0
 rotate_left
 ·have d2 : ((b.qs.length : Int) == 0) = false := by simp [c2]
  have HN : Hid (noB b = false) := by show _ = _; unfold noB; simp [c0, c1, c2]
  clear c0 c1 c2
  go_enter Tryz.func62, Tryz.ntmps62
  go_wp2
  go_ret
  exact ⟨ret_bool HN.out.symm, (belowRefl w).alloc (Nat.le_refl _) _⟩
 have d2 : ((b.qs.length : Int) == 0) = true := by simp [c2]
 by_cases c3 : b.cs = 0
 rotate_left
 ·have d3 : (b.cs == 0) = false := by simp [c3]
  have f3 : (b.cs != 0) = true := by simp [c3]
  have HN : Hid (noB b = false) := by show _ = _; unfold noB; simp [c0, c1, c2, c3]
  clear c0 c1 c2 c3
  go_enter Tryz.func62, Tryz.ntmps62
  go_wp2
  go_ret
  exact ⟨ret_bool HN.out.symm, (belowRefl w).alloc (Nat.le_refl _) _⟩
 have d3 : (b.cs == 0) = true := by simp [c3]
 have f3 : (b.cs != 0) = false := by simp [c3]
 by_cases c4 : b.nx = 0
 rotate_left
 ·have d4 : (b.nx == 0) = false := by simp [c4]
  have f4 : (b.nx != 0) = true := by simp [c4]
  have HN : Hid (noB b = false) := by show _ = _; unfold noB; simp [c0, c1, c2, c3, c4]
  clear c0 c1 c2 c3 c4
  go_enter Tryz.func62, Tryz.ntmps62
  go_wp2
  go_ret
  exact ⟨ret_bool HN.out.symm, (belowRefl w).alloc (Nat.le_refl _) _⟩
 have d4 : (b.nx == 0) = true := by simp [c4]
 have f4 : (b.nx != 0) = false := by simp [c4]
 have HN : Hid (noB b = true) := by show _ = _; unfold noB; simp [c0, c1, c2, c3, c4]
 clear c0 c1 c2 c3 c4
 go_enter Tryz.func62, Tryz.ntmps62
 go_wp2
 go_ret
 exact ⟨ret_bool HN.out.symm, (belowRefl w).alloc (Nat.le_refl _) _⟩

set_option maxRecDepth 100000 in
set_option maxHeartbeats 2000000 in
theorem snoB (b : Bb) (w : World) : Calls Tryz.prog 52 #[.agg #[.slice b.va b.vs.length b.vc, .slice b.pa b.ps.length b.pc, .slice b.qa b.qs.length b.qc, .int .i64 b.cs, .int .i64 b.nx]] w fun e w' => e = .returned (.bool (noB b)) ∧ Below w.heap.size w w' := by
 by_cases c0 : b.cs = 0
 rotate_left
 ·have d0 : (b.cs == 0) = false := by simp [c0]
  have f0 : (b.cs != 0) = true := by simp [c0]
  have HN : Hid (noB b = false) := by show _ = _; unfold noB; simp [c0]
  clear c0
  go_enter Tryz.func52, Tryz.ntmps52
  go_wp2
  go_ret
  exact ⟨ret_bool HN.out.symm, (belowRefl w).alloc (Nat.le_refl _) _⟩
 have d0 : (b.cs == 0) = true := by simp [c0]
 have f0 : (b.cs != 0) = false := by simp [c0]
 by_cases c1 : b.nx = 0
 rotate_left
 ·have d1 : (b.nx == 0) = false := by simp [c1]
  have f1 : (b.nx != 0) = true := by simp [c1]
  have HN : Hid (noB b = false) := by show _ = _; unfold noB; simp [c0, c1]
  clear c0 c1
  go_enter Tryz.func52, Tryz.ntmps52
  go_wp2
  go_ret
  exact ⟨ret_bool HN.out.symm, (belowRefl w).alloc (Nat.le_refl _) _⟩
 have d1 : (b.nx == 0) = true := by simp [c1]
 have f1 : (b.nx != 0) = false := by simp [c1]
 by_cases c2 : b.vs.length = 0
 rotate_left
 ·have d2 : ((b.vs.length : Int) == 0) = false := by simp [c2]
  have HN : Hid (noB b = false) := by show _ = _; unfold noB; simp [c0, c1, c2]
  clear c0 c1 c2
  go_enter Tryz.func52, Tryz.ntmps52
  go_wp2
  go_ret
  exact ⟨ret_bool HN.out.symm, (belowRefl w).alloc (Nat.le_refl _) _⟩
 have d2 : ((b.vs.length : Int) == 0) = true := by simp [c2]
 by_cases c3 : b.ps.length = 0
 rotate_left
 ·have d3 : ((b.ps.length : Int) == 0) = false := by simp [c3]
  have HN : Hid (noB b = false) := by show _ = _; unfold noB; simp [c0, c1, c2, c3]
  clear c0 c1 c2 c3
  go_enter Tryz.func52, Tryz.ntmps52
  go_wp2
  go_ret
  exact ⟨ret_bool HN.out.symm, (belowRefl w).alloc (Nat.le_refl _) _⟩
 have d3 : ((b.ps.length : Int) == 0) = true := by simp [c3]
 by_cases c4 : b.qs.length = 0
 rotate_left
 ·have d4 : ((b.qs.length : Int) == 0) = false := by simp [c4]
  have HN : Hid (noB b = false) := by show _ = _; unfold noB; simp [c0, c1, c2, c3, c4]
  clear c0 c1 c2 c3 c4
  go_enter Tryz.func52, Tryz.ntmps52
  go_wp2
  go_ret
  exact ⟨ret_bool HN.out.symm, (belowRefl w).alloc (Nat.le_refl _) _⟩
 have d4 : ((b.qs.length : Int) == 0) = true := by simp [c4]
 have HN : Hid (noB b = true) := by show _ = _; unfold noB; simp [c0, c1, c2, c3, c4]
 clear c0 c1 c2 c3 c4
 go_enter Tryz.func52, Tryz.ntmps52
 go_wp2
 go_ret
 exact ⟨ret_bool HN.out.symm, (belowRefl w).alloc (Nat.le_refl _) _⟩

end Go.Proofs.YtpnnncfbodfnhaaGreatDoor

namespace Go.Proofs.YtpnnncfbodfnhaaGreatDoor
open Go.RowKit
open KM
attribute [local go_sem ↓] Go.wp_at_zero Go.wp_at_succ

theorem wpAppK {ops : Array Oper} {rest : List Oper} {o : Oper} {a : Act} {Q : Exit → Act → World → Prop} {α : Type} {E : Enc α} (T e bytes : Nat) (z : Value) (hT : Tryz.prog.underlying T = some (.slice e))
  (hinfo : (Tryz.prog.info? e).map (fun i => (i.zero, i.size, i.bytes)) = some (some z, E.size, bytes)) (hzs : z.cells.size = E.size) (hby : bytes ≤ 128)
  (hgd : o.guard = none) (s x : Operand) (ho : o.op = .call { callee := .builtin .append, args := #[s, x], argTypes := #[T, T] })
  {W : World} {base g : Nat} {v : Value} {xs : List α} (y : α) (h1 : ∀ u ∈ E.enc y, u.oneCell' = true)
  (hs : a.eval s = v) (hown : GOwn E e W base v xs) (hx : a.eval x = .slice (some ⟨g, 0, none⟩) 1 1) (hblk : W.heap[g]? = some (.cells (E.enc y).toArray e (0, 0)))
  (hlen : xs.length ≤ 100000000) (hB : base ≤ W.heap.size)
  (h : ∀ g' cap w', GOwn E e w' base (.slice (some ⟨g', 0, none⟩) (xs.length + 1) cap) (xs ++ [y]) → W.grownBy w' v.ownBlock → (v.ownBlock = some g' ∨ g' = W.heap.size) → g' < w'.heap.size → wpList Tryz.prog ops Q rest (a.put o.dst (.slice (some ⟨g', 0, none⟩) (xs.length + 1) cap)) w') :
  wpList Tryz.prog ops Q (o :: rest) a W := by
 obtain ⟨i0, hi, hz0, hz1, hz2⟩ := info_parts hinfo
 refine wpList_append_lies _ hgd s x T ho base e i0 z E.size bytes hT hi hz0 hz1 hz2 hzs E.pos v xs.length (E.cells xs) hs hown ⟨g, 0, none⟩ 1 1 (E.enc y) hx (by rw [E.len, Nat.one_mul]) ?_ h1 (by omega) (by unfold maxLen; omega) ?_ hB _ rfl ?_
 ·intro j u hj
  rw [Addr.add_lit, Nat.zero_add, World.cell?, hblk]
  simpa using hj
 ·calc (xs.length + 1) * bytes ≤ 100000001 * 128 := Nat.mul_le_mul (by omega) hby
   _ ≤ _ := by omega
 ·intro g' cap w' k1 k2 k3 k4
  refine h g' cap w' ?_ k2 k3 k4
  have e : E.cells (xs ++ [y]) = E.cells xs ++ E.enc y := by rw [E.cells_app]; simp [Enc.cells]
  unfold GOwn
  rw [e, List.length_append]
  exact k1
theorem Lies.marked2 {α : Type} {E : Enc α} {e : TypeId} {w w' : World} {lo hi : Nat} {v : Value} {row : Option Nat} {xs : List α} (h : Lies E e w lo hi v xs) (hg : w.grownBy w' row) (hne : ∀ g, row = some g → g < lo ∨ hi ≤ g) : Lies E e w' lo hi v xs := by
 refine ⟨?_, h.up⟩
 obtain ⟨h1, h2⟩ := h.own
 refine ⟨h1, ?_⟩
 rcases h2 with h2 | ⟨g, cap, cur, hv, hg', hh, r⟩
 ·exact Or.inl h2
 ·refine Or.inr ⟨g, cap, cur, hv, hg', ?_, r⟩
  have hlt : g < w.heap.size := (Array.getElem?_eq_some_iff.1 hh).1
  have hup := h.up g (by rw [hv]; rfl)
  rw [hg.block g hlt (fun e => by have := hne g e.symm; omega)]
  exact hh

end Go.Proofs.YtpnnncfbodfnhaaGreatDoor

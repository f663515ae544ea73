/- Drawn ones that look and change, changed in one place: l07Any. -/
import Derived.Test.YtjeicgibddfifaaPc14
import Derived.Test.YtjeicgibddfifaaPc10
import Derived.Deep.RegionHeld3
import Derived.Test.YtjeicgibddfifaaPc08
namespace Go.Proofs.Ytjeicgibddfifaa
open Go.RowKit
open KM
attribute [local go_sem ↓] Go.wp_at_zero Go.wp_at_succ

structure TxA (t : Tx) : Prop where
 fit : TFit t
 rl : t.rs.length ≤ 4
 wl : t.ws.length ≤ 4
theorem TxD.fit {t : Tx} (h : TxD t) : TFit t := ⟨Nat.le_trans h.rl (by omega), h.rs.fit, Nat.le_trans h.wl (by omega), h.ws.fit, h.nm⟩
theorem TxD.any {t : Tx} (h : TxD t) : TxA t := ⟨h.fit, Nat.le_trans h.rl (by omega), Nat.le_trans h.wl (by omega)⟩
theorem wpAppK {ops : Array Oper} {rest : List Oper} {o : Oper} {a : Act} {Q : Exit → Act → World → Prop} {α : Type} {E : Enc α} (T e bytes : Nat) (z : Value) (hT : Try.prog.underlying T = some (.slice e))
  (hinfo : (Try.prog.info? e).map (fun i => (i.zero, i.size, i.bytes)) = some (some z, E.size, bytes)) (hzs : z.cells.size = E.size) (hby : bytes ≤ 128)
  (hgd : o.guard = none) (s x : Operand) (ho : o.op = .call { callee := .builtin .append, args := #[s, x], argTypes := #[T, T] })
  {W : World} {base g : Nat} {v : Value} {xs : List α} (y : α) (h1 : ∀ u ∈ E.enc y, u.oneCell' = true)
  (hs : a.eval s = v) (hown : GOwn E e W base v xs) (hx : a.eval x = .slice (some ⟨g, 0, none⟩) 1 1) (hblk : W.heap[g]? = some (.cells (E.enc y).toArray e (0, 0)))
  (hlen : xs.length ≤ 100000000) (hB : base ≤ W.heap.size)
  (h : ∀ g' cap w', GOwn E e w' base (.slice (some ⟨g', 0, none⟩) (xs.length + 1) cap) (xs ++ [y]) → W.grownBy w' v.ownBlock → (v.ownBlock = some g' ∨ g' = W.heap.size) → g' < w'.heap.size → wpList Try.prog ops Q rest (a.put o.dst (.slice (some ⟨g', 0, none⟩) (xs.length + 1) cap)) w') :
  wpList Try.prog ops Q (o :: rest) a W := by
 obtain ⟨i0, hi, hz0, hz1, hz2⟩ := info_parts hinfo
 refine wpList_append_lies _ hgd s x T ho base e i0 z E.size bytes hT hi hz0 hz1 hz2 hzs E.pos v xs.length (E.cells xs) hs hown ⟨g, 0, none⟩ 1 1 (E.enc y) hx (by rw [E.len, Nat.one_mul]) ?_ h1 (by omega) (by unfold maxLen; omega) ?_ hB _ rfl ?_
 ·intro j u hj
  rw [Addr.add_lit, Nat.zero_add, World.cell?, hblk]
  simpa using hj
 ·calc (xs.length + 1) * bytes ≤ 100000001 * 128 := Nat.mul_le_mul (by omega) hby
   _ ≤ _ := by omega
 ·intro g' cap w' k1 k2 k3 k4
  refine h g' cap w' ?_ k2 k3 k4
  have e : E.cells (xs ++ [y]) = E.cells xs ++ E.enc y := by rw [E.cells_app]; simp [Enc.cells]
  unfold GOwn
  rw [e, List.length_append]
  exact k1
theorem stepAppK {ops : Array Oper} {K : Act → World → Prop} {X : Prop} {o : Oper} {a : Act} {Q : Exit → Act → World → Prop} {α : Type} {E : Enc α} (T e bytes : Nat) (z : Value) (hT : Try.prog.underlying T = some (.slice e))
  (hinfo : (Try.prog.info? e).map (fun i => (i.zero, i.size, i.bytes)) = some (some z, E.size, bytes)) (hzs : z.cells.size = E.size) (hby : bytes ≤ 128)
  (hgd : o.guard = none) (s x : Operand) (ho : o.op = .call { callee := .builtin .append, args := #[s, x], argTypes := #[T, T] })
  {W : World} {base g : Nat} {v : Value} {xs : List α} (y : α) (h1 : ∀ u ∈ E.enc y, u.oneCell' = true)
  (hs : a.eval s = v) (hown : GOwn E e W base v xs) (hx : a.eval x = .slice (some ⟨g, 0, none⟩) 1 1) (hblk : W.heap[g]? = some (.cells (E.enc y).toArray e (0, 0)))
  (hlen : xs.length ≤ 100000000) (hB : base ≤ W.heap.size)
  (h : ∀ g' cap w', GOwn E e w' base (.slice (some ⟨g', 0, none⟩) (xs.length + 1) cap) (xs ++ [y]) → W.grownBy w' v.ownBlock → (v.ownBlock = some g' ∨ g' = W.heap.size) → g' < w'.heap.size → K (a.put o.dst (.slice (some ⟨g', 0, none⟩) (xs.length + 1) cap)) w') :
  if Region.wanted o (yielded ops a.tmps) = true then Oper.wp Try.prog o a W K Q else X := by
 obtain ⟨i0, hi, hz0, hz1, hz2⟩ := info_parts hinfo
 refine step_append_lies _ hgd s x T ho base e i0 z E.size bytes hT hi hz0 hz1 hz2 hzs E.pos v xs.length (E.cells xs) hs hown ⟨g, 0, none⟩ 1 1 (E.enc y) hx (by rw [E.len, Nat.one_mul]) ?_ h1 (by omega) (by unfold maxLen; omega) ?_ hB _ rfl ?_
 ·intro j u hj
  rw [Addr.add_lit, Nat.zero_add, World.cell?, hblk]
  simpa using hj
 ·calc (xs.length + 1) * bytes ≤ 100000001 * 128 := Nat.mul_le_mul (by omega) hby
   _ ≤ _ := by omega
 ·intro g' cap w' k1 k2 k3 k4
  refine h g' cap w' ?_ k2 k3 k4
  have e : E.cells (xs ++ [y]) = E.cells xs ++ E.enc y := by rw [E.cells_app]; simp [Enc.cells]
  unfold GOwn
  rw [e, List.length_append]
  exact k1
end Go.Proofs.Ytjeicgibddfifaa

namespace Go.Proofs.Ytjeicgibddfifaa
open Go.RowKit
open KM
attribute [local go_sem ↓] Go.wp_at_zero Go.wp_at_succ

def Asks (q : Nat) (Q : Tx → Tx → Bool) : Prop := ∀ (a b : Tx) (ra wa : Option Addr) (rc wc : Nat) (ra2 wa2 : Option Addr) (rc2 wc2 : Nat) (w : World), TFit a → TFit b → TRow w a ra wa → TRow w b ra2 wa2 →
 Calls Try.prog q #[.agg #[.int .i64 a.id, .int .i64 a.st, .int .i64 a.snap, .int .i64 a.cs, .slice ra a.rs.length rc, .slice wa a.ws.length wc, .bool a.out, .string a.nm], .agg #[.int .i64 b.id, .int .i64 b.st, .int .i64 b.snap, .int .i64 b.cs, .slice ra2 b.rs.length rc2, .slice wa2 b.ws.length wc2, .bool b.out, .string b.nm]] w fun e w' => e = .returned (.bool (Q a b)) ∧ Below w.heap.size w w'
def isBehind (a b : Tx) : Bool := ahB b a
def isOut (a b : Tx) : Bool := b.out && ahB a b

set_option maxRecDepth 100000 in
set_option maxHeartbeats 2000000 in
theorem asks48 : Asks 79 isBehind := by
 intro a b ra wa rc wc ra2 wa2 rc2 wc2 w fa fb ta tb
 have TA : Hid (TRow w a ra wa) := ta
 have TB : Hid (TRow w b ra2 wa2) := tb
 have FA : Hid (TFit a) := fa
 have FB : Hid (TFit b) := fb
 clear fa fb ta tb
 have HB0 : Hid (Below w.heap.size w ((w.alloc (.cells #[.int .i64 a.id, .int .i64 a.st, .int .i64 a.snap, .int .i64 a.cs, .slice ra a.rs.length rc, .slice wa a.ws.length wc, .bool a.out, .string a.nm] 51)).alloc (.cells #[.int .i64 b.id, .int .i64 b.st, .int .i64 b.snap, .int .i64 b.cs, .slice ra2 b.rs.length rc2, .slice wa2 b.ws.length wc2, .bool b.out, .string b.nm] 51))) := ((belowRefl w).alloc (Nat.le_refl _) _).alloc (by simp) _
 have BA0 : Hid (Bx ((w.alloc (.cells #[.int .i64 a.id, .int .i64 a.st, .int .i64 a.snap, .int .i64 a.cs, .slice ra a.rs.length rc, .slice wa a.ws.length wc, .bool a.out, .string a.nm] 51)).alloc (.cells #[.int .i64 b.id, .int .i64 b.st, .int .i64 b.snap, .int .i64 b.cs, .slice ra2 b.rs.length rc2, .slice wa2 b.ws.length wc2, .bool b.out, .string b.nm] 51)) w.heap.size [.int .i64 a.id, .int .i64 a.st, .int .i64 a.snap, .int .i64 a.cs, .slice ra a.rs.length rc, .slice wa a.ws.length wc, .bool a.out, .string a.nm]) := (Bx.new w [.int .i64 a.id, .int .i64 a.st, .int .i64 a.snap, .int .i64 a.cs, .slice ra a.rs.length rc, .slice wa a.ws.length wc, .bool a.out, .string a.nm] 51).alloc _
 have BB0 : Hid (Bx ((w.alloc (.cells #[.int .i64 a.id, .int .i64 a.st, .int .i64 a.snap, .int .i64 a.cs, .slice ra a.rs.length rc, .slice wa a.ws.length wc, .bool a.out, .string a.nm] 51)).alloc (.cells #[.int .i64 b.id, .int .i64 b.st, .int .i64 b.snap, .int .i64 b.cs, .slice ra2 b.rs.length rc2, .slice wa2 b.ws.length wc2, .bool b.out, .string b.nm] 51)) (w.heap.size + 1) [.int .i64 b.id, .int .i64 b.st, .int .i64 b.snap, .int .i64 b.cs, .slice ra2 b.rs.length rc2, .slice wa2 b.ws.length wc2, .bool b.out, .string b.nm]) := by have h := Bx.new (w.alloc (.cells #[.int .i64 a.id, .int .i64 a.st, .int .i64 a.snap, .int .i64 a.cs, .slice ra a.rs.length rc, .slice wa a.ws.length wc, .bool a.out, .string a.nm] 51)) [.int .i64 b.id, .int .i64 b.st, .int .i64 b.snap, .int .i64 b.cs, .slice ra2 b.rs.length rc2, .slice wa2 b.ws.length wc2, .bool b.out, .string b.nm] 51; simpa [Hid] using h
 have H : Hid (∀ w1, Below w.heap.size w w1 → _) := (fun w1 h1 => iahead b a ra2 wa2 rc2 wc2 ra wa rc wc (Nat.le_trans FB.out.1 (by omega)) (Nat.le_trans FA.out.2.2.1 (by omega)) w1 (TB.out.r.below h1) (TA.out.w.below h1))
 go_enter Try.func79, Try.ntmps79
 go_wp2_with fail
 refine (H.out _ HB0.out).mono ?_
 rintro e w1 ⟨rfl, hb1⟩
 have HB1 : Hid (Below w.heap.size w w1) := HB0.out.trans (hb1.mono HB0.out.size)
 have BA1 : Hid (Bx w1 w.heap.size [.int .i64 a.id, .int .i64 a.st, .int .i64 a.snap, .int .i64 a.cs, .slice ra a.rs.length rc, .slice wa a.ws.length wc, .bool a.out, .string a.nm]) := BA0.out.below hb1
 have BB1 : Hid (Bx w1 (w.heap.size + 1) [.int .i64 b.id, .int .i64 b.st, .int .i64 b.snap, .int .i64 b.cs, .slice ra2 b.rs.length rc2, .slice wa2 b.ws.length wc2, .bool b.out, .string b.nm]) := BB0.out.below hb1
 go_wp2
 go_ret
 exact ⟨rfl, HB1.out⟩

set_option maxRecDepth 100000 in
set_option maxHeartbeats 2000000 in
theorem asks50 : Asks 91 ahB := by
 intro a b ra wa rc wc ra2 wa2 rc2 wc2 w fa fb ta tb
 have TA : Hid (TRow w a ra wa) := ta
 have TB : Hid (TRow w b ra2 wa2) := tb
 have FA : Hid (TFit a) := fa
 have FB : Hid (TFit b) := fb
 clear fa fb ta tb
 have HB0 : Hid (Below w.heap.size w ((w.alloc (.cells #[.int .i64 a.id, .int .i64 a.st, .int .i64 a.snap, .int .i64 a.cs, .slice ra a.rs.length rc, .slice wa a.ws.length wc, .bool a.out, .string a.nm] 51)).alloc (.cells #[.int .i64 b.id, .int .i64 b.st, .int .i64 b.snap, .int .i64 b.cs, .slice ra2 b.rs.length rc2, .slice wa2 b.ws.length wc2, .bool b.out, .string b.nm] 51))) := ((belowRefl w).alloc (Nat.le_refl _) _).alloc (by simp) _
 have BA0 : Hid (Bx ((w.alloc (.cells #[.int .i64 a.id, .int .i64 a.st, .int .i64 a.snap, .int .i64 a.cs, .slice ra a.rs.length rc, .slice wa a.ws.length wc, .bool a.out, .string a.nm] 51)).alloc (.cells #[.int .i64 b.id, .int .i64 b.st, .int .i64 b.snap, .int .i64 b.cs, .slice ra2 b.rs.length rc2, .slice wa2 b.ws.length wc2, .bool b.out, .string b.nm] 51)) w.heap.size [.int .i64 a.id, .int .i64 a.st, .int .i64 a.snap, .int .i64 a.cs, .slice ra a.rs.length rc, .slice wa a.ws.length wc, .bool a.out, .string a.nm]) := (Bx.new w [.int .i64 a.id, .int .i64 a.st, .int .i64 a.snap, .int .i64 a.cs, .slice ra a.rs.length rc, .slice wa a.ws.length wc, .bool a.out, .string a.nm] 51).alloc _
 have BB0 : Hid (Bx ((w.alloc (.cells #[.int .i64 a.id, .int .i64 a.st, .int .i64 a.snap, .int .i64 a.cs, .slice ra a.rs.length rc, .slice wa a.ws.length wc, .bool a.out, .string a.nm] 51)).alloc (.cells #[.int .i64 b.id, .int .i64 b.st, .int .i64 b.snap, .int .i64 b.cs, .slice ra2 b.rs.length rc2, .slice wa2 b.ws.length wc2, .bool b.out, .string b.nm] 51)) (w.heap.size + 1) [.int .i64 b.id, .int .i64 b.st, .int .i64 b.snap, .int .i64 b.cs, .slice ra2 b.rs.length rc2, .slice wa2 b.ws.length wc2, .bool b.out, .string b.nm]) := by have h := Bx.new (w.alloc (.cells #[.int .i64 a.id, .int .i64 a.st, .int .i64 a.snap, .int .i64 a.cs, .slice ra a.rs.length rc, .slice wa a.ws.length wc, .bool a.out, .string a.nm] 51)) [.int .i64 b.id, .int .i64 b.st, .int .i64 b.snap, .int .i64 b.cs, .slice ra2 b.rs.length rc2, .slice wa2 b.ws.length wc2, .bool b.out, .string b.nm] 51; simpa [Hid] using h
 have H : Hid (∀ w1, Below w.heap.size w w1 → _) := (fun w1 h1 => iahead a b ra wa rc wc ra2 wa2 rc2 wc2 (Nat.le_trans FA.out.1 (by omega)) (Nat.le_trans FB.out.2.2.1 (by omega)) w1 (TA.out.r.below h1) (TB.out.w.below h1))
 go_enter Try.func91, Try.ntmps91
 go_wp2_with fail
 refine (H.out _ HB0.out).mono ?_
 rintro e w1 ⟨rfl, hb1⟩
 have HB1 : Hid (Below w.heap.size w w1) := HB0.out.trans (hb1.mono HB0.out.size)
 have BA1 : Hid (Bx w1 w.heap.size [.int .i64 a.id, .int .i64 a.st, .int .i64 a.snap, .int .i64 a.cs, .slice ra a.rs.length rc, .slice wa a.ws.length wc, .bool a.out, .string a.nm]) := BA0.out.below hb1
 have BB1 : Hid (Bx w1 (w.heap.size + 1) [.int .i64 b.id, .int .i64 b.st, .int .i64 b.snap, .int .i64 b.cs, .slice ra2 b.rs.length rc2, .slice wa2 b.ws.length wc2, .bool b.out, .string b.nm]) := BB0.out.below hb1
 go_wp2
 go_ret
 exact ⟨rfl, HB1.out⟩

set_option maxRecDepth 100000 in
set_option maxHeartbeats 2000000 in
theorem asks52 : Asks 76 isOut := by
 intro a b ra wa rc wc ra2 wa2 rc2 wc2 w fa fb ta tb
 have TA : Hid (TRow w a ra wa) := ta
 have TB : Hid (TRow w b ra2 wa2) := tb
 have FA : Hid (TFit a) := fa
 have FB : Hid (TFit b) := fb
 clear fa fb ta tb
 have HB0 : Hid (Below w.heap.size w ((w.alloc (.cells #[.int .i64 a.id, .int .i64 a.st, .int .i64 a.snap, .int .i64 a.cs, .slice ra a.rs.length rc, .slice wa a.ws.length wc, .bool a.out, .string a.nm] 51)).alloc (.cells #[.int .i64 b.id, .int .i64 b.st, .int .i64 b.snap, .int .i64 b.cs, .slice ra2 b.rs.length rc2, .slice wa2 b.ws.length wc2, .bool b.out, .string b.nm] 51))) := ((belowRefl w).alloc (Nat.le_refl _) _).alloc (by simp) _
 have BA0 : Hid (Bx ((w.alloc (.cells #[.int .i64 a.id, .int .i64 a.st, .int .i64 a.snap, .int .i64 a.cs, .slice ra a.rs.length rc, .slice wa a.ws.length wc, .bool a.out, .string a.nm] 51)).alloc (.cells #[.int .i64 b.id, .int .i64 b.st, .int .i64 b.snap, .int .i64 b.cs, .slice ra2 b.rs.length rc2, .slice wa2 b.ws.length wc2, .bool b.out, .string b.nm] 51)) w.heap.size [.int .i64 a.id, .int .i64 a.st, .int .i64 a.snap, .int .i64 a.cs, .slice ra a.rs.length rc, .slice wa a.ws.length wc, .bool a.out, .string a.nm]) := (Bx.new w [.int .i64 a.id, .int .i64 a.st, .int .i64 a.snap, .int .i64 a.cs, .slice ra a.rs.length rc, .slice wa a.ws.length wc, .bool a.out, .string a.nm] 51).alloc _
 have BB0 : Hid (Bx ((w.alloc (.cells #[.int .i64 a.id, .int .i64 a.st, .int .i64 a.snap, .int .i64 a.cs, .slice ra a.rs.length rc, .slice wa a.ws.length wc, .bool a.out, .string a.nm] 51)).alloc (.cells #[.int .i64 b.id, .int .i64 b.st, .int .i64 b.snap, .int .i64 b.cs, .slice ra2 b.rs.length rc2, .slice wa2 b.ws.length wc2, .bool b.out, .string b.nm] 51)) (w.heap.size + 1) [.int .i64 b.id, .int .i64 b.st, .int .i64 b.snap, .int .i64 b.cs, .slice ra2 b.rs.length rc2, .slice wa2 b.ws.length wc2, .bool b.out, .string b.nm]) := by have h := Bx.new (w.alloc (.cells #[.int .i64 a.id, .int .i64 a.st, .int .i64 a.snap, .int .i64 a.cs, .slice ra a.rs.length rc, .slice wa a.ws.length wc, .bool a.out, .string a.nm] 51)) [.int .i64 b.id, .int .i64 b.st, .int .i64 b.snap, .int .i64 b.cs, .slice ra2 b.rs.length rc2, .slice wa2 b.ws.length wc2, .bool b.out, .string b.nm] 51; simpa [Hid] using h
 have H : Hid (∀ w1, Below w.heap.size w w1 → _) := (fun w1 h1 => iahead a b ra wa rc wc ra2 wa2 rc2 wc2 (Nat.le_trans FA.out.1 (by omega)) (Nat.le_trans FB.out.2.2.1 (by omega)) w1 (TA.out.r.below h1) (TB.out.w.below h1))
 cases ho : b.out
 ·have HR : Hid (isOut a b = false) := by show _ = _; simp [isOut, ho]
  rw [ho] at HB0 BA0 BB0 H
  go_enter Try.func76, Try.ntmps76
  go_wp2
  go_ret
  exact ⟨ret_bool HR.out.symm, HB0.out⟩
 ·have HR : Hid (isOut a b = ahB a b) := by show _ = _; simp [isOut, ho]
  rw [ho] at HB0 BA0 BB0 H
  go_enter Try.func76, Try.ntmps76
  go_wp2_with fail
  refine (H.out _ HB0.out).mono ?_
  rintro e w1 ⟨rfl, hb1⟩
  have HB1 : Hid (Below w.heap.size w w1) := HB0.out.trans (hb1.mono HB0.out.size)
  go_wp2
  go_ret
  exact ⟨ret_bool HR.out.symm, HB1.out⟩

set_option maxRecDepth 100000 in
set_option maxHeartbeats 2000000 in
theorem asks55 : Asks 73 blkB := by
 intro a b ra wa rc wc ra2 wa2 rc2 wc2 w fa fb ta tb
 have TA : Hid (TRow w a ra wa) := ta
 have TB : Hid (TRow w b ra2 wa2) := tb
 have FA : Hid (TFit a) := fa
 have FB : Hid (TFit b) := fb
 clear fa fb ta tb
 have HB0 : Hid (Below w.heap.size w ((w.alloc (.cells #[.int .i64 a.id, .int .i64 a.st, .int .i64 a.snap, .int .i64 a.cs, .slice ra a.rs.length rc, .slice wa a.ws.length wc, .bool a.out, .string a.nm] 51)).alloc (.cells #[.int .i64 b.id, .int .i64 b.st, .int .i64 b.snap, .int .i64 b.cs, .slice ra2 b.rs.length rc2, .slice wa2 b.ws.length wc2, .bool b.out, .string b.nm] 51))) := ((belowRefl w).alloc (Nat.le_refl _) _).alloc (by simp) _
 have BA0 : Hid (Bx ((w.alloc (.cells #[.int .i64 a.id, .int .i64 a.st, .int .i64 a.snap, .int .i64 a.cs, .slice ra a.rs.length rc, .slice wa a.ws.length wc, .bool a.out, .string a.nm] 51)).alloc (.cells #[.int .i64 b.id, .int .i64 b.st, .int .i64 b.snap, .int .i64 b.cs, .slice ra2 b.rs.length rc2, .slice wa2 b.ws.length wc2, .bool b.out, .string b.nm] 51)) w.heap.size [.int .i64 a.id, .int .i64 a.st, .int .i64 a.snap, .int .i64 a.cs, .slice ra a.rs.length rc, .slice wa a.ws.length wc, .bool a.out, .string a.nm]) := (Bx.new w [.int .i64 a.id, .int .i64 a.st, .int .i64 a.snap, .int .i64 a.cs, .slice ra a.rs.length rc, .slice wa a.ws.length wc, .bool a.out, .string a.nm] 51).alloc _
 have BB0 : Hid (Bx ((w.alloc (.cells #[.int .i64 a.id, .int .i64 a.st, .int .i64 a.snap, .int .i64 a.cs, .slice ra a.rs.length rc, .slice wa a.ws.length wc, .bool a.out, .string a.nm] 51)).alloc (.cells #[.int .i64 b.id, .int .i64 b.st, .int .i64 b.snap, .int .i64 b.cs, .slice ra2 b.rs.length rc2, .slice wa2 b.ws.length wc2, .bool b.out, .string b.nm] 51)) (w.heap.size + 1) [.int .i64 b.id, .int .i64 b.st, .int .i64 b.snap, .int .i64 b.cs, .slice ra2 b.rs.length rc2, .slice wa2 b.ws.length wc2, .bool b.out, .string b.nm]) := by have h := Bx.new (w.alloc (.cells #[.int .i64 a.id, .int .i64 a.st, .int .i64 a.snap, .int .i64 a.cs, .slice ra a.rs.length rc, .slice wa a.ws.length wc, .bool a.out, .string a.nm] 51)) [.int .i64 b.id, .int .i64 b.st, .int .i64 b.snap, .int .i64 b.cs, .slice ra2 b.rs.length rc2, .slice wa2 b.ws.length wc2, .bool b.out, .string b.nm] 51; simpa [Hid] using h
 have HS := hide (isees a b ra wa rc wc ra2 wa2 rc2 wc2)
 have HM : Hid (∀ w1, Below w.heap.size w w1 → _) := fun w1 h1 => imeets a.ws b.ws wa wa2 wc wc2 FA.out.2.2.1 FB.out.2.2.1 FA.out.2.2.2.1 FB.out.2.2.2.1 w1 (TA.out.w.below h1) (TB.out.w.below h1)
 by_cases h1 : a.id = b.id
 ·have HR : Hid (blkB a b = false) := by show _ = _; simp [blkB, h1]
  clear BA0 BB0 HB0
  go_enter Try.func73, Try.ntmps73
  go_wp2
  go_ret
  exact ⟨ret_bool HR.out.symm, ((belowRefl w).alloc (Nat.le_refl _) _).alloc (by simp) _⟩
 ·have h1' : decide (a.id = b.id) = false := by simp [h1]
  cases hs : seesB a b
  ·rw [hs] at HS
   by_cases k2 : b.st = 2
   ·have k2' : decide (b.st = 2) = true := by simp [k2]
    have k2b : (b.st == 2) = true := by simp [k2]
    have HR : Hid (blkB a b = meetB a.ws b.ws) := by show _ = _; simp [blkB, h1, hs, k2]
    clear hs k2
    go_enter Try.func73, Try.ntmps73
    go_wp2_with fail
    refine (HS.out _).mono ?_
    rintro e w1 ⟨rfl, hb1⟩
    have HB1 : Hid (Below w.heap.size w w1) := HB0.out.trans (hb1.mono HB0.out.size)
    have BA1 : Hid (Bx w1 w.heap.size [.int .i64 a.id, .int .i64 a.st, .int .i64 a.snap, .int .i64 a.cs, .slice ra a.rs.length rc, .slice wa a.ws.length wc, .bool a.out, .string a.nm]) := BA0.out.below hb1
    have BB1 : Hid (Bx w1 (w.heap.size + 1) [.int .i64 b.id, .int .i64 b.st, .int .i64 b.snap, .int .i64 b.cs, .slice ra2 b.rs.length rc2, .slice wa2 b.ws.length wc2, .bool b.out, .string b.nm]) := BB0.out.below hb1
    clear hb1
    have y1 := BB1.out.c1
    have y5 := BB1.out.c5
    have x5 := BA1.out.c5
    go_wp2_with fail
    refine (HM.out _ HB1.out).mono ?_
    rintro e w2 ⟨rfl, hb2⟩
    have HB2 : Hid (Below w.heap.size w w2) := HB1.out.trans (hb2.mono HB1.out.size)
    go_wp2
    go_ret
    exact ⟨ret_bool HR.out.symm, HB2.out⟩
   ·have k2' : decide (b.st = 2) = false := by simp [k2]
    by_cases k3 : b.st = 3
    ·have k3' : decide (b.st = 3) = true := by simp [k3]
     have k3b : (b.st == 3) = true := by simp [k3]
     have HR : Hid (blkB a b = meetB a.ws b.ws) := by show _ = _; simp [blkB, h1, hs, k3]
     clear hs k3
     go_enter Try.func73, Try.ntmps73
     go_wp2_with fail
     refine (HS.out _).mono ?_
     rintro e w1 ⟨rfl, hb1⟩
     have HB1 : Hid (Below w.heap.size w w1) := HB0.out.trans (hb1.mono HB0.out.size)
     have BA1 : Hid (Bx w1 w.heap.size [.int .i64 a.id, .int .i64 a.st, .int .i64 a.snap, .int .i64 a.cs, .slice ra a.rs.length rc, .slice wa a.ws.length wc, .bool a.out, .string a.nm]) := BA0.out.below hb1
     have BB1 : Hid (Bx w1 (w.heap.size + 1) [.int .i64 b.id, .int .i64 b.st, .int .i64 b.snap, .int .i64 b.cs, .slice ra2 b.rs.length rc2, .slice wa2 b.ws.length wc2, .bool b.out, .string b.nm]) := BB0.out.below hb1
     clear hb1
     have y1 := BB1.out.c1
     have y5 := BB1.out.c5
     have x5 := BA1.out.c5
     go_wp2_with fail
     refine (HM.out _ HB1.out).mono ?_
     rintro e w2 ⟨rfl, hb2⟩
     have HB2 : Hid (Below w.heap.size w w2) := HB1.out.trans (hb2.mono HB1.out.size)
     go_wp2
     go_ret
     exact ⟨ret_bool HR.out.symm, HB2.out⟩
    ·have k3' : decide (b.st = 3) = false := by simp [k3]
     have HR : Hid (blkB a b = false) := by show _ = _; simp [blkB, k2, k3]
     clear hs
     go_enter Try.func73, Try.ntmps73
     go_wp2_with fail
     refine (HS.out _).mono ?_
     rintro e w1 ⟨rfl, hb1⟩
     have HB1 : Hid (Below w.heap.size w w1) := HB0.out.trans (hb1.mono HB0.out.size)
     have BA1 : Hid (Bx w1 w.heap.size [.int .i64 a.id, .int .i64 a.st, .int .i64 a.snap, .int .i64 a.cs, .slice ra a.rs.length rc, .slice wa a.ws.length wc, .bool a.out, .string a.nm]) := BA0.out.below hb1
     have BB1 : Hid (Bx w1 (w.heap.size + 1) [.int .i64 b.id, .int .i64 b.st, .int .i64 b.snap, .int .i64 b.cs, .slice ra2 b.rs.length rc2, .slice wa2 b.ws.length wc2, .bool b.out, .string b.nm]) := BB0.out.below hb1
     clear hb1
     have y1 := BB1.out.c1
     go_wp2
     go_ret
     exact ⟨ret_bool HR.out.symm, HB1.out⟩
  ·rw [hs] at HS
   have HR : Hid (blkB a b = false) := by show _ = _; simp [blkB, hs]
   clear hs
   go_enter Try.func73, Try.ntmps73
   go_wp2_with fail
   refine (HS.out _).mono ?_
   rintro e w1 ⟨rfl, hb1⟩
   have HB1 : Hid (Below w.heap.size w w1) := HB0.out.trans (hb1.mono HB0.out.size)
   have BA1 : Hid (Bx w1 w.heap.size [.int .i64 a.id, .int .i64 a.st, .int .i64 a.snap, .int .i64 a.cs, .slice ra a.rs.length rc, .slice wa a.ws.length wc, .bool a.out, .string a.nm]) := BA0.out.below hb1
   have BB1 : Hid (Bx w1 (w.heap.size + 1) [.int .i64 b.id, .int .i64 b.st, .int .i64 b.snap, .int .i64 b.cs, .slice ra2 b.rs.length rc2, .slice wa2 b.ws.length wc2, .bool b.out, .string b.nm]) := BB0.out.below hb1
   go_wp2
   go_ret
   exact ⟨ret_bool HR.out.symm, HB1.out⟩

end Go.Proofs.Ytjeicgibddfifaa

/- A record as it is read. -/
import Derived.Test.YtpnnncfbodfnhaaGreatDoorPr16
import Derived.Test.YtpnnncfbodfnhaaGreatDoorPr23
import Derived.Test.YtpnnncfbodfnhaaGreatDoorPr28
import Derived.Test.YtpnnncfbodfnhaaGreatDoorPr04
import Derived.Deep.MidRow
import Derived.Test.YtpnnncfbodfnhaaGreatDoorPr08
namespace Go.Proofs.YtpnnncfbodfnhaaGreatDoor
open Go.RowKit
open KM
open VM
attribute [local go_sem ↓] Go.wp_at_zero Go.wp_at_succ

def rcT (k : Int) (t : Tx) : Rc := ⟨k, ta0 t, ⟨#[]⟩, false, zB⟩
def rcE (s : ByteArray) (f : Bool) : Rc := ⟨3, ta0 zT, s, f, zB⟩
def rcB (b : Bb) : Rc := ⟨4, ta0 zT, ⟨#[]⟩, false, b⟩
def rRc (x : ByteArray) (p : Int) : Option (Rc × Nat) :=
 match rN x p with
 | none => none
 | some a1 =>
  if a1.1 = 1 ∨ a1.1 = 2 then
   match rTx x (a1.2 : Int) with
   | none => none
   | some a2 => if recB (rcT a1.1 a2.1) = true then some (rcT a1.1 a2.1, a2.2) else none
  else if a1.1 = 3 then
   match rS x (a1.2 : Int) with
   | none => none
   | some a2 => match rF x (a2.2 : Int) with
    | none => none
    | some a3 => if recB (rcE a2.1 a3.1) = true then some (rcE a2.1 a3.1, a3.2) else none
  else if a1.1 = 4 then
   match rBs x (a1.2 : Int) with
   | none => none
   | some a2 => if recB (rcB a2.1) = true then some (rcB a2.1, a2.2) else none
  else none
theorem zT_fit : TFit zT := ⟨(by show 0 ≤ _; omega), (fun x hx => by cases hx), (by show 0 ≤ _; omega), (fun x hx => by cases hx), (by show 0 ≤ _; omega)⟩
theorem zB_fit : BFit zB := ⟨by show 0 ≤ _; omega, (fun x hx => by cases hx), ⟨by show 0 ≤ _; omega, fun x hx => by cases hx⟩, ⟨by show 0 ≤ _; omega, fun x hx => by cases hx⟩⟩
theorem zB_none : (zB.pa = none → zB.ps.length = 0 ∧ zB.pc = 0) ∧ (zB.qa = none → zB.qs.length = 0 ∧ zB.qc = 0) := ⟨fun _ => ⟨rfl, rfl⟩, fun _ => ⟨rfl, rfl⟩⟩
theorem rBs_q {x : ByteArray} {p : Int} {s : Bb} {q : Nat} (h : rBs x p = some (s, q)) : sbB s = true := by
 unfold rBs at h
 iterate 5
  split at h
  ·cases h
 split at h
 ·rename_i ht
  cases h
  exact ht
 ·cases h

def zR : Rc := ⟨0, ta0 zT, ⟨#[]⟩, false, zB⟩
def ansR (x : ByteArray) : Rc × Bool :=
 match rRc x 0 with
 | none => (zR, false)
 | some r => if r.2 < x.size then (zR, false) else (r.1, true)
theorem zRlie (w : World) (lo hi : Nat) (h : lo ≤ hi) : RcLie w lo hi zR := ⟨hi, h, Nat.le_refl _, zlie _ _ _ h, zBlie _ _ _ (Nat.le_refl _)⟩
theorem zRsame : RcSame zR zR := ⟨rfl, rfl, rfl, rfl, ⟨rfl, rfl, rfl, rfl, rfl⟩⟩

end Go.Proofs.YtpnnncfbodfnhaaGreatDoor

namespace Go.Proofs.YtpnnncfbodfnhaaGreatDoor
open Go.RowKit
open KM

theorem Bx.range16 {w : World} {b : Nat} {cs : List Value} (h : Bx w b cs) : w.rangeAt b 0 cs := fun j v hv => by
 obtain ⟨hj, rfl⟩ := List.getElem?_eq_some_iff.1 hv
 rw [Nat.zero_add, h.at' j hj, List.getElem?_eq_getElem hj]
theorem Bx.there16 {w : World} {b : Nat} {cs : List Value} (h : Bx w b cs) : w.there b 0 cs.length := fun j hj => by
 rw [Nat.zero_add]
 exact ⟨by rw [h.at' j hj, List.getElem?_eq_getElem hj]; rfl, h.fz j⟩
theorem wpLoad16 {ops : Array Oper} {rest : List Oper} {op : Oper} {a : Act} {w : World} {Q : Exit → Act → World → Prop} {b : Nat} {v0 v1 v2 v3 v4 v5 v6 v7 v8 v9 v10 v11 v12 v13 v14 v15 : Value} (hgd : op.guard = none) (ty : TypeId) (x : Operand) (ho : op.op = .load ty x) (d : TypeDesc) (hu : Tryz.prog.underlying ty = some d) (hd : d.isRow = true) (hi : (Tryz.prog.info? ty).map (·.size) = some 16)
  (hx : a.eval x = .pointer (some ⟨b, 0, none⟩)) (hc : Bx w b [v0, v1, v2, v3, v4, v5, v6, v7, v8, v9, v10, v11, v12, v13, v14, v15])
  (h : wpList Tryz.prog ops Q rest (a.put op.dst (.agg #[v0, v1, v2, v3, v4, v5, v6, v7, v8, v9, v10, v11, v12, v13, v14, v15])) w) : wpList Tryz.prog ops Q (op :: rest) a w :=
 wpList_load_mid hgd ty x ho b 0 hx [v0, v1, v2, v3, v4, v5, v6, v7, v8, v9, v10, v11, v12, v13, v14, v15] d hc.range16 hu hd hi h
theorem wpStore16 {ops : Array Oper} {rest : List Oper} {op : Oper} {a : Act} {w : World} {Q : Exit → Act → World → Prop} {b : Nat} {v0 v1 v2 v3 v4 v5 v6 v7 v8 v9 v10 v11 v12 v13 v14 v15 u0 u1 u2 u3 u4 u5 u6 u7 u8 u9 u10 u11 u12 u13 u14 u15 : Value} (hgd : op.guard = none) (ty : TypeId) (x y : Operand) (ho : op.op = .store ty x y) (hi : (Tryz.prog.info? ty).map (·.size) = some 16)
  (hx : a.eval x = .pointer (some ⟨b, 0, none⟩)) (hy : a.eval y = .agg #[v0, v1, v2, v3, v4, v5, v6, v7, v8, v9, v10, v11, v12, v13, v14, v15]) (hc : Bx w b [u0, u1, u2, u3, u4, u5, u6, u7, u8, u9, u10, u11, u12, u13, u14, u15]) (h1 : ∀ v ∈ [v0, v1, v2, v3, v4, v5, v6, v7, v8, v9, v10, v11, v12, v13, v14, v15], v.oneCell' = true)
  (h : wpList Tryz.prog ops Q rest (a.put op.dst undef) ((((((((((((((((w.setCell ⟨b, 0, none⟩ v0).setCell ⟨b, 1, none⟩ v1).setCell ⟨b, 2, none⟩ v2).setCell ⟨b, 3, none⟩ v3).setCell ⟨b, 4, none⟩ v4).setCell ⟨b, 5, none⟩ v5).setCell ⟨b, 6, none⟩ v6).setCell ⟨b, 7, none⟩ v7).setCell ⟨b, 8, none⟩ v8).setCell ⟨b, 9, none⟩ v9).setCell ⟨b, 10, none⟩ v10).setCell ⟨b, 11, none⟩ v11).setCell ⟨b, 12, none⟩ v12).setCell ⟨b, 13, none⟩ v13).setCell ⟨b, 14, none⟩ v14).setCell ⟨b, 15, none⟩ v15)) : wpList Tryz.prog ops Q (op :: rest) a w :=
 wpList_store_mid hgd ty x y ho b 0 #[v0, v1, v2, v3, v4, v5, v6, v7, v8, v9, v10, v11, v12, v13, v14, v15] hx hy hc.there16 hi (all_oneCell_toArray (cs := [v0, v1, v2, v3, v4, v5, v6, v7, v8, v9, v10, v11, v12, v13, v14, v15]) h1) h
end Go.Proofs.YtpnnncfbodfnhaaGreatDoor

namespace Go.Proofs.YtpnnncfbodfnhaaGreatDoor
open Go.RowKit
theorem zn_set (w : World) (b i : Nat) (v : Value) : Zn b (b + 1) w (w.setCell ⟨b, i, none⟩ v) :=
 ⟨rfl, rfl, rfl, by simp [World.setCell], fun j _ hn => Below.heap_setCell _ _ _ _ (fun e => by simp only at e; omega)⟩
theorem wpStore16K {ops : Array Oper} {rest : List Oper} {op : Oper} {a : Act} {w : World} {Q : Exit → Act → World → Prop} {b : Nat} (v0 v1 v2 v3 v4 v5 v6 v7 v8 v9 v10 v11 v12 v13 v14 v15 : Value) {u0 u1 u2 u3 u4 u5 u6 u7 u8 u9 u10 u11 u12 u13 u14 u15 : Value} (hgd : op.guard = none) (ty : TypeId) (x y : Operand) (ho : op.op = .store ty x y) (hi : (Tryz.prog.info? ty).map (·.size) = some 16)
  (hx : a.eval x = .pointer (some ⟨b, 0, none⟩)) (hy : a.eval y = .agg #[v0, v1, v2, v3, v4, v5, v6, v7, v8, v9, v10, v11, v12, v13, v14, v15]) (hc : Bx w b [u0, u1, u2, u3, u4, u5, u6, u7, u8, u9, u10, u11, u12, u13, u14, u15]) (h1 : ∀ v ∈ [v0, v1, v2, v3, v4, v5, v6, v7, v8, v9, v10, v11, v12, v13, v14, v15], v.oneCell' = true)
  (h : ∀ W, Bx W b [v0, v1, v2, v3, v4, v5, v6, v7, v8, v9, v10, v11, v12, v13, v14, v15] → Zn b (b + 1) w W → wpList Tryz.prog ops Q rest (a.put op.dst undef) W) : wpList Tryz.prog ops Q (op :: rest) a w :=
 wpStore16 hgd ty x y ho hi hx hy hc h1 (h _ ((((((((((((((((hc.set 0 v0).set 1 v1).set 2 v2).set 3 v3).set 4 v4).set 5 v5).set 6 v6).set 7 v7).set 8 v8).set 9 v9).set 10 v10).set 11 v11).set 12 v12).set 13 v13).set 14 v14).set 15 v15) ((((((((((((((((zn_set w b 0 v0).trans (zn_set _ b 1 v1)).trans (zn_set _ b 2 v2)).trans (zn_set _ b 3 v3)).trans (zn_set _ b 4 v4)).trans (zn_set _ b 5 v5)).trans (zn_set _ b 6 v6)).trans (zn_set _ b 7 v7)).trans (zn_set _ b 8 v8)).trans (zn_set _ b 9 v9)).trans (zn_set _ b 10 v10)).trans (zn_set _ b 11 v11)).trans (zn_set _ b 12 v12)).trans (zn_set _ b 13 v13)).trans (zn_set _ b 14 v14)).trans (zn_set _ b 15 v15)))
end Go.Proofs.YtpnnncfbodfnhaaGreatDoor

namespace Go.Proofs.YtpnnncfbodfnhaaGreatDoor
open Go.RowKit
open KM
open VM
attribute [local go_sem ↓] Go.wp_at_zero Go.wp_at_succ

set_option maxRecDepth 100000 in
set_option maxHeartbeats 4000000 in
theorem irc0 (x : ByteArray) (g : Nat) (p : Int) (hs : x.size ≤ 1048576) (n q1 : Nat) (hn : rN x p = some (n, q1)) (k1 : n ≠ 1) (k2 : n ≠ 2) (k3 : n ≠ 3) (k4 : n ≠ 4) (w : World) (hd : Rd w g x p) :
  Calls Tryz.prog 38 #[.pointer (some ⟨g, 0, none⟩)] w fun e w' => w.grownBy w' (some g) ∧ ((e = .panicked PAN ∧ rRc x p = none) ∨ ∃ s q c, rRc x p = some (s, q) ∧ q ≤ x.size ∧ e = .returned (.agg #[.int .i64 c.k, .int .i64 c.t.t.id, .int .i64 c.t.t.st, .int .i64 c.t.t.snap, .int .i64 c.t.t.cs, .slice c.t.ra c.t.t.rs.length c.t.rc, .slice c.t.wa c.t.t.ws.length c.t.wc, .bool c.t.t.out, .string c.t.t.nm, .string c.nm, .bool c.yes, .slice c.b.va c.b.vs.length c.b.vc, .slice c.b.pa c.b.ps.length c.b.pc, .slice c.b.qa c.b.qs.length c.b.qc, .int .i64 c.b.cs, .int .i64 c.b.nx]) ∧ RcSame s c ∧ RcLie w' w.heap.size w'.heap.size c ∧ Rd w' g x (q : Int)) := by
 have hgl := hd.lt
 have HN := hide hn
 have HD0 : Hid (Rd (w.alloc (.cells #[.int .i64 0, .int .i64 0, .int .i64 0, .int .i64 0, .int .i64 0, .slice none 0 0, .slice none 0 0, .bool false, .string ⟨#[]⟩, .string ⟨#[]⟩, .bool false, .slice none 0 0, .slice none 0 0, .slice none 0 0, .int .i64 0, .int .i64 0] 44)) g x p) := hd.alloc _
 have BR0 : Hid (Bx (w.alloc (.cells #[.int .i64 0, .int .i64 0, .int .i64 0, .int .i64 0, .int .i64 0, .slice none 0 0, .slice none 0 0, .bool false, .string ⟨#[]⟩, .string ⟨#[]⟩, .bool false, .slice none 0 0, .slice none 0 0, .slice none 0 0, .int .i64 0, .int .i64 0] 44)) w.heap.size [.int .i64 0, .int .i64 0, .int .i64 0, .int .i64 0, .int .i64 0, .slice none 0 0, .slice none 0 0, .bool false, .string ⟨#[]⟩, .string ⟨#[]⟩, .bool false, .slice none 0 0, .slice none 0 0, .slice none 0 0, .int .i64 0, .int .i64 0]) := Bx.new w [.int .i64 0, .int .i64 0, .int .i64 0, .int .i64 0, .int .i64 0, .slice none 0 0, .slice none 0 0, .bool false, .string ⟨#[]⟩, .string ⟨#[]⟩, .bool false, .slice none 0 0, .slice none 0 0, .slice none 0 0, .int .i64 0, .int .i64 0] 44
 have HG0 : Hid (w.grownBy (w.alloc (.cells #[.int .i64 0, .int .i64 0, .int .i64 0, .int .i64 0, .int .i64 0, .slice none 0 0, .slice none 0 0, .bool false, .string ⟨#[]⟩, .string ⟨#[]⟩, .bool false, .slice none 0 0, .slice none 0 0, .slice none 0 0, .int .i64 0, .int .i64 0] 44)) (some g)) := grown_below _ ((belowRefl w).alloc (Nat.le_refl _) _)
 have hgz : w.heap.size ≠ g := by omega
 clear hd hn
 have e1 : ((n : Int) == 1) = false := by simp; omega
 have e2 : ((n : Int) == 2) = false := by simp; omega
 have e3 : ((n : Int) == 3) = false := by simp; omega
 have e4 : ((n : Int) == 4) = false := by simp; omega
 go_enter Tryz.func38, Tryz.ntmps38
 go_wp2_with fail
 generalize hWW : (w.alloc (.cells #[.int .i64 0, .int .i64 0, .int .i64 0, .int .i64 0, .int .i64 0, .slice none 0 0, .slice none 0 0, .bool false, .string ⟨#[]⟩, .string ⟨#[]⟩, .bool false, .slice none 0 0, .slice none 0 0, .slice none 0 0, .int .i64 0, .int .i64 0] 44)) = W0 at HD0 BR0 HG0 ⊢
 have SZ : Hid (W0.heap.size = w.heap.size + 1) := by show _ = _; rw [← hWW]; exact World.size_alloc _ _
 clear hWW
 have K0 : Hid (w.heap.size + 1 ≤ W0.heap.size) := by show _ ≤ _; rw [SZ.out]; exact Nat.le_refl _
 clear SZ
 refine (inum_yes x g _ hs n q1 HN.out _ HD0.out).mono ?_
 rintro e w1 ⟨rfl, hd, hg⟩
 have HD1 := hide hd
 have BR1 := hide (BR0.out.grown hg hgz)
 have HG1 := hide (grown_trans HG0.out hg)
 have K1 : Hid (w.heap.size + 1 ≤ w1.heap.size) := Nat.le_trans K0.out hg.size
 clear hd hg HD0 BR0 HG0
 have hb1 : Below w1.heap.size w1 (w1.alloc (.cells #[.int .i64 (n : Int), .int .i64 0, .int .i64 0, .int .i64 0, .int .i64 0, .slice none 0 0, .slice none 0 0, .bool false, .string ⟨#[]⟩, .string ⟨#[]⟩, .bool false, .slice none 0 0, .slice none 0 0, .slice none 0 0, .int .i64 0, .int .i64 0] 44)) := (belowRefl w1).alloc (Nat.le_refl _) _
 have HD2 : Hid (Rd (w1.alloc (.cells #[.int .i64 (n : Int), .int .i64 0, .int .i64 0, .int .i64 0, .int .i64 0, .slice none 0 0, .slice none 0 0, .bool false, .string ⟨#[]⟩, .string ⟨#[]⟩, .bool false, .slice none 0 0, .slice none 0 0, .slice none 0 0, .int .i64 0, .int .i64 0] 44)) g x (q1 : Int)) := HD1.out.below hb1
 have BR2 : Hid (Bx (w1.alloc (.cells #[.int .i64 (n : Int), .int .i64 0, .int .i64 0, .int .i64 0, .int .i64 0, .slice none 0 0, .slice none 0 0, .bool false, .string ⟨#[]⟩, .string ⟨#[]⟩, .bool false, .slice none 0 0, .slice none 0 0, .slice none 0 0, .int .i64 0, .int .i64 0] 44)) w.heap.size [.int .i64 0, .int .i64 0, .int .i64 0, .int .i64 0, .int .i64 0, .slice none 0 0, .slice none 0 0, .bool false, .string ⟨#[]⟩, .string ⟨#[]⟩, .bool false, .slice none 0 0, .slice none 0 0, .slice none 0 0, .int .i64 0, .int .i64 0]) := BR1.out.below hb1
 have HG2 : Hid (w.grownBy (w1.alloc (.cells #[.int .i64 (n : Int), .int .i64 0, .int .i64 0, .int .i64 0, .int .i64 0, .slice none 0 0, .slice none 0 0, .bool false, .string ⟨#[]⟩, .string ⟨#[]⟩, .bool false, .slice none 0 0, .slice none 0 0, .slice none 0 0, .int .i64 0, .int .i64 0] 44)) (some g)) := grown_trans HG1.out (grown_below _ hb1)
 have BX2 : Hid (Bx (w1.alloc (.cells #[.int .i64 (n : Int), .int .i64 0, .int .i64 0, .int .i64 0, .int .i64 0, .slice none 0 0, .slice none 0 0, .bool false, .string ⟨#[]⟩, .string ⟨#[]⟩, .bool false, .slice none 0 0, .slice none 0 0, .slice none 0 0, .int .i64 0, .int .i64 0] 44)) w1.heap.size [.int .i64 (n : Int), .int .i64 0, .int .i64 0, .int .i64 0, .int .i64 0, .slice none 0 0, .slice none 0 0, .bool false, .string ⟨#[]⟩, .string ⟨#[]⟩, .bool false, .slice none 0 0, .slice none 0 0, .slice none 0 0, .int .i64 0, .int .i64 0]) := Bx.new w1 [.int .i64 (n : Int), .int .i64 0, .int .i64 0, .int .i64 0, .int .i64 0, .slice none 0 0, .slice none 0 0, .bool false, .string ⟨#[]⟩, .string ⟨#[]⟩, .bool false, .slice none 0 0, .slice none 0 0, .slice none 0 0, .int .i64 0, .int .i64 0] 44
 have S2 : Hid (w1.heap.size + 1 ≤ (w1.alloc (.cells #[.int .i64 (n : Int), .int .i64 0, .int .i64 0, .int .i64 0, .int .i64 0, .slice none 0 0, .slice none 0 0, .bool false, .string ⟨#[]⟩, .string ⟨#[]⟩, .bool false, .slice none 0 0, .slice none 0 0, .slice none 0 0, .int .i64 0, .int .i64 0] 44)).heap.size) := by show _ ≤ _; rw [World.size_alloc]; exact Nat.le_refl _
 clear hb1 HD1 BR1 HG1
 have HX : Hid (rRc x p = none) := by show _ = _; simp only [rRc, HN.out]; rw [if_neg (by omega), if_neg (by omega), if_neg (by omega)]
 have HRB : Hid (recB ⟨(n : Int), ⟨zT, none, 0, none, 0⟩, ⟨#[]⟩, false, zB⟩ = false) := by
  show _ = _
  unfold recB
  simp only [show ¬ (n : Int) = 1 by omega, show ¬ (n : Int) = 2 by omega, show ¬ (n : Int) = 3 by omega, show ¬ (n : Int) = 4 by omega, decide_false, Bool.false_and, Bool.or_self]
 have C1 : Hid (∀ W, RcRows W ⟨(n : Int), ⟨zT, none, 0, none, 0⟩, ⟨#[]⟩, false, zB⟩ → Calls Tryz.prog 81 #[.agg #[.int .i64 (n : Int), .int .i64 0, .int .i64 0, .int .i64 0, .int .i64 0, .slice none 0 0, .slice none 0 0, .bool false, .string ⟨#[]⟩, .string ⟨#[]⟩, .bool false, .slice none 0 0, .slice none 0 0, .slice none 0 0, .int .i64 0, .int .i64 0]] W fun e w' => e = .returned (.bool false) ∧ Below W.heap.size W w') := fun W h => by
  have k := irec ⟨(n : Int), ⟨zT, none, 0, none, 0⟩, ⟨#[]⟩, false, zB⟩ ⟨zT_fit, by show 0 ≤ _; omega, zB_fit⟩ zB_none.1 zB_none.2 W h
  rw [HRB.out] at k
  exact k
 have HRw : Hid (RcRows (w1.alloc (.cells #[.int .i64 (n : Int), .int .i64 0, .int .i64 0, .int .i64 0, .int .i64 0, .slice none 0 0, .slice none 0 0, .bool false, .string ⟨#[]⟩, .string ⟨#[]⟩, .bool false, .slice none 0 0, .slice none 0 0, .slice none 0 0, .int .i64 0, .int .i64 0] 44)) ⟨(n : Int), ⟨zT, none, 0, none, 0⟩, ⟨#[]⟩, false, zB⟩) := (show RcLie (w1.alloc (.cells #[.int .i64 (n : Int), .int .i64 0, .int .i64 0, .int .i64 0, .int .i64 0, .slice none 0 0, .slice none 0 0, .bool false, .string ⟨#[]⟩, .string ⟨#[]⟩, .bool false, .slice none 0 0, .slice none 0 0, .slice none 0 0, .int .i64 0, .int .i64 0] 44)) (w1.alloc (.cells #[.int .i64 (n : Int), .int .i64 0, .int .i64 0, .int .i64 0, .int .i64 0, .slice none 0 0, .slice none 0 0, .bool false, .string ⟨#[]⟩, .string ⟨#[]⟩, .bool false, .slice none 0 0, .slice none 0 0, .slice none 0 0, .int .i64 0, .int .i64 0] 44)).heap.size (w1.alloc (.cells #[.int .i64 (n : Int), .int .i64 0, .int .i64 0, .int .i64 0, .int .i64 0, .slice none 0 0, .slice none 0 0, .bool false, .string ⟨#[]⟩, .string ⟨#[]⟩, .bool false, .slice none 0 0, .slice none 0 0, .slice none 0 0, .int .i64 0, .int .i64 0] 44)).heap.size ⟨(n : Int), ⟨zT, none, 0, none, 0⟩, ⟨#[]⟩, false, zB⟩ from ⟨_, Nat.le_refl _, Nat.le_refl _, zlie _ _ _ (Nat.le_refl _), zBlie _ _ _ (Nat.le_refl _)⟩).rows
 clear k1 k2 k3 k4
 go_wp2_with fail
 refine (C1.out _ HRw.out).mono ?_
 rintro e wA ⟨rfl, hb⟩
 have HGA := hide (grown_trans HG2.out (grown_below (some g) hb))
 clear hb
 go_wp2
 exact ⟨rfl, HGA.out, Or.inl ⟨rfl, HX.out⟩⟩

set_option maxRecDepth 100000 in
set_option maxHeartbeats 4000000 in
theorem irc3 (x : ByteArray) (g : Nat) (p : Int) (hs : x.size ≤ 1048576) (q1 : Nat) (hn : rN x p = some (3, q1)) (w : World) (hd : Rd w g x p) :
  Calls Tryz.prog 38 #[.pointer (some ⟨g, 0, none⟩)] w fun e w' => w.grownBy w' (some g) ∧ ((e = .panicked PAN ∧ rRc x p = none) ∨ ∃ s q c, rRc x p = some (s, q) ∧ q ≤ x.size ∧ e = .returned (.agg #[.int .i64 c.k, .int .i64 c.t.t.id, .int .i64 c.t.t.st, .int .i64 c.t.t.snap, .int .i64 c.t.t.cs, .slice c.t.ra c.t.t.rs.length c.t.rc, .slice c.t.wa c.t.t.ws.length c.t.wc, .bool c.t.t.out, .string c.t.t.nm, .string c.nm, .bool c.yes, .slice c.b.va c.b.vs.length c.b.vc, .slice c.b.pa c.b.ps.length c.b.pc, .slice c.b.qa c.b.qs.length c.b.qc, .int .i64 c.b.cs, .int .i64 c.b.nx]) ∧ RcSame s c ∧ RcLie w' w.heap.size w'.heap.size c ∧ Rd w' g x (q : Int)) := by
 have hgl := hd.lt
 have HN := hide hn
 have HD0 : Hid (Rd (w.alloc (.cells #[.int .i64 0, .int .i64 0, .int .i64 0, .int .i64 0, .int .i64 0, .slice none 0 0, .slice none 0 0, .bool false, .string ⟨#[]⟩, .string ⟨#[]⟩, .bool false, .slice none 0 0, .slice none 0 0, .slice none 0 0, .int .i64 0, .int .i64 0] 44)) g x p) := hd.alloc _
 have BR0 : Hid (Bx (w.alloc (.cells #[.int .i64 0, .int .i64 0, .int .i64 0, .int .i64 0, .int .i64 0, .slice none 0 0, .slice none 0 0, .bool false, .string ⟨#[]⟩, .string ⟨#[]⟩, .bool false, .slice none 0 0, .slice none 0 0, .slice none 0 0, .int .i64 0, .int .i64 0] 44)) w.heap.size [.int .i64 0, .int .i64 0, .int .i64 0, .int .i64 0, .int .i64 0, .slice none 0 0, .slice none 0 0, .bool false, .string ⟨#[]⟩, .string ⟨#[]⟩, .bool false, .slice none 0 0, .slice none 0 0, .slice none 0 0, .int .i64 0, .int .i64 0]) := Bx.new w [.int .i64 0, .int .i64 0, .int .i64 0, .int .i64 0, .int .i64 0, .slice none 0 0, .slice none 0 0, .bool false, .string ⟨#[]⟩, .string ⟨#[]⟩, .bool false, .slice none 0 0, .slice none 0 0, .slice none 0 0, .int .i64 0, .int .i64 0] 44
 have HG0 : Hid (w.grownBy (w.alloc (.cells #[.int .i64 0, .int .i64 0, .int .i64 0, .int .i64 0, .int .i64 0, .slice none 0 0, .slice none 0 0, .bool false, .string ⟨#[]⟩, .string ⟨#[]⟩, .bool false, .slice none 0 0, .slice none 0 0, .slice none 0 0, .int .i64 0, .int .i64 0] 44)) (some g)) := grown_below _ ((belowRefl w).alloc (Nat.le_refl _) _)
 have hgz : w.heap.size ≠ g := by omega
 clear hd hn
 go_enter Tryz.func38, Tryz.ntmps38
 go_wp2_with fail
 generalize hWW : (w.alloc (.cells #[.int .i64 0, .int .i64 0, .int .i64 0, .int .i64 0, .int .i64 0, .slice none 0 0, .slice none 0 0, .bool false, .string ⟨#[]⟩, .string ⟨#[]⟩, .bool false, .slice none 0 0, .slice none 0 0, .slice none 0 0, .int .i64 0, .int .i64 0] 44)) = W0 at HD0 BR0 HG0 ⊢
 have SZ : Hid (W0.heap.size = w.heap.size + 1) := by show _ = _; rw [← hWW]; exact World.size_alloc _ _
 clear hWW
 have K0 : Hid (w.heap.size + 1 ≤ W0.heap.size) := by show _ ≤ _; rw [SZ.out]; exact Nat.le_refl _
 clear SZ
 refine (inum_yes x g _ hs 3 q1 HN.out _ HD0.out).mono ?_
 rintro e w1 ⟨rfl, hd, hg⟩
 have HD1 := hide hd
 have BR1 := hide (BR0.out.grown hg hgz)
 have HG1 := hide (grown_trans HG0.out hg)
 have K1 : Hid (w.heap.size + 1 ≤ w1.heap.size) := Nat.le_trans K0.out hg.size
 clear hd hg HD0 BR0 HG0
 have hb1 : Below w1.heap.size w1 (w1.alloc (.cells #[.int .i64 3, .int .i64 0, .int .i64 0, .int .i64 0, .int .i64 0, .slice none 0 0, .slice none 0 0, .bool false, .string ⟨#[]⟩, .string ⟨#[]⟩, .bool false, .slice none 0 0, .slice none 0 0, .slice none 0 0, .int .i64 0, .int .i64 0] 44)) := (belowRefl w1).alloc (Nat.le_refl _) _
 have HD2 : Hid (Rd (w1.alloc (.cells #[.int .i64 3, .int .i64 0, .int .i64 0, .int .i64 0, .int .i64 0, .slice none 0 0, .slice none 0 0, .bool false, .string ⟨#[]⟩, .string ⟨#[]⟩, .bool false, .slice none 0 0, .slice none 0 0, .slice none 0 0, .int .i64 0, .int .i64 0] 44)) g x (q1 : Int)) := HD1.out.below hb1
 have BR2 : Hid (Bx (w1.alloc (.cells #[.int .i64 3, .int .i64 0, .int .i64 0, .int .i64 0, .int .i64 0, .slice none 0 0, .slice none 0 0, .bool false, .string ⟨#[]⟩, .string ⟨#[]⟩, .bool false, .slice none 0 0, .slice none 0 0, .slice none 0 0, .int .i64 0, .int .i64 0] 44)) w.heap.size [.int .i64 0, .int .i64 0, .int .i64 0, .int .i64 0, .int .i64 0, .slice none 0 0, .slice none 0 0, .bool false, .string ⟨#[]⟩, .string ⟨#[]⟩, .bool false, .slice none 0 0, .slice none 0 0, .slice none 0 0, .int .i64 0, .int .i64 0]) := BR1.out.below hb1
 have HG2 : Hid (w.grownBy (w1.alloc (.cells #[.int .i64 3, .int .i64 0, .int .i64 0, .int .i64 0, .int .i64 0, .slice none 0 0, .slice none 0 0, .bool false, .string ⟨#[]⟩, .string ⟨#[]⟩, .bool false, .slice none 0 0, .slice none 0 0, .slice none 0 0, .int .i64 0, .int .i64 0] 44)) (some g)) := grown_trans HG1.out (grown_below _ hb1)
 have BX2 : Hid (Bx (w1.alloc (.cells #[.int .i64 3, .int .i64 0, .int .i64 0, .int .i64 0, .int .i64 0, .slice none 0 0, .slice none 0 0, .bool false, .string ⟨#[]⟩, .string ⟨#[]⟩, .bool false, .slice none 0 0, .slice none 0 0, .slice none 0 0, .int .i64 0, .int .i64 0] 44)) w1.heap.size [.int .i64 3, .int .i64 0, .int .i64 0, .int .i64 0, .int .i64 0, .slice none 0 0, .slice none 0 0, .bool false, .string ⟨#[]⟩, .string ⟨#[]⟩, .bool false, .slice none 0 0, .slice none 0 0, .slice none 0 0, .int .i64 0, .int .i64 0]) := Bx.new w1 [.int .i64 3, .int .i64 0, .int .i64 0, .int .i64 0, .int .i64 0, .slice none 0 0, .slice none 0 0, .bool false, .string ⟨#[]⟩, .string ⟨#[]⟩, .bool false, .slice none 0 0, .slice none 0 0, .slice none 0 0, .int .i64 0, .int .i64 0] 44
 have S2 : Hid (w1.heap.size + 1 ≤ (w1.alloc (.cells #[.int .i64 3, .int .i64 0, .int .i64 0, .int .i64 0, .int .i64 0, .slice none 0 0, .slice none 0 0, .bool false, .string ⟨#[]⟩, .string ⟨#[]⟩, .bool false, .slice none 0 0, .slice none 0 0, .slice none 0 0, .int .i64 0, .int .i64 0] 44)).heap.size) := by show _ ≤ _; rw [World.size_alloc]; exact Nat.le_refl _
 clear hb1 HD1 BR1 HG1
 have u0 := BX2.out.c0
 go_wp2_with fail
 generalize hWW : (w1.alloc (.cells #[.int .i64 3, .int .i64 0, .int .i64 0, .int .i64 0, .int .i64 0, .slice none 0 0, .slice none 0 0, .bool false, .string ⟨#[]⟩, .string ⟨#[]⟩, .bool false, .slice none 0 0, .slice none 0 0, .slice none 0 0, .int .i64 0, .int .i64 0] 44)) = W1 at *
 clear hWW u0
 have hne : w1.heap.size ≠ g := by have := hgl; have := K1.out; omega
 have hne2 : w1.heap.size ≠ w.heap.size := by have := K1.out; omega
 have SL : Hid (w1.heap.size + 1 ≤ W1.heap.size) := S2.out
 cases h1 : rS x (q1 : Int) with
 | none =>
  refine (ishrt_no x g _ hs h1 _ HD2.out).mono ?_
  rintro e w2 ⟨rfl, hg⟩
  have HX : Hid (rRc x p = none) := by show _ = _; simp only [rRc, HN.out, h1]; rfl
  have HGx := hide (grown_trans HG2.out hg)
  clear hg h1
  go_wp2
  exact ⟨rfl, HGx.out, Or.inl ⟨rfl, HX.out⟩⟩
 | some a1 =>
  obtain ⟨s1, q2⟩ := a1
  refine (ishrt_yes x g _ hs s1 q2 h1 _ HD2.out).mono ?_
  rintro e w2 ⟨rfl, hd, hg⟩
  have H1 := hide h1
  have Z2 : Hid (W1.heap.size ≤ w2.heap.size) := hg.size
  replace BR2 := hide (BR2.out.grown hg hgz)
  replace BX2 := hide (BX2.out.grown hg hne)
  replace HG2 := hide (grown_trans HG2.out hg)
  replace HD2 := hide hd
  clear hd hg h1
  go_wp2_with fail
  cases h2 : rF x (q2 : Int) with
  | none =>
   refine (iflag_no x g _ hs h2 _ HD2.out).mono ?_
   rintro e w3 ⟨rfl, hg⟩
   have HX : Hid (rRc x p = none) := by show _ = _; simp only [rRc, HN.out, H1.out, h2]; rfl
   have HGx := hide (grown_trans HG2.out hg)
   clear hg h2
   go_wp2
   exact ⟨rfl, HGx.out, Or.inl ⟨rfl, HX.out⟩⟩
  | some a2 =>
   obtain ⟨f2, q3⟩ := a2
   have hsz := (rS_bd H1.out).1
   have HQ : Hid (q3 ≤ x.size) := (rF_bd h2).2.1
   refine (iflag_yes x g _ hs f2 q3 h2 _ HD2.out).mono ?_
   rintro e w3 ⟨rfl, hd, hg⟩
   have HT : Hid (rRc x p = if recB (rcE s1 f2) = true then some (rcE s1 f2, q3) else none) := by show _ = _; simp only [rRc, HN.out, H1.out, h2]; rfl
   have SM : Hid (RcSame (rcE s1 f2) ⟨3, ⟨zT, none, 0, none, 0⟩, s1, f2, zB⟩) := ⟨rfl, rfl, rfl, rfl, ⟨rfl, rfl, rfl, rfl, rfl⟩⟩
   have Z3 : Hid (W1.heap.size ≤ w3.heap.size) := Nat.le_trans Z2.out hg.size
   replace BR2 := hide (BR2.out.grown hg hgz)
   replace BX2 := hide (BX2.out.grown hg hne)
   replace HG2 := hide (grown_trans HG2.out hg)
   replace HD2 := hide hd
   clear hd hg h2
   have u9 := BX2.out.c9
   have fu9 := BX2.out.fz 9
   have u10 := BX2.out.c10
   have fu10 := BX2.out.fz 10
   go_upto_region 10 with fail
   clear u9 fu9 u10 fu10
   replace BR2 : Hid (Bx ((w3.setCell ⟨w1.heap.size, 9, none⟩ (.string s1)).setCell ⟨w1.heap.size, 10, none⟩ (.bool f2)) w.heap.size [.int .i64 0, .int .i64 0, .int .i64 0, .int .i64 0, .int .i64 0, .slice none 0 0, .slice none 0 0, .bool false, .string ⟨#[]⟩, .string ⟨#[]⟩, .bool false, .slice none 0 0, .slice none 0 0, .slice none 0 0, .int .i64 0, .int .i64 0]) := (BR2.out.setO (p := ⟨w1.heap.size, 9, none⟩) hne2 _).setO (p := ⟨w1.heap.size, 10, none⟩) hne2 _
   replace BX2 : Hid (Bx ((w3.setCell ⟨w1.heap.size, 9, none⟩ (.string s1)).setCell ⟨w1.heap.size, 10, none⟩ (.bool f2)) w1.heap.size [.int .i64 3, .int .i64 0, .int .i64 0, .int .i64 0, .int .i64 0, .slice none 0 0, .slice none 0 0, .bool false, .string ⟨#[]⟩, .string s1, .bool f2, .slice none 0 0, .slice none 0 0, .slice none 0 0, .int .i64 0, .int .i64 0]) := (BX2.out.set 9 _).set 10 _
   replace HD2 : Hid (Rd ((w3.setCell ⟨w1.heap.size, 9, none⟩ (.string s1)).setCell ⟨w1.heap.size, 10, none⟩ (.bool f2)) g x (q3 : Int)) := (HD2.out.setO (p := ⟨w1.heap.size, 9, none⟩) hne _).setO (p := ⟨w1.heap.size, 10, none⟩) hne _
   replace HG2 : Hid (w.grownBy ((w3.setCell ⟨w1.heap.size, 9, none⟩ (.string s1)).setCell ⟨w1.heap.size, 10, none⟩ (.bool f2)) (some g)) := grown_belowB HG2.out (((Below.refl w.heap.size w3).setCell (p := ⟨w1.heap.size, 9, none⟩) (by have := K1.out; show w.heap.size ≤ w1.heap.size; omega) _).setCell (p := ⟨w1.heap.size, 10, none⟩) (by have := K1.out; show w.heap.size ≤ w1.heap.size; omega) _) (Nat.le_refl _)
   have Z4 : Hid (W1.heap.size ≤ ((w3.setCell ⟨w1.heap.size, 9, none⟩ (.string s1)).setCell ⟨w1.heap.size, 10, none⟩ (.bool f2)).heap.size) := by show _ ≤ _; simpa [World.setCell] using Z3.out
   generalize ((w3.setCell ⟨w1.heap.size, 9, none⟩ (.string s1)).setCell ⟨w1.heap.size, 10, none⟩ (.bool f2)) = w4 at *
   have LC : Hid (RcLie w4 W1.heap.size w4.heap.size ⟨3, ⟨zT, none, 0, none, 0⟩, s1, f2, zB⟩) := ⟨w4.heap.size, Z4.out, Nat.le_refl _, zlie _ _ _ Z4.out, zBlie _ _ _ (Nat.le_refl _)⟩
   have FT : Hid (RcFit ⟨3, ⟨zT, none, 0, none, 0⟩, s1, f2, zB⟩) := ⟨zT_fit, by show s1.size ≤ _; omega, zB_fit⟩
   as_aux_lemma =>
    have C1 : Hid (∀ W, RcRows W ⟨3, ⟨zT, none, 0, none, 0⟩, s1, f2, zB⟩ → Calls Tryz.prog 81 #[.agg #[.int .i64 3, .int .i64 0, .int .i64 0, .int .i64 0, .int .i64 0, .slice none 0 0, .slice none 0 0, .bool false, .string ⟨#[]⟩, .string s1, .bool f2, .slice none 0 0, .slice none 0 0, .slice none 0 0, .int .i64 0, .int .i64 0]] W fun e w' => e = .returned (.bool (recB (rcE s1 f2))) ∧ Below W.heap.size W w') := fun W h => by
     have k := irec ⟨3, ⟨zT, none, 0, none, 0⟩, s1, f2, zB⟩ FT.out zB_none.1 zB_none.2 W h
     rw [rec_same SM.out] at k
     exact k
    have HRw : Hid (RcRows w4 ⟨3, ⟨zT, none, 0, none, 0⟩, s1, f2, zB⟩) := LC.out.rows
    have u0 := BX2.out.c0
    have u1 := BX2.out.c1
    have u2 := BX2.out.c2
    have u3 := BX2.out.c3
    have u4 := BX2.out.c4
    have u5 := BX2.out.c5
    have u6 := BX2.out.c6
    have u7 := BX2.out.c7
    have u8 := BX2.out.c8
    have u9 := BX2.out.c9
    have u10 := BX2.out.c10
    have u11 := BX2.out.c11
    have u12 := BX2.out.c12
    have u13 := BX2.out.c13
    have u14 := BX2.out.c14
    have u15 := BX2.out.c15
    go_wp2_with fail
    refine (C1.out _ HRw.out).mono ?_
    rintro e wA ⟨rfl, hb⟩
    have LA := hide (LC.out.below hb)
    have HDA := hide (HD2.out.below hb)
    have BRA := hide (BR2.out.below hb)
    have HGA := hide (grown_trans HG2.out (grown_below (some g) hb))
    have BTA := hide (BX2.out.below hb)
    have SA : Hid (w4.heap.size ≤ wA.heap.size) := hb.size
    clear hb u0 u1 u2 u3 u4 u5 u6 u7 u8 u9 u10 u11 u12 u13 u14 u15
    as_aux_lemma =>
     cases htb : recB (rcE s1 f2)
     ·have HX : Hid (rRc x p = none) := by show _ = _; rw [HT.out, htb]; rfl
      clear htb
      go_wp2
      exact ⟨rfl, HGA.out, Or.inl ⟨rfl, HX.out⟩⟩
     have HX : Hid (rRc x p = some ((rcE s1 f2), q3)) := by show _ = _; rw [HT.out, htb]; rfl
     clear htb HT
     go_upto_region 12 with fail
     refine wp_region_lit ?_
     refine wpLoad16 rfl 44 _ rfl _ Tryz.underlying44 rfl (by kernel_rfl) (by kernel_rfl) BTA.out ?_
     simp only [Act.put, List.setIfInBounds_toArray, List.set_cons_zero, List.set_cons_succ]
     refine wpStore16K (.int .i64 3) (.int .i64 0) (.int .i64 0) (.int .i64 0) (.int .i64 0) (.slice none 0 0) (.slice none 0 0) (.bool false) (.string ⟨#[]⟩) (.string s1) (.bool f2) (.slice none 0 0) (.slice none 0 0) (.slice none 0 0) (.int .i64 0) (.int .i64 0) rfl 44 _ _ rfl (by kernel_rfl) (by kernel_rfl) (by kernel_rfl) BRA.out (List.forall_mem_cons.2 ⟨rfl, List.forall_mem_cons.2 ⟨rfl, List.forall_mem_cons.2 ⟨rfl, List.forall_mem_cons.2 ⟨rfl, List.forall_mem_cons.2 ⟨rfl, List.forall_mem_cons.2 ⟨rfl, List.forall_mem_cons.2 ⟨rfl, List.forall_mem_cons.2 ⟨rfl, List.forall_mem_cons.2 ⟨rfl, List.forall_mem_cons.2 ⟨rfl, List.forall_mem_cons.2 ⟨rfl, List.forall_mem_cons.2 ⟨rfl, List.forall_mem_cons.2 ⟨rfl, List.forall_mem_cons.2 ⟨rfl, List.forall_mem_cons.2 ⟨rfl, List.forall_mem_cons.2 ⟨rfl, fun _ h => by cases h⟩⟩⟩⟩⟩⟩⟩⟩⟩⟩⟩⟩⟩⟩⟩⟩) (fun WF bf zf => ?_)
     have BF := hide bf
     have HGF : Hid (w.grownBy WF (some g)) := grown_belowB HGA.out (zf.below (Nat.le_refl _) HGA.out.size) (Nat.le_refl _)
     have LF : Hid (RcLie WF w.heap.size WF.heap.size ⟨3, ⟨zT, none, 0, none, 0⟩, s1, f2, zB⟩) := (LA.out.zn zf (Or.inr (by have := K1.out; have := SL.out; omega))).mono (by have := K1.out; have := SL.out; omega) (Nat.le_trans SA.out zf.size)
     have DF : Hid (Rd WF g x (q3 : Int)) := HDA.out.zn zf (by omega)
     clear BRA LA HDA HGA BTA bf zf
     go_wp2
     have q0_ := BF.out.c0
     have q1_ := BF.out.c1
     have q2_ := BF.out.c2
     have q3_ := BF.out.c3
     have q4_ := BF.out.c4
     have q5_ := BF.out.c5
     have q6_ := BF.out.c6
     have q7_ := BF.out.c7
     have q8_ := BF.out.c8
     have q9_ := BF.out.c9
     have q10_ := BF.out.c10
     have q11_ := BF.out.c11
     have q12_ := BF.out.c12
     have q13_ := BF.out.c13
     have q14_ := BF.out.c14
     have q15_ := BF.out.c15
     refine bodyPost_ret (v := .agg #[.int .i64 3, .int .i64 0, .int .i64 0, .int .i64 0, .int .i64 0, .slice none 0 0, .slice none 0 0, .bool false, .string ⟨#[]⟩, .string s1, .bool f2, .slice none 0 0, .slice none 0 0, .slice none 0 0, .int .i64 0, .int .i64 0]) (by simp [results, Tryz.results38, go_sem, q0_, q1_, q2_, q3_, q4_, q5_, q6_, q7_, q8_, q9_, q10_, q11_, q12_, q13_, q14_, q15_]) rfl ⟨HGF.out, Or.inr ⟨(rcE s1 f2), q3, ⟨3, ⟨zT, none, 0, none, 0⟩, s1, f2, zB⟩, HX.out, HQ.out, rfl, SM.out, LF.out, DF.out⟩⟩

end Go.Proofs.YtpnnncfbodfnhaaGreatDoor

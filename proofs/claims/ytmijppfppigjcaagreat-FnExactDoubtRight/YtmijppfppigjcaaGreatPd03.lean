/- How versions are compared, and which are right. -/
import Derived.Test.YtmijppfppigjcaaGreatPd01
import Derived.Test.YtmijppfppigjcaaGreatProg
import Derived.WalkKit
import Derived.WalkSpells
import Derived.WalkLawsBesides
import Derived.Deep.QuietTactic
import Derived.BigQuiet
import Derived.Deep.RegionHeld3
import Derived.Deep.DrawnRows
import Derived.Deep.AppendLies
import Derived.Test.YtmijppfppigjcaaGreatPd02
import Derived.Deep.RegionHeld
import Derived.Sort.OwnSorted
import Derived.Lib.RowBridge
namespace Go.Proofs.YtmijppfppigjcaaGreat
open Go.RowKit
open KM
attribute [local go_sem ↓] Go.wp_at_zero Go.wp_at_succ

set_option maxRecDepth 100000 in
set_option maxHeartbeats 1000000 in
theorem or84 (x y : Int) (g : Nat) (w : World) (h0 : w.cell? ⟨g, 0, none⟩ = some (.int .i64 x)) (h1 : w.cell? ⟨g, 1, none⟩ = some (.int .i64 y)) :
  Calls Tryz.prog 161 #[.slice (some ⟨g, 0, none⟩) 2 2] w fun e w' => e = .returned (.int .i64 (orI x y)) ∧ w' = w := by
 by_cases hx : x = 0
 ·subst hx
  have HE : Hid (orI 0 y = y) := by show _ = _; unfold orI; rw [if_pos rfl]
  go_enter Tryz.func161, Tryz.ntmps161
  go_wp2
  go_loop [8] (fun t => ∃ k : Nat, k ≤ 2 ∧ t = .int .i64 k ∧ Hid (k = 2 → y = 0)) (fun t => 2 - (intOf t).toNat)
  case atStart => exact ⟨0, by omega, rfl, fun h => by omega⟩
  case round =>
   obtain ⟨k, hk, rfl, HY⟩ := hrel
   by_cases hk0 : k = 0
   ·subst hk0
    go_wp2
    go_round
    case rel => exact ⟨1, by omega, by go_num, fun h => by omega⟩
    case measure => simp [intOf]
   by_cases hk1 : k = 1
   ·subst hk1
    by_cases hy : y = 0
    ·subst hy
     go_wp2
     go_round
     case rel => exact ⟨2, by omega, by go_num, fun h => trivial⟩
     case measure => simp [intOf]
    ·have hy' : (y != 0) = true := by simpa using hy
     clear hy
     go_wp2
     go_ret
     exact ⟨ret_int HE.out.symm, rfl⟩
   ·have hk2 : k = 2 := by omega
    have HF : Hid (0 = orI 0 y) := by show _ = _; rw [HE.out, HY.out hk2]
    subst hk2
    clear hk0 hk1
    go_wp2
    go_ret
    exact ⟨ret_int HF.out, rfl⟩
 ·have HE : Hid (orI x y = x) := by show _ = _; unfold orI; rw [if_neg hx]
  have hx' : (x != 0) = true := by simpa using hx
  clear hx
  go_enter Tryz.func161, Tryz.ntmps161
  go_wp2
  go_loop [8] (fun t => t = .int .i64 0) (fun t => 2 - (intOf t).toNat)
  case atStart => rfl
  case round =>
   subst hrel
   go_wp2
   go_ret
   exact ⟨ret_int HE.out.symm, rfl⟩

set_option maxRecDepth 100000 in
set_option maxHeartbeats 1000000 in
theorem cmp55 (a b : Vr) (w : World) :
  Calls Tryz.prog 156 #[.agg #[.string a.1, .string a.2.1, .bool a.2.2.1, .int .i64 a.2.2.2], .agg #[.string b.1, .string b.2.1, .bool b.2.2.1, .int .i64 b.2.2.2]] w fun e w' => e = .returned (.int .i64 (cmpV a b)) ∧ Below w.heap.size w w' := by
 have A0 : Hid (Box ((w.alloc (.cells #[.string a.1, .string a.2.1, .bool a.2.2.1, .int .i64 a.2.2.2] 150)).alloc (.cells #[.string b.1, .string b.2.1, .bool b.2.2.1, .int .i64 b.2.2.2] 150)) w.heap.size [.string a.1, .string a.2.1, .bool a.2.2.1, .int .i64 a.2.2.2]) := (Box.new w _ 150).below ((belowRefl _).alloc (Nat.le_refl _) _)
 have B0 : Hid (Box ((w.alloc (.cells #[.string a.1, .string a.2.1, .bool a.2.2.1, .int .i64 a.2.2.2] 150)).alloc (.cells #[.string b.1, .string b.2.1, .bool b.2.2.1, .int .i64 b.2.2.2] 150)) (w.heap.size + 1) [.string b.1, .string b.2.1, .bool b.2.2.1, .int .i64 b.2.2.2]) := by
  have h := Box.new (w.alloc (.cells #[.string a.1, .string a.2.1, .bool a.2.2.1, .int .i64 a.2.2.2] 150)) [.string b.1, .string b.2.1, .bool b.2.2.1, .int .i64 b.2.2.2] 150
  rw [World.size_alloc] at h
  exact h
 have HB0 : Hid (Below w.heap.size w ((w.alloc (.cells #[.string a.1, .string a.2.1, .bool a.2.2.1, .int .i64 a.2.2.2] 150)).alloc (.cells #[.string b.1, .string b.2.1, .bool b.2.2.1, .int .i64 b.2.2.2] 150))) := ((belowRefl w).alloc (Nat.le_refl _) _).alloc (by simp) _
 have HC : Hid (cmpV a b = orI (Lib.compareBytes a.1.data.toList b.1.data.toList) (Lib.compareInt a.2.2.2 b.2.2.2)) := rfl
 have C1 : Hid (∀ w, Calls Tryz.prog 162 #[.string a.1, .string b.1] w fun e w' => e = .returned (.int .i64 (Lib.compareBytes a.1.data.toList b.1.data.toList)) ∧ w' = w) := fun w => Tryz.strings_Compare a.1 b.1 w
 have C2 : Hid (∀ w, Calls Tryz.prog 163 #[.int .i64 a.2.2.2, .int .i64 b.2.2.2] w fun e w' => e = .returned (.int .i64 (Lib.compareInt a.2.2.2 b.2.2.2)) ∧ w' = w) := fun w => Tryz.cmp_Compare_int a.2.2.2 b.2.2.2 w
 generalize Lib.compareBytes a.1.data.toList b.1.data.toList = x at *
 generalize Lib.compareInt a.2.2.2 b.2.2.2 = y at *
 go_enter Tryz.func156, Tryz.ntmps156
 go_wp2
 generalize ((w.alloc (.cells #[.string a.1, .string a.2.1, .bool a.2.2.1, .int .i64 a.2.2.2] 150)).alloc (.cells #[.string b.1, .string b.2.1, .bool b.2.2.1, .int .i64 b.2.2.2] 150)) = W at *
 refine wp_region_held_drew (S := fun w' => w'.cell? ⟨w.heap.size, 0, none⟩ = some (.string a.1) ∧ w'.cell? ⟨w.heap.size, 3, none⟩ = some (.int .i64 a.2.2.2) ∧ w'.cell? ⟨w.heap.size + 1, 0, none⟩ = some (.string b.1) ∧ w'.cell? ⟨w.heap.size + 1, 3, none⟩ = some (.int .i64 b.2.2.2)) (by kernel_rfl) ⟨A0.out.c0, A0.out.c3, B0.out.c0, B0.out.c3⟩ (fun hHeld => ?_)
 (refine ti 0 ?_; simp only [Act.put, tA, tB, tD, tE, tF])
 (refine ti 1 ?_; simp only [Act.put, tA, tB, tC, tD, tE, tF])
 (refine ti 2 ?_; simp only [Act.put, tA, tB, tC, tD, tE, tF])
 (refine ti 3 ?_; simp only [Act.put, tA, tB, tC, tD, tE, tF])
 (refine ti 5 ?_; simp only [Act.put, tA, tB, tC, tD, tE, tF])
 (refine ti 6 ?_; simp only [Act.put, tA, tB, tC, tD, tE, tF])
 (refine ti 7 ?_; simp only [Act.put, tA, tB, tC, tD, tE, tF])
 (refine ti 8 ?_; simp only [Act.put, tA, tB, tC, tD, tE, tF])
 refine wpAnyH_ready (rs := [4]) (by kernel_rfl) (by simp) ?_
 refine AllReadyH.cons rfl (fun K hK => ?_) AllReadyH.nil
 go_simp
 go_wp2_with (go_at_call 162; refine (C1.out _).mono ?_; rintro e w2 ⟨rfl, rfl⟩)
 refine hK.out _ _ ⟨A0.out.c0, A0.out.c3, B0.out.c0, B0.out.c3⟩ (fun hHeld2 => ?_)
 clear hK K
 refine wpAnyH_ready (rs := [9]) (by kernel_rfl) (by simp) ?_
 refine AllReadyH.cons rfl (fun K hK => ?_) AllReadyH.nil
 go_simp
 go_wp2_with (go_at_call 163; refine (C2.out _).mono ?_; rintro e w2 ⟨rfl, rfl⟩)
 refine hK.out _ _ ⟨A0.out.c0, A0.out.c3, B0.out.c0, B0.out.c3⟩ (fun hHeld3 => ?_)
 clear hK K
 refine wpAnyH_ready (rs := [10]) (by kernel_rfl) (by simp) ?_
 refine AllReadyH.cons rfl (fun K hK => ?_) AllReadyH.nil
 go_simp
 have A1 : Hid (Box (W.drew.alloc (.cells #[.int .i64 x, .int .i64 y] 3)) w.heap.size [.string a.1, .string a.2.1, .bool a.2.2.1, .int .i64 a.2.2.2]) := A0.out.below (((belowRefl W).drew).alloc (Nat.le_refl _) _)
 have B1 : Hid (Box (W.drew.alloc (.cells #[.int .i64 x, .int .i64 y] 3)) (w.heap.size + 1) [.string b.1, .string b.2.1, .bool b.2.2.1, .int .i64 b.2.2.2]) := B0.out.below (((belowRefl W).drew).alloc (Nat.le_refl _) _)
 have G1 : Hid (Box (W.drew.alloc (.cells #[.int .i64 x, .int .i64 y] 3)) W.heap.size [.int .i64 x, .int .i64 y]) := Box.new W.drew _ 3
 have HB1 : Hid (Below w.heap.size w (W.drew.alloc (.cells #[.int .i64 x, .int .i64 y] 3))) := HB0.out.drew.alloc HB0.out.size _
 go_wp2_with fail
 refine hK.out _ _ ⟨A1.out.c0, A1.out.c3, B1.out.c0, B1.out.c3⟩ (fun hHeld4 => ?_)
 clear hK K
 refine wpAnyH_ready (rs := [11]) (by kernel_rfl) (by simp) ?_
 refine AllReadyH.cons rfl (fun K hK => ?_) AllReadyH.nil
 go_simp
 go_wp2_with (go_at_call 161; refine (or84 x y _ _ G1.out.c0 G1.out.c1).mono ?_; rintro e w2 ⟨rfl, rfl⟩)
 refine hK.out _ _ ⟨A1.out.c0, A1.out.c3, B1.out.c0, B1.out.c3⟩ (fun hHeld5 => ?_)
 clear hK K
 (refine ti 12 ?_; simp only [Act.put, tA, tB, tC, tD, tE, tF])
 refine wpAnyH_done (by kernel_rfl) ?_ _
 go_wp2
 go_ret
 exact ⟨ret_int HC.out.symm, HB1.out⟩
end Go.Proofs.YtmijppfppigjcaaGreat

namespace Go.Proofs.YtmijppfppigjcaaGreat
open Go.RowKit
open KM
attribute [local go_sem ↓] Go.wp_at_zero Go.wp_at_succ

end Go.Proofs.YtmijppfppigjcaaGreat

namespace Go.Proofs.YtmijppfppigjcaaGreat
open Go.RowKit
open KM
attribute [local go_sem ↓] Go.wp_at_zero Go.wp_at_succ

theorem toList_data (s : ByteArray) : s.toList = s.data.toList := by
 obtain ⟨⟨l⟩⟩ := s
 exact ByteArray.toList_mk l
theorem toList_inj {a b : ByteArray} (h : a.toList = b.toList) : a = b := by
 rw [toList_data, toList_data] at h
 obtain ⟨⟨a⟩⟩ := a
 obtain ⟨⟨b⟩⟩ := b
 have h' : a = b := h
 rw [h']
theorem beq_text (a b : ByteArray) : (a.toList == b.toList) = decide (a = b) := by
 by_cases h : a = b
 ·subst h; simp
 ·rw [decide_eq_false h, beq_eq_false_iff_ne]
  exact fun e => h (toList_inj e)
theorem cb_lt : ∀ a b : List UInt8, (Lib.compareBytes a b < 0) ↔ Op.bytesLess a b = true
 | [], [] => by simp [Lib.compareBytes, Op.bytesLess]
 | [], _ :: _ => by simp [Lib.compareBytes, Op.bytesLess]
 | _ :: _, [] => by simp [Lib.compareBytes, Op.bytesLess]
 | x :: a, y :: b => by
  have ih := cb_lt a b
  simp only [Lib.compareBytes, Op.bytesLess, Bool.or_eq_true, decide_eq_true_eq, Bool.and_eq_true, beq_iff_eq]
  by_cases h1 : x < y
  ·simp [h1]
  ·by_cases h2 : y < x
   ·have h3 : x ≠ y := fun e => by subst e; exact h1 h2
    simp [h1, h2, h3]
   ·have h3 : x = y := by
     have a1 : ¬ x.toNat < y.toNat := fun h => h1 (UInt8.lt_iff_toNat_lt.2 h)
     have a2 : ¬ y.toNat < x.toNat := fun h => h2 (UInt8.lt_iff_toNat_lt.2 h)
     exact UInt8.toNat_inj.1 (by omega)
    rw [if_neg h1, if_neg h2]
    constructor
    ·exact fun h => Or.inr ⟨h3, ih.1 h⟩
    ·rintro (h | ⟨_, h⟩)
     ·exact absurd h h1
     ·exact ih.2 h
theorem cb_eq : ∀ a b : List UInt8, Lib.compareBytes a b = 0 ↔ a = b
 | [], [] => by simp [Lib.compareBytes]
 | [], _ :: _ => by simp [Lib.compareBytes]
 | _ :: _, [] => by simp [Lib.compareBytes]
 | x :: a, y :: b => by
  have ih := cb_eq a b
  simp only [Lib.compareBytes, List.cons.injEq]
  by_cases h1 : x < y
  ·have h3 : x ≠ y := fun e => by subst e; exact absurd (UInt8.lt_iff_toNat_lt.1 h1) (by omega)
   simp [h1, h3]
  ·by_cases h2 : y < x
   ·have h3 : x ≠ y := fun e => by subst e; exact h1 h2
    simp [h1, h2, h3]
   ·have h3 : x = y := by
     have a1 : ¬ x.toNat < y.toNat := fun h => h1 (UInt8.lt_iff_toNat_lt.2 h)
     have a2 : ¬ y.toNat < x.toNat := fun h => h2 (UInt8.lt_iff_toNat_lt.2 h)
     exact UInt8.toNat_inj.1 (by omega)
    rw [if_neg h1, if_neg h2]
    simp [h3, ih]

def asc (a b : Vr) : Bool := lt a.1 b.1 || (decide (a.1 = b.1) && decide (a.2.2.2 < b.2.2.2))
theorem ci_lt (x y : Int) : Lib.compareInt x y < 0 ↔ x < y := by
 unfold Lib.compareInt
 split
 ·simp_all
 ·split <;> simp_all
theorem cmpV_neg (a b : Vr) : cmpV a b < 0 ↔ asc a b = true := by
 unfold cmpV orI asc lt
 simp only [Bool.or_eq_true, Bool.and_eq_true, decide_eq_true_eq]
 split
 ·rename_i h
  have h' := (cb_eq _ _).1 h
  have e : a.1 = b.1 := toList_inj (by rw [toList_data, toList_data]; exact h')
  rw [ci_lt, e, less_irrefl]
  simp
 ·rename_i h
  have h' : ¬ a.1 = b.1 := fun e => h ((cb_eq _ _).2 (by rw [e]))
  rw [cb_lt, toList_data, toList_data]
  simp [h']
def pcells (w : World) (b o : Nat) (v : Vr) : Prop := w.cell? ⟨b, o, none⟩ = some (.string v.1) ∧ w.cell? ⟨b, o + 1, none⟩ = some (.string v.2.1) ∧ w.cell? ⟨b, o + 2, none⟩ = some (.bool v.2.2.1) ∧ w.cell? ⟨b, o + 3, none⟩ = some (.int .i64 v.2.2.2)
theorem pcells.below' {w w' : World} {b o : Nat} {v : Vr} (h : pcells w b o v) (hb : b < w.heap.size) (hw : Below w.heap.size w w') : pcells w' b o v :=
 ⟨(hw.cell (p := ⟨b, o, none⟩) hb).trans h.1, (hw.cell (p := ⟨b, o + 1, none⟩) hb).trans h.2.1, (hw.cell (p := ⟨b, o + 2, none⟩) hb).trans h.2.2.1, (hw.cell (p := ⟨b, o + 3, none⟩) hb).trans h.2.2.2⟩

end Go.Proofs.YtmijppfppigjcaaGreat

namespace Go.Proofs.YtmijppfppigjcaaGreat
open Go.RowKit
open KM
theorem grown_trans {a b c : World} {row : Option Nat} (h : a.grownBy b row) (k : b.grownBy c row) : a.grownBy c row :=
 ⟨k.os.trans h.os, k.tape.trans h.tape, k.output.trans h.output, Nat.le_trans h.size k.size, fun j hj hne => (k.block j (Nat.lt_of_lt_of_le hj h.size) hne).trans (h.block j hj hne)⟩
theorem grown_set (w : World) (g k : Nat) (v : Value) : w.grownBy (w.setCell ⟨g, k, none⟩ v) (some g) :=
 ⟨rfl, rfl, rfl, by simp [World.setCell], fun j _ hne => Below.heap_setCell _ _ _ _ (fun e => hne (by rw [e]))⟩
theorem grown_below {w w' : World} (row : Option Nat) (hb : Below w.heap.size w w') : w.grownBy w' row := ⟨hb.os, hb.tape, hb.output, hb.size, fun j hj _ => hb.block j hj⟩
theorem addr_ne (g : Nat) {i k : Nat} (h : i ≠ k) : (⟨g, i, none⟩ : Addr) ≠ ⟨g, k, none⟩ := fun e => h (by cases e; rfl)
structure Bx (w : World) (b : Nat) (cs : List Value) : Prop where
 lt : b < w.heap.size
 at' : ∀ j, j < cs.length → w.cell? ⟨b, j, none⟩ = cs[j]?
 fz : ∀ j, w.frozen? ⟨b, j, none⟩ = false
section
variable {w w' : World} {b : Nat} {cs : List Value}
theorem Bx.below (h : Bx w b cs) (hb : Below w.heap.size w w') : Bx w' b cs :=
 ⟨Nat.lt_of_lt_of_le h.lt hb.size, fun j hj => (hb.cell (p := ⟨b, j, none⟩) h.lt).trans (h.at' j hj), fun j => (hb.frozen (p := ⟨b, j, none⟩) h.lt).trans (h.fz j)⟩
theorem Bx.new (w : World) (cs : List Value) (T : Nat) : Bx (w.alloc (.cells cs.toArray T)) w.heap.size cs :=
 ⟨by simp, fun j hj => (World.cell?_alloc_mark w _ T (0, 0) j).trans (by simp), fun j => by
  rw [show (w.alloc (.cells cs.toArray T)).frozen? ⟨w.heap.size, j, none⟩ = _ from World.frozen?_alloc_mark w _ T 0 0 j]
  simp⟩
theorem Bx.alloc (h : Bx w b cs) (o : Obj) : Bx (w.alloc o) b cs := h.below ((belowRefl w).alloc (Nat.le_refl _) o)
theorem Bx.drew (h : Bx w b cs) : Bx w.drew b cs := h.below ((belowRefl w).drew)
theorem Bx.grown {g : Nat} (h : Bx w b cs) (hg : w.grownBy w' (some g)) (hne : b ≠ g) : Bx w' b cs := by
 have hb := hg.block b h.lt (fun e => hne (Option.some.inj e))
 refine ⟨Nat.lt_of_lt_of_le h.lt hg.size, fun j hj => (World.cell?_of_block (w := w) (a := ⟨b, j, none⟩) hb).trans (h.at' j hj), fun j => ?_⟩
 have := h.fz j
 unfold World.frozen? at this ⊢
 simp only at this ⊢
 rw [hb]; exact this
theorem Bx.set (h : Bx w b cs) (j : Nat) (u : Value) : Bx (w.setCell ⟨b, j, none⟩ u) b (cs.set j u) := by
 refine ⟨by simpa [World.setCell] using h.lt, fun i hi => ?_, fun i => by rw [World.frozen?_setCell]; exact h.fz i⟩
 have hi' : i < cs.length := by simpa using hi
 have hci := h.at' i hi'
 rw [List.getElem?_eq_getElem hi'] at hci
 by_cases e : i = j
 ·subst e
  rw [World.cell?_setCell_same _ _ _ hci, List.getElem?_set_self hi']
 ·rw [World.cell?_setCell_other _ _ _ _ (addr_ne b (fun e' => e e'.symm)), List.getElem?_set_ne (fun e' => e e'.symm)]
  exact h.at' i hi'
theorem Bx.setO (h : Bx w b cs) {p : Addr} (hne : p.block ≠ b) (u : Value) : Bx (w.setCell p u) b cs :=
 h.grown (g := p.block) ⟨rfl, rfl, rfl, by simp [World.setCell], fun j _ hne => Below.heap_setCell _ _ _ _ (fun e => hne (by rw [e]))⟩ (fun e => hne e.symm)
theorem Bx.c0 {x : Value} {r : List Value} (h : Bx w b (x :: r)) : w.cell? ⟨b, 0, none⟩ = some x := h.at' 0 (by simp)
theorem Bx.c1 {x y : Value} {r : List Value} (h : Bx w b (x :: y :: r)) : w.cell? ⟨b, 1, none⟩ = some y := h.at' 1 (by simp)
theorem Bx.c2 {x y z : Value} {r : List Value} (h : Bx w b (x :: y :: z :: r)) : w.cell? ⟨b, 2, none⟩ = some z := h.at' 2 (by simp)
theorem Bx.c3 {x y z u : Value} {r : List Value} (h : Bx w b (x :: y :: z :: u :: r)) : w.cell? ⟨b, 3, none⟩ = some u := h.at' 3 (by simp)
theorem Bx.c4 {x y z u v : Value} {r : List Value} (h : Bx w b (x :: y :: z :: u :: v :: r)) : w.cell? ⟨b, 4, none⟩ = some v := h.at' 4 (by simp)
end

structure Kn (bs : List Nat) (w w' : World) : Prop where
 os : w'.os = w.os
 tape : w'.tape = w.tape
 output : w'.output = w.output
 size : w.heap.size ≤ w'.heap.size
 block : ∀ j, j < w.heap.size → j ∉ bs → w'.heap[j]? = w.heap[j]?
theorem Kn.refl (bs : List Nat) (w : World) : Kn bs w w := ⟨rfl, rfl, rfl, Nat.le_refl _, fun _ _ _ => rfl⟩
theorem Kn.trans {bs : List Nat} {a b c : World} (h : Kn bs a b) (k : Kn bs b c) : Kn bs a c :=
 ⟨k.os.trans h.os, k.tape.trans h.tape, k.output.trans h.output, Nat.le_trans h.size k.size, fun j hj hn => (k.block j (Nat.lt_of_lt_of_le hj h.size) hn).trans (h.block j hj hn)⟩
theorem Kn.mono {bs cs : List Nat} {a b : World} (h : Kn bs a b) (hs : ∀ x ∈ bs, x ∈ cs) : Kn cs a b := ⟨h.os, h.tape, h.output, h.size, fun j hj hn => h.block j hj (fun m => hn (hs j m))⟩
theorem Kn.ofBelow {bs : List Nat} {w w' : World} (h : Below w.heap.size w w') : Kn bs w w' := ⟨h.os, h.tape, h.output, h.size, fun j hj _ => h.block j hj⟩
theorem Kn.below {bs : List Nat} {base : Nat} {w w' : World} (h : Kn bs w w') (hb : base ≤ w.heap.size) (hs : ∀ x ∈ bs, base ≤ x) : Below base w w' :=
 ⟨h.os, h.tape, h.output, h.size, fun j hj => h.block j (by omega) (fun m => by have := hs j m; omega)⟩
theorem Kn.set (w : World) (g k : Nat) (v : Value) : Kn [g] w (w.setCell ⟨g, k, none⟩ v) :=
 ⟨rfl, rfl, rfl, by simp [World.setCell], fun j _ hne => Below.heap_setCell _ _ _ _ (fun e => hne (by simp [e]))⟩
theorem Bx.kn {bs : List Nat} {w w' : World} {b : Nat} {cs : List Value} (h : Bx w b cs) (hg : Kn bs w w') (hne : b ∉ bs) : Bx w' b cs := by
 have hb := hg.block b h.lt hne
 refine ⟨Nat.lt_of_lt_of_le h.lt hg.size, fun j hj => (World.cell?_of_block (w := w) (a := ⟨b, j, none⟩) hb).trans (h.at' j hj), fun j => ?_⟩
 have := h.fz j
 unfold World.frozen? at this ⊢
 simp only at this ⊢
 rw [hb]; exact this

abbrev Nd := Nat × Vr
def ptq (ns : List Nd) (q : Option Addr) : Option Addr := match ns with
 | [] => q
 | n :: _ => some ⟨n.1, 0, none⟩
theorem ptq_nil (q : Option Addr) : ptq [] q = q := rfl
theorem ptq_cons (n : Nd) (ns : List Nd) (q : Option Addr) : ptq (n :: ns) q = some ⟨n.1, 0, none⟩ := rfl
def ndc (v : Vr) (q : Option Addr) : List Value := [.string v.1, .string v.2.1, .bool v.2.2.1, .int .i64 v.2.2.2, .pointer q]
def Seg (w : World) : List Nd → Option Addr → Prop
 | [], _ => True
 | n :: ns, q => Bx w n.1 (ndc n.2 (ptq ns q)) ∧ Seg w ns q
theorem seg_app {w : World} : ∀ (A B : List Nd) (q : Option Addr), Seg w (A ++ B) q ↔ Seg w A (ptq B q) ∧ Seg w B q
 | [], B, q => by simp [Seg]
 | n :: A, B, q => by
  have ih := seg_app (w := w) A B q
  have e : ptq (A ++ B) q = ptq A (ptq B q) := by cases A <;> rfl
  simp only [List.cons_append, Seg, e, ih, and_assoc]
theorem seg_below {w w' : World} (hb : Below w.heap.size w w') : ∀ (A : List Nd) (q : Option Addr), Seg w A q → Seg w' A q
 | [], _, _ => trivial
 | _ :: A, q, h => ⟨h.1.below hb, seg_below hb A q h.2⟩
theorem seg_kn {bs : List Nat} {w w' : World} (hk : Kn bs w w') : ∀ (A : List Nd) (q : Option Addr), (∀ n ∈ A, n.1 ∉ bs) → Seg w A q → Seg w' A q
 | [], _, _, _ => trivial
 | n :: A, q, hn, h => ⟨h.1.kn hk (hn n (by simp)), seg_kn hk A q (fun m hm => hn m (by simp [hm])) h.2⟩
theorem seg_lt {w : World} : ∀ (A : List Nd) (q : Option Addr), Seg w A q → ∀ n ∈ A, n.1 < w.heap.size
 | n :: A, q, h, m, hm => by
  rcases List.mem_cons.1 hm with rfl | hm
  ·exact h.1.lt
  ·exact seg_lt A q h.2 m hm
structure Chn (w : World) (base c : Nat) (all : List Nd) : Prop where
 bx : Bx w c [.pointer (ptq all none)]
 seg : Seg w all none
 nd : (c :: all.map (·.1)).Nodup
 lo : ∀ b ∈ c :: all.map (·.1), base ≤ b
theorem Chn.below {w w' : World} {base c : Nat} {all : List Nd} (h : Chn w base c all) (hb : Below w.heap.size w w') : Chn w' base c all := ⟨h.bx.below hb, seg_below hb _ _ h.seg, h.nd, h.lo⟩
theorem Chn.kn {bs : List Nat} {w w' : World} {base c : Nat} {all : List Nd} (h : Chn w base c all) (hk : Kn bs w w') (hn : ∀ b ∈ c :: all.map (·.1), b ∉ bs) : Chn w' base c all :=
 ⟨h.bx.kn hk (hn c (by simp)), seg_kn hk _ _ (fun n hm => hn n.1 (List.mem_cons_of_mem _ (List.mem_map.2 ⟨n, hm, rfl⟩))) h.seg, h.nd, h.lo⟩
theorem Chn.lt {w : World} {base c : Nat} {all : List Nd} (h : Chn w base c all) : ∀ b ∈ c :: all.map (·.1), b < w.heap.size := fun b hb => by
 rcases List.mem_cons.1 hb with rfl | hb
 ·exact h.bx.lt
 ·obtain ⟨n, hn, rfl⟩ := List.mem_map.1 hb
  exact seg_lt _ _ h.seg n hn

theorem Chn.at' {w : World} {base c : Nat} {A B : List Nd} {m : Nd} (h : Chn w base c (A ++ m :: B)) : Bx w m.1 (ndc m.2 (ptq B none)) := ((seg_app A (m :: B) none).1 h.seg).2.1
theorem Chn.mem {w : World} {base c : Nat} {all : List Nd} {m : Nd} (h : Chn w base c all) (hm : m ∈ all) : ∃ q, Bx w m.1 (ndc m.2 q) := by
 obtain ⟨A, B, rfl⟩ := List.append_of_mem hm
 exact ⟨_, h.at'⟩

theorem Chn.next {w : World} {base c : Nat} {A B C : List Nd} {m : Nd} (h : Chn w base c (A ++ m :: B)) (hC : Seg w C none) (hnd : (c :: (A ++ m :: C).map (·.1)).Nodup) (hlo : ∀ n ∈ C, base ≤ n.1) : Chn (w.setCell ⟨m.1, 4, none⟩ (.pointer (ptq C none))) base c (A ++ m :: C) := by
 have hk := Kn.set w m.1 4 (.pointer (ptq C none))
 obtain ⟨hA, hm, _⟩ := (seg_app A (m :: B) none).1 h.seg
 have nd := hnd
 simp only [List.map_append, List.map_cons, List.nodup_cons, List.nodup_append, List.mem_append, List.mem_cons, not_or] at nd
 obtain ⟨⟨n1, n2, n3⟩, n4, ⟨n5, n6⟩, n7⟩ := nd
 refine ⟨?_, (seg_app A (m :: C) none).2 ⟨seg_kn hk _ _ (fun n hn => ?_) hA, ?_, seg_kn hk _ _ (fun n hn => ?_) hC⟩, hnd, fun b hb => ?_⟩
 ·have e : ptq (A ++ m :: C) none = ptq (A ++ m :: B) none := by cases A <;> rfl
  rw [e]
  exact h.bx.kn hk (by simp [n2])
 ·simp only [List.mem_singleton]
  exact n7 n.1 (List.mem_map.2 ⟨n, hn, rfl⟩) m.1 (Or.inl rfl)
 ·have := hm.set 4 (.pointer (ptq C none))
  exact this
 ·simp only [List.mem_singleton]
  exact fun e => n5 (by rw [← e]; exact List.mem_map.2 ⟨n, hn, rfl⟩)
 ·simp only [List.mem_cons, List.map_append, List.map_cons, List.mem_append] at hb
  rcases hb with rfl | hb | rfl | hb
  ·exact h.lo _ (by simp)
  ·exact h.lo _ (by simp only [List.mem_cons, List.map_append, List.mem_append]; exact Or.inr (Or.inl hb))
  ·exact h.lo _ (by simp)
  ·obtain ⟨n, hn, rfl⟩ := List.mem_map.1 hb
   exact hlo n hn
end Go.Proofs.YtmijppfppigjcaaGreat

namespace Go.Proofs.YtmijppfppigjcaaGreat
open Go.RowKit
open KM
attribute [local go_sem ↓] Go.wp_at_zero Go.wp_at_succ

section
variable {w : World} {b : Nat}
theorem Bx.c5 {x0 x1 x2 x3 x4 x5 : Value} {r : List Value} (h : Bx w b (x0 :: x1 :: x2 :: x3 :: x4 :: x5 :: r)) : w.cell? ⟨b, 5, none⟩ = some x5 := h.at' 5 (by simp)
theorem Bx.c6 {x0 x1 x2 x3 x4 x5 x6 : Value} {r : List Value} (h : Bx w b (x0 :: x1 :: x2 :: x3 :: x4 :: x5 :: x6 :: r)) : w.cell? ⟨b, 6, none⟩ = some x6 := h.at' 6 (by simp)
theorem Bx.c7 {x0 x1 x2 x3 x4 x5 x6 x7 : Value} {r : List Value} (h : Bx w b (x0 :: x1 :: x2 :: x3 :: x4 :: x5 :: x6 :: x7 :: r)) : w.cell? ⟨b, 7, none⟩ = some x7 := h.at' 7 (by simp)
end
end Go.Proofs.YtmijppfppigjcaaGreat

namespace Go.Proofs.YtmijppfppigjcaaGreat
open Go.RowKit
open KM
open Go.Sort
attribute [local go_sem ↓] Go.wp_at_zero Go.wp_at_succ

theorem hide {p : Prop} (h : p) : Hid p := h
theorem heapAllocNew (w : World) (cs : List Value) (T : Nat) : (w.alloc (.cells cs.toArray T)).heap[w.heap.size]? = some (.cells cs.toArray T (0, 0)) := by unfold World.alloc; simp
theorem Bx.belowB {w w' : World} {b B : Nat} {cs : List Value} (h : Bx w b cs) (hb : Below B w w') (hlt : b < B) : Bx w' b cs :=
 ⟨Nat.lt_of_lt_of_le h.lt hb.size, fun j hj => (hb.cell (p := ⟨b, j, none⟩) hlt).trans (h.at' j hj), fun j => (hb.frozen (p := ⟨b, j, none⟩) hlt).trans (h.fz j)⟩
theorem GOwn.drewN {α : Type} {E : Enc α} {e : TypeId} {w : World} {base : Nat} {v : Value} {l : List α} (h : GOwn E e w base v l) (n : Nat) : GOwn E e (w.drewN n) base v l := h

theorem oneS {y : ByteArray} : ∀ u ∈ encS.enc y, u.oneCell' = true := by
 intro u hu
 simp only [encS, List.mem_cons, List.not_mem_nil, or_false] at hu
 rw [hu]; rfl
theorem wpAppS {ops : Array Oper} {rest : List Oper} {o : Oper} {a : Act} {Q : Exit → Act → World → Prop} (hgd : o.guard = none) (s x : Operand) (ho : o.op = .call { callee := .builtin .append, args := #[s, x], argTypes := #[28, 28] })
  {W : World} {base : Nat} {v : Value} {xs : List ByteArray} (y : ByteArray) (hs : a.eval s = v) (hown : GOwn encS 9 W base v xs)
  (hx : a.eval x = .slice (some ⟨W.heap.size, 0, none⟩) 1 1) (hlen : xs.length ≤ 100000000) (hB : base ≤ W.heap.size)
  (h : ∀ v' w', GOwn encS 9 w' base v' (xs ++ [y]) → Below base W w' → wpList Tryz.prog ops Q rest (a.put o.dst v') w') :
  wpList Tryz.prog ops Q (o :: rest) a (W.alloc (.cells #[.string y] 9)) := by
 refine wpAppG 28 9 1 16 _ Tryz.underlying28 Tryz.info9 rfl (by omega) (by omega) hgd s x ho (encS.enc y) hs (World.ownsRow.alloc hown _) hx (heapAllocNew W _ _) rfl oneS (by omega) (by simp; omega) ?_
 intro g' cap w' h1 h2
 refine h _ w' ?_ (((Below.refl _ _).alloc hB _).trans h2)
 have e : encS.cells (xs ++ [y]) = encS.cells xs ++ encS.enc y := by rw [encS.cells_app]; simp [Enc.cells]
 unfold GOwn
 rw [e, List.length_append]
 exact h1

theorem oneP {y : Rg} : ∀ u ∈ encR.enc y, u.oneCell' = true := by
 intro u hu
 simp only [encR, List.mem_cons, List.not_mem_nil, or_false] at hu
 rcases hu with rfl | rfl <;> rfl
theorem oneV {y : Vr} : ∀ u ∈ encV.enc y, u.oneCell' = true := by
 intro u hu
 simp only [encV, List.mem_cons, List.not_mem_nil, or_false] at hu
 rcases hu with rfl | rfl | rfl | rfl <;> rfl
theorem oneI {y : Int} : ∀ u ∈ encI.enc y, u.oneCell' = true := by
 intro u hu
 simp only [encI, List.mem_cons, List.not_mem_nil, or_false] at hu
 rw [hu]; rfl
theorem GRow.grown {α : Type} {E : Enc α} {w w' : World} {ao : Option Addr} {xs : List α} {row : Option Nat} (h : GRow E w ao xs) (hg : w.grownBy w' row) (hne : ∀ b off, ao = some ⟨b, off, none⟩ → row ≠ some b) : GRow E w' ao xs := fun h0 => by
 obtain ⟨b, off, rfl, hlt, hc⟩ := h h0
 have hb := hg.block b hlt (fun e => hne b off rfl e.symm)
 exact ⟨b, off, rfl, Nat.lt_of_lt_of_le hlt hg.size, fun j hj i hi => (World.cell?_of_block (w := w) (a := ⟨b, off + j * E.size + i, none⟩) hb).trans (hc j hj i hi)⟩
def Away (v : Value) (lo hi : Nat) : Prop := ∀ g, v.ownBlock = some g → g < lo ∨ hi ≤ g
theorem Away.next {v v' : Value} {lo hi n : Nat} (h : Away v lo hi) (hn : hi ≤ n) (h2 : v'.ownBlock = v.ownBlock ∨ ∃ g, v'.ownBlock = some g ∧ n ≤ g) : Away v' lo hi := fun g hg => by
 rcases h2 with h2 | ⟨g', h2, h3⟩
 ·exact h g (h2 ▸ hg)
 ·rw [h2] at hg
  have := Option.some.inj hg
  omega
theorem filter_take {α : Type} (p : α → Bool) (xs : List α) (k : Nat) (hk : k < xs.length) : (xs.take (k + 1)).filter p = (xs.take k).filter p ++ (if p xs[k] then [xs[k]] else []) := by
 rw [List.take_succ_eq_append_getElem hk, List.filter_append]
 congr 1
 cases h : p xs[k] <;> simp [h]
theorem filter_yes {α : Type} {p : α → Bool} {xs : List α} {k : Nat} (hk : k < xs.length) (h : p xs[k] = true) : (xs.take (k + 1)).filter p = (xs.take k).filter p ++ [xs[k]] := by
 rw [filter_take p xs k hk, h]; rfl
theorem filter_no {α : Type} {p : α → Bool} {xs : List α} {k : Nat} (hk : k < xs.length) (h : p xs[k] = false) : (xs.take (k + 1)).filter p = (xs.take k).filter p := by
 rw [filter_take p xs k hk, h]; simp
end Go.Proofs.YtmijppfppigjcaaGreat

namespace Go.Proofs.YtmijppfppigjcaaGreat
open Go.RowKit
open KM
attribute [local go_sem ↓] Go.wp_at_zero Go.wp_at_succ

structure Lies {α : Type} (E : Enc α) (e : TypeId) (w : World) (lo hi : Nat) (v : Value) (xs : List α) : Prop where
 own : GOwn E e w lo v xs
 up : ∀ g, v.ownBlock = some g → g < hi
section
variable {α : Type} {E : Enc α} {e : TypeId}
theorem Lies.of {w : World} {lo : Nat} {v : Value} {xs : List α} (h : GOwn E e w lo v xs) : Lies E e w lo w.heap.size v xs := ⟨h, fun g hg => (World.ownsRow.lt h g hg).2⟩
theorem Lies.below {w w' : World} {lo hi : Nat} {v : Value} {xs : List α} (h : Lies E e w lo hi v xs) (hb : Below w.heap.size w w') : Lies E e w' lo hi v xs := ⟨h.own.below hb, h.up⟩
theorem Lies.lo {w : World} {lo hi : Nat} {v : Value} {xs : List α} (h : Lies E e w lo hi v xs) : ∀ g, v.ownBlock = some g → lo ≤ g ∧ g < hi := fun g hg => ⟨(World.ownsRow.lt h.own g hg).1, h.up g hg⟩
end
theorem grown_low {w w' : World} {row : Option Nat} {base : Nat} (h : w.grownBy w' row) (hr : ∀ g, row = some g → base ≤ g) (hb : base ≤ w.heap.size) : Below base w w' :=
 ⟨h.os, h.tape, h.output, h.size, fun j hj => h.block j (by omega) (fun e => by have := hr j e.symm; omega)⟩
theorem bx_marked {w w' : World} {b : Nat} {cs : List Value} {row : Option Nat} (h : Bx w b cs) (hg : w.grownBy w' row) (hr : row ≠ some b) : Bx w' b cs := by
 have hb := hg.block b h.lt (fun e => hr e.symm)
 refine ⟨Nat.lt_of_lt_of_le h.lt hg.size, fun j hj => (World.cell?_of_block (w := w) (a := ⟨b, j, none⟩) hb).trans (h.at' j hj), fun j => ?_⟩
 have := h.fz j
 unfold World.frozen? at this ⊢
 simp only at this ⊢
 rw [hb]; exact this
theorem ne_self_int (x : Int) : (x != x) = false := by simp

end Go.Proofs.YtmijppfppigjcaaGreat

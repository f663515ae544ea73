/- An engine: how it lies, its size, its likeness. -/
import Derived.Test.YtjieojfcmigcdaaGreatDoorPw19
import Derived.Test.YtjieojfcmigcdaaGreatDoorProg
import Derived.WalkKit
import Derived.WalkSpells
import Derived.WalkLawsBesides
import Derived.Deep.AppendLies
import Derived.Test.YtjieojfcmigcdaaGreatDoorPw01
import Derived.Test.YtjieojfcmigcdaaGreatDoorPw02
import Derived.Test.YtjieojfcmigcdaaGreatDoorPw03
import Derived.Test.YtjieojfcmigcdaaGreatDoorPw04
import Derived.Deep.QuietTactic
import Derived.BigQuiet
import Derived.Deep.RegionHeld3
import Derived.Deep.DrawnRows
namespace Go.Proofs.YtjieojfcmigcdaaGreatDoor
open Go.RowKit
open KM
attribute [local go_sem ↓] Go.wp_at_zero Go.wp_at_succ

structure En where
 b : Bb
 os : List Ta
 oa : Option Addr
 oc : Nat
structure EnRows (w : World) (e : En) : Prop where
 b : BRows w e.b
 o : TRows w e.oa e.os
theorem EnRows.below {w w' : World} {e : En} (h : EnRows w e) (hb : Below w.heap.size w w') : EnRows w' e := ⟨h.b.below hb, h.o.below hb⟩
structure EnArg (w : World) (e : En) : Prop where
 b : BArg w e.b
 o : LArg w e.oa e.os
theorem EnArg.below {w w' : World} {e : En} (h : EnArg w e) (hb : Below w.heap.size w w') : EnArg w' e := ⟨h.b.below hb, h.o.below hb⟩
theorem EnArg.rows {w : World} {e : En} (h : EnArg w e) : EnRows w e := ⟨h.b.rows, h.o.rows⟩
structure EnFit (e : En) : Prop where
 b : BFit e.b
 o : LFit (txs e.os)
theorem EnFit.ol {e : En} (h : EnFit e) : e.os.length ≤ 1048576 := by have := h.o.1; rwa [txs_len] at this
structure EnSame (e c : En) : Prop where
 b : BSame e.b c.b
 o : txs c.os = txs e.os
theorem EnSame.ol {e c : En} (h : EnSame e c) : c.os.length = e.os.length := by rw [← txs_len, h.o, txs_len]
theorem EnSame.fit {e c : En} (h : EnSame e c) (hf : EnFit e) : EnFit c := ⟨h.b.fit hf.b, by rw [h.o]; exact hf.o⟩
theorem EnSame.trans {e c d : En} (h : EnSame e c) (k : EnSame c d) : EnSame e d := ⟨h.b.trans k.b, k.o.trans h.o⟩
theorem EnSame.symm {e c : En} (h : EnSame e c) : EnSame c e := ⟨h.b.symm, h.o.symm⟩
structure EnLie (w : World) (lo hi : Nat) (c : En) : Prop where
 ex : ∃ m, lo ≤ m ∧ m ≤ hi ∧ BLie w lo m c.b ∧ LLie w m hi (.slice c.oa c.os.length c.oc) c.os
theorem EnLie.rows {w : World} {lo hi : Nat} {c : En} (h : EnLie w lo hi c) : EnRows w c := by
 obtain ⟨m, _, _, h1, h2⟩ := h.ex
 exact ⟨h1.rows, h2.rows⟩
theorem EnLie.below {w w' : World} {lo hi : Nat} {c : En} (h : EnLie w lo hi c) (hb : Below w.heap.size w w') : EnLie w' lo hi c := by
 obtain ⟨m, a, b, h1, h2⟩ := h.ex
 exact ⟨m, a, b, h1.below hb, h2.below hb⟩
theorem EnLie.set {w : World} {lo hi : Nat} {c : En} (h : EnLie w lo hi c) {a : Addr} (ha : a.block < lo) (u : Value) : EnLie (w.setCell a u) lo hi c := by
 obtain ⟨m, k1, k2, h1, h2⟩ := h.ex
 exact ⟨m, k1, k2, h1.set ha u, h2.set (by omega) u⟩
theorem EnLie.mono {w : World} {lo hi lo' hi' : Nat} {c : En} (h : EnLie w lo hi c) (k : lo' ≤ lo) (k' : hi ≤ hi') : EnLie w lo' hi' c := by
 obtain ⟨m, k1, k2, h1, h2⟩ := h.ex
 exact ⟨m, by omega, by omega, h1.mono k (Nat.le_refl _), h2.mono (Nat.le_refl _) k'⟩
set_option maxRecDepth 100000 in
set_option maxHeartbeats 2000000 in
theorem szE (e : En) (L : Int) (h0 : 0 ≤ L) (h1 : L ≤ 1048576) (w : World) (hp : EnArg w e) :
  Calls Tryz.prog 15 #[.agg #[.slice e.b.va e.b.vs.length e.b.vc, .slice e.b.pa e.b.ps.length e.b.pc, .slice e.b.qa e.b.qs.length e.b.qc, .int .i64 e.b.cs, .int .i64 e.b.nx, .slice e.oa e.os.length e.oc], .int .i64 L] w fun ex w' => Below w.heap.size w w' ∧ ∃ q : Int, ex = .returned (.int .i64 q) ∧ q ≤ 1048576 ∧ (0 ≤ q → EnFit e) := by
 have HP : Hid (EnArg w e) := hp
 clear hp
 have BX0 : Hid (Bx (w.alloc (.cells #[.slice e.b.va e.b.vs.length e.b.vc, .slice e.b.pa e.b.ps.length e.b.pc, .slice e.b.qa e.b.qs.length e.b.qc, .int .i64 e.b.cs, .int .i64 e.b.nx, .slice e.oa e.os.length e.oc] 27)) w.heap.size [.slice e.b.va e.b.vs.length e.b.vc, .slice e.b.pa e.b.ps.length e.b.pc, .slice e.b.qa e.b.qs.length e.b.qc, .int .i64 e.b.cs, .int .i64 e.b.nx, .slice e.oa e.os.length e.oc]) := Bx.new w [.slice e.b.va e.b.vs.length e.b.vc, .slice e.b.pa e.b.ps.length e.b.pc, .slice e.b.qa e.b.qs.length e.b.qc, .int .i64 e.b.cs, .int .i64 e.b.nx, .slice e.oa e.os.length e.oc] 27
 have HB0 : Hid (Below w.heap.size w (w.alloc (.cells #[.slice e.b.va e.b.vs.length e.b.vc, .slice e.b.pa e.b.ps.length e.b.pc, .slice e.b.qa e.b.qs.length e.b.qc, .int .i64 e.b.cs, .int .i64 e.b.nx, .slice e.oa e.os.length e.oc] 27))) := (belowRefl w).alloc (Nat.le_refl _) _
 go_enter Tryz.func15, Tryz.ntmps15
 go_wp2_with fail
 refine (szB e.b L h0 h1 _ (HP.out.b.below HB0.out)).mono ?_
 rintro ex w1 ⟨hb1, r0, rfl, hu0, hr0⟩
 have HR0 : Hid (0 ≤ r0 → BFit e.b) := hr0
 have HB1 : Hid (Below w.heap.size w w1) := HB0.out.trans (hb1.mono HB0.out.size)
 have BX1 : Hid (Bx w1 w.heap.size [.slice e.b.va e.b.vs.length e.b.vc, .slice e.b.pa e.b.ps.length e.b.pc, .slice e.b.qa e.b.qs.length e.b.qc, .int .i64 e.b.cs, .int .i64 e.b.nx, .slice e.oa e.os.length e.oc]) := BX0.out.below hb1
 clear hb1 hr0 BX0
 by_cases hn0 : r0 < 0
 ·go_wp2
  go_ret
  exact ⟨HB1.out, -1, rfl, by omega, fun h => by omega⟩
 have x5 := BX1.out.c5
 go_wp2_with fail
 refine (szL e.os e.oa e.oc r0 (by omega) hu0 _ (HP.out.o.below HB1.out)).mono ?_
 rintro ex w2 ⟨hb2, r1, rfl, hu1, hr1⟩
 have HR1 : Hid (0 ≤ r1 → LFit (txs e.os)) := hr1
 have HB2 : Hid (Below w.heap.size w w2) := HB1.out.trans (hb2.mono HB1.out.size)
 clear hb2 hr1 x5
 by_cases hn3 : r1 < 0
 ·go_wp2
  go_ret
  exact ⟨HB2.out, -1, rfl, by omega, fun h => by omega⟩
 have HT : Hid (EnFit e) := ⟨HR0.out (by omega), HR1.out (by omega)⟩
 go_wp2
 go_ret
 exact ⟨HB2.out, _, rfl, hu1, fun _ => HT.out⟩

set_option maxRecDepth 100000 in
set_option maxHeartbeats 2000000 in
theorem eqE0 (e c : En) (hs : EnSame e c) (hf : EnFit e) (w : World) (hp : EnRows w e) (hq : EnRows w c) :
  Calls Tryz.prog 26 #[.agg #[.slice e.b.va e.b.vs.length e.b.vc, .slice e.b.pa e.b.ps.length e.b.pc, .slice e.b.qa e.b.qs.length e.b.qc, .int .i64 e.b.cs, .int .i64 e.b.nx, .slice e.oa e.os.length e.oc], .agg #[.slice c.b.va e.b.vs.length c.b.vc, .slice c.b.pa e.b.ps.length c.b.pc, .slice c.b.qa e.b.qs.length c.b.qc, .int .i64 e.b.cs, .int .i64 e.b.nx, .slice c.oa e.os.length c.oc]] w fun ex w' => ex = .returned (.bool true) ∧ Below w.heap.size w w' := by
 have HP : Hid (EnRows w e) := hp
 have HQ : Hid (EnRows w c) := hq
 have HS : Hid (EnSame e c) := hs
 have HF : Hid (EnFit e) := hf
 clear hp hq hs hf
 have BA0 : Hid (Bx ((w.alloc (.cells #[.slice e.b.va e.b.vs.length e.b.vc, .slice e.b.pa e.b.ps.length e.b.pc, .slice e.b.qa e.b.qs.length e.b.qc, .int .i64 e.b.cs, .int .i64 e.b.nx, .slice e.oa e.os.length e.oc] 41)).alloc (.cells #[.slice c.b.va e.b.vs.length c.b.vc, .slice c.b.pa e.b.ps.length c.b.pc, .slice c.b.qa e.b.qs.length c.b.qc, .int .i64 e.b.cs, .int .i64 e.b.nx, .slice c.oa e.os.length c.oc] 41)) w.heap.size [.slice e.b.va e.b.vs.length e.b.vc, .slice e.b.pa e.b.ps.length e.b.pc, .slice e.b.qa e.b.qs.length e.b.qc, .int .i64 e.b.cs, .int .i64 e.b.nx, .slice e.oa e.os.length e.oc]) := (Bx.new w [.slice e.b.va e.b.vs.length e.b.vc, .slice e.b.pa e.b.ps.length e.b.pc, .slice e.b.qa e.b.qs.length e.b.qc, .int .i64 e.b.cs, .int .i64 e.b.nx, .slice e.oa e.os.length e.oc] 41).alloc _
 have BB0 : Hid (Bx ((w.alloc (.cells #[.slice e.b.va e.b.vs.length e.b.vc, .slice e.b.pa e.b.ps.length e.b.pc, .slice e.b.qa e.b.qs.length e.b.qc, .int .i64 e.b.cs, .int .i64 e.b.nx, .slice e.oa e.os.length e.oc] 41)).alloc (.cells #[.slice c.b.va e.b.vs.length c.b.vc, .slice c.b.pa e.b.ps.length c.b.pc, .slice c.b.qa e.b.qs.length c.b.qc, .int .i64 e.b.cs, .int .i64 e.b.nx, .slice c.oa e.os.length c.oc] 41)) (w.heap.size + 1) [.slice c.b.va e.b.vs.length c.b.vc, .slice c.b.pa e.b.ps.length c.b.pc, .slice c.b.qa e.b.qs.length c.b.qc, .int .i64 e.b.cs, .int .i64 e.b.nx, .slice c.oa e.os.length c.oc]) := by
  have h := Bx.new (w.alloc (.cells #[.slice e.b.va e.b.vs.length e.b.vc, .slice e.b.pa e.b.ps.length e.b.pc, .slice e.b.qa e.b.qs.length e.b.qc, .int .i64 e.b.cs, .int .i64 e.b.nx, .slice e.oa e.os.length e.oc] 41)) [.slice c.b.va e.b.vs.length c.b.vc, .slice c.b.pa e.b.ps.length c.b.pc, .slice c.b.qa e.b.qs.length c.b.qc, .int .i64 e.b.cs, .int .i64 e.b.nx, .slice c.oa e.os.length c.oc] 41
  rw [World.size_alloc] at h
  exact h
 have HB0 : Hid (Below w.heap.size w ((w.alloc (.cells #[.slice e.b.va e.b.vs.length e.b.vc, .slice e.b.pa e.b.ps.length e.b.pc, .slice e.b.qa e.b.qs.length e.b.qc, .int .i64 e.b.cs, .int .i64 e.b.nx, .slice e.oa e.os.length e.oc] 41)).alloc (.cells #[.slice c.b.va e.b.vs.length c.b.vc, .slice c.b.pa e.b.ps.length c.b.pc, .slice c.b.qa e.b.qs.length c.b.qc, .int .i64 e.b.cs, .int .i64 e.b.nx, .slice c.oa e.os.length c.oc] 41))) := ((belowRefl w).alloc (Nat.le_refl _) _).alloc (by simp) _
 have CB : Hid (∀ W : World, Below w.heap.size w W → Calls Tryz.prog 52 #[.agg #[.slice e.b.va e.b.vs.length e.b.vc, .slice e.b.pa e.b.ps.length e.b.pc, .slice e.b.qa e.b.qs.length e.b.qc, .int .i64 e.b.cs, .int .i64 e.b.nx], .agg #[.slice c.b.va e.b.vs.length c.b.vc, .slice c.b.pa e.b.ps.length c.b.pc, .slice c.b.qa e.b.qs.length c.b.qc, .int .i64 e.b.cs, .int .i64 e.b.nx]] W fun ex w' => ex = .returned (.bool true) ∧ Below W.heap.size W w') := fun W h => eqB0 e.b c.b HS.out.b HF.out.b W (HP.out.b.below h) (HQ.out.b.below h)
 have CO : Hid (∀ W : World, Below w.heap.size w W → Calls Tryz.prog 35 #[.slice e.oa e.os.length e.oc, .slice c.oa e.os.length c.oc] W fun ex w' => ex = .returned (.bool true) ∧ Below W.heap.size W w') := fun W h => eqL e.os c.os e.oa c.oa e.oc c.oc e.os.length rfl HS.out.ol.symm (Nat.le_trans HF.out.ol (by omega)) HS.out.o.symm HF.out.o W (HP.out.o.below h) (HQ.out.o.below h)
 clear HP HQ HS HF
 go_enter Tryz.func26, Tryz.ntmps26
 go_wp2_with fail
 refine (CB.out _ HB0.out).mono ?_
 rintro ex w1 ⟨rfl, hb1⟩
 have BA1 : Hid (Bx w1 w.heap.size [.slice e.b.va e.b.vs.length e.b.vc, .slice e.b.pa e.b.ps.length e.b.pc, .slice e.b.qa e.b.qs.length e.b.qc, .int .i64 e.b.cs, .int .i64 e.b.nx, .slice e.oa e.os.length e.oc]) := BA0.out.below hb1
 have BB1 : Hid (Bx w1 (w.heap.size + 1) [.slice c.b.va e.b.vs.length c.b.vc, .slice c.b.pa e.b.ps.length c.b.pc, .slice c.b.qa e.b.qs.length c.b.qc, .int .i64 e.b.cs, .int .i64 e.b.nx, .slice c.oa e.os.length c.oc]) := BB0.out.below hb1
 have HB1 : Hid (Below w.heap.size w w1) := HB0.out.trans (hb1.mono HB0.out.size)
 clear hb1 BA0 BB0 HB0
 have x5 := BA1.out.c5
 have y5 := BB1.out.c5
 go_wp2_with fail
 refine (CO.out _ HB1.out).mono ?_
 rintro ex w2 ⟨rfl, hb2⟩
 have HB2 : Hid (Below w.heap.size w w2) := HB1.out.trans (hb2.mono HB1.out.size)
 clear hb2
 go_wp2
 go_ret
 exact ⟨rfl, HB2.out⟩

end Go.Proofs.YtjieojfcmigcdaaGreatDoor

namespace Go.Proofs.YtjieojfcmigcdaaGreatDoor
open Go.RowKit

theorem Tryz.info128 : (Tryz.prog.info? 128).map (fun i => (i.zero, i.size, i.bytes)) = some (some (.agg #[.int .i64 0, .string ByteArray.empty]), 2, 24) := by kernel_rfl

abbrev Wr := Int × ByteArray
def pc (p : Wr) : List Value := [.int .i64 p.1, .string p.2]
def pcs (ps : List Wr) : List Value := ps.flatMap pc
def scs (ss : List ByteArray) : List Value := ss.map Value.string
theorem scs_len (ss : List ByteArray) : (scs ss).length = ss.length := by simp [scs]
theorem pcs_len : ∀ ps : List Wr, (pcs ps).length = ps.length * 2
 | [] => rfl
 | p :: ps => by
  have := pcs_len ps
  simp only [pcs, List.flatMap_cons, List.length_append, List.length_cons] at this ⊢
  simp only [pc, List.length_cons, List.length_nil]
  omega
theorem pcs_at : ∀ (ps : List Wr) (j : Nat) (h : j < ps.length), (pcs ps)[j * 2]? = some (.int .i64 ps[j].1) ∧ (pcs ps)[j * 2 + 1]? = some (.string ps[j].2)
 | p :: ps, 0, _ => by simp [pcs, pc]
 | p :: ps, j + 1, h => by
  have := pcs_at ps j (by simpa using h)
  have e : pcs (p :: ps) = [.int .i64 p.1, .string p.2] ++ pcs ps := rfl
  rw [e]
  constructor
  ·rw [List.getElem?_append_right (by simp; omega)]
   simp only [List.length_cons, List.length_nil]
   rw [show (j + 1) * 2 - (0 + 1 + 1) = j * 2 by omega]
   exact this.1
  ·rw [List.getElem?_append_right (by simp; omega)]
   simp only [List.length_cons, List.length_nil]
   rw [show (j + 1) * 2 + 1 - (0 + 1 + 1) = j * 2 + 1 by omega]
   exact this.2

def SOwn (w : World) (base : Nat) (v : Value) (ss : List ByteArray) : Prop := w.ownsRow base 9 1 v ss.length (scs ss)
def POwn (w : World) (base : Nat) (v : Value) (ps : List Wr) : Prop := w.ownsRow base 128 2 v ps.length (pcs ps)
def SRow (w : World) (a : Option Addr) (ss : List ByteArray) : Prop :=
 0 < ss.length → ∃ b off, a = some ⟨b, off, none⟩ ∧ b < w.heap.size ∧ ∀ j (hj : j < ss.length), w.cell? ⟨b, off + j, none⟩ = some (.string ss[j])
def PRow (w : World) (a : Option Addr) (ps : List Wr) : Prop :=
 0 < ps.length → ∃ b off, a = some ⟨b, off, none⟩ ∧ b < w.heap.size ∧ ∀ j (hj : j < ps.length), w.cell? ⟨b, off + j * 2, none⟩ = some (.int .i64 ps[j].1) ∧ w.cell? ⟨b, off + j * 2 + 1, none⟩ = some (.string ps[j].2)

theorem SRow.below {w w' : World} {a : Option Addr} {ss : List ByteArray} (h : SRow w a ss) (hb : Below w.heap.size w w') : SRow w' a ss := fun h0 => by
 obtain ⟨b, off, rfl, hlt, hc⟩ := h h0
 exact ⟨b, off, rfl, Nat.lt_of_lt_of_le hlt hb.size, fun j hj => (hb.cell (p := ⟨b, off + j, none⟩) hlt).trans (hc j hj)⟩
theorem PRow.below {w w' : World} {a : Option Addr} {ps : List Wr} (h : PRow w a ps) (hb : Below w.heap.size w w') : PRow w' a ps := fun h0 => by
 obtain ⟨b, off, rfl, hlt, hc⟩ := h h0
 exact ⟨b, off, rfl, Nat.lt_of_lt_of_le hlt hb.size, fun j hj => ⟨(hb.cell (p := ⟨b, off + j * 2, none⟩) hlt).trans (hc j hj).1, (hb.cell (p := ⟨b, off + j * 2 + 1, none⟩) hlt).trans (hc j hj).2⟩⟩
theorem SRow.nil (w : World) (a : Option Addr) : SRow w a [] := fun h => by simp at h
theorem PRow.nil (w : World) (a : Option Addr) : PRow w a [] := fun h => by simp at h

theorem SOwn.below {w w' : World} {base : Nat} {v : Value} {l : List ByteArray} (h : SOwn w base v l) (hb : Below w.heap.size w w') : SOwn w' base v l := ownsBelow h hb
theorem POwn.below {w w' : World} {base : Nat} {v : Value} {l : List Wr} (h : POwn w base v l) (hb : Below w.heap.size w w') : POwn w' base v l := ownsBelow h hb

theorem SOwn.mono {w : World} {base base' : Nat} {v : Value} {l : List ByteArray} (h : SOwn w base v l) (hb : base' ≤ base) : SOwn w base' v l := ownsMono h hb
theorem POwn.mono {w : World} {base base' : Nat} {v : Value} {l : List Wr} (h : POwn w base v l) (hb : base' ≤ base) : POwn w base' v l := ownsMono h hb
theorem SOwn.nil (w : World) (base : Nat) : SOwn w base (.slice none 0 0) [] := World.ownsRow_nil _ _ _ _
theorem POwn.nil (w : World) (base : Nat) : POwn w base (.slice none 0 0) [] := World.ownsRow_nil _ _ _ _
theorem SOwn.empty (w : World) (base : Nat) (hb : base ≤ w.heap.size) : SOwn (w.alloc (.cells #[] 9)) base (.slice (some ⟨w.heap.size, 0, none⟩) 0 0) [] :=
 World.ownsRow_lit (size := 1) w #[] 0 hb (by unfold maxLen; omega) rfl
theorem POwn.empty (w : World) (base : Nat) (hb : base ≤ w.heap.size) : POwn (w.alloc (.cells #[] 128)) base (.slice (some ⟨w.heap.size, 0, none⟩) 0 0) [] :=
 World.ownsRow_lit (size := 2) w #[] 0 hb (by unfold maxLen; omega) rfl
theorem SOwn.alloc {w : World} {base : Nat} {v : Value} {l : List ByteArray} (h : SOwn w base v l) (o : Obj) : SOwn (w.alloc o) base v l := World.ownsRow.alloc h o
theorem POwn.alloc {w : World} {base : Nat} {v : Value} {l : List Wr} (h : POwn w base v l) (o : Obj) : POwn (w.alloc o) base v l := World.ownsRow.alloc h o

theorem SOwn.row {w : World} {base : Nat} {v : Value} {l : List ByteArray} (h : SOwn w base v l) : ∃ ao cap, v = .slice ao l.length cap ∧ SRow w ao l := by
 have h0 := h
 rcases h.2 with ⟨rfl, h1⟩ | ⟨g, cap, cur, rfl, hg, hh, hnc, hcp, hcs, htake⟩
 ·exact ⟨none, 0, by rw [h1], fun h => by omega⟩
 ·refine ⟨_, cap, rfl, fun _ => ⟨g, 0, rfl, (World.ownsRow.lt h0 g rfl).2, fun j hj => ?_⟩⟩
  rw [Nat.zero_add, World.ownsRow.cellAt h0 j (by omega)]
  simp [scs, hj]
theorem POwn.row {w : World} {base : Nat} {v : Value} {l : List Wr} (h : POwn w base v l) : ∃ ao cap, v = .slice ao l.length cap ∧ PRow w ao l := by
 have h0 := h
 rcases h.2 with ⟨rfl, h1⟩ | ⟨g, cap, cur, rfl, hg, hh, hnc, hcp, hcs, htake⟩
 ·exact ⟨none, 0, by rw [h1], fun h => by omega⟩
 ·refine ⟨_, cap, rfl, fun _ => ⟨g, 0, rfl, (World.ownsRow.lt h0 g rfl).2, fun j hj => ?_⟩⟩
  rw [Nat.zero_add, World.ownsRow.cellAt h0 (j * 2) (by omega), World.ownsRow.cellAt h0 (j * 2 + 1) (by omega)]
  exact pcs_at l j hj

end Go.Proofs.YtjieojfcmigcdaaGreatDoor

namespace Go.Proofs.YtjieojfcmigcdaaGreatDoor
namespace DM
abbrev Wr := Int × ByteArray

def OkD (ss : List ByteArray) (ps : List Wr) : Prop :=
 1 ≤ ss.length ∧ ss.length ≤ 100 ∧ ps.length ≤ 60 ∧ (∀ s ∈ ss, s.size = 64) ∧ (∀ p ∈ ps, 0 ≤ p.1 ∧ p.1 < (ss.length : Int) ∧ p.2.size = 64)
instance (ss : List ByteArray) (ps : List Wr) : Decidable (OkD ss ps) := by unfold OkD; infer_instance
end DM
end Go.Proofs.YtjieojfcmigcdaaGreatDoor

namespace Go.Proofs.YtjieojfcmigcdaaGreatDoor
open Go.RowKit
open DM
attribute [local go_sem ↓] Go.wp_at_zero Go.wp_at_succ

set_option maxRecDepth 100000 in
set_option maxHeartbeats 1000000 in
theorem eq72 (a1 a2 : Option Addr) (c1 c2 : Nat) (ss : List ByteArray) (hn : ss.length ≤ 100000000) (w : World) (h1 : SRow w a1 ss) (h2 : SRow w a2 ss) :
  Calls Tryz.prog 37 #[.slice a1 ss.length c1, .slice a2 ss.length c2] w fun e w' => e = .returned (.bool true) ∧ Below w.heap.size w w' := by
 have H1 : Hid (SRow w a1 ss) := h1
 have H2 : Hid (SRow w a2 ss) := h2
 clear h1 h2
 go_enter Tryz.func37, Tryz.ntmps37
 go_wp2
 go_loopw [5] (fun t wr => ∃ k : Nat, k ≤ ss.length ∧ t = .int .i64 k ∧ Hid (Below w.heap.size w wr)) (fun t _ => ss.length - (intOf t).toNat)
 case atStart => exact ⟨0, Nat.zero_le _, rfl, Below.refl _ _⟩
 case round =>
  obtain ⟨k, hk, rfl, HB⟩ := hrel
  by_cases hlt : k < ss.length
  ·have hlt' : (k : Int) < (ss.length : Int) := by omega
   have h0 : (0 : Int) ≤ (k : Int) := by omega
   obtain ⟨b1, off1, rfl, hl1, q1⟩ := (H1.out.below HB.out) (by omega)
   obtain ⟨b2, off2, rfl, hl2, q2⟩ := (H2.out.below HB.out) (by omega)
   have r1 := q1 k hlt
   have r2 := q2 k hlt
   clear q1 q2
   go_wp2
   go_quiet (fail)
   go_wp2
   go_roundw
   case rel => exact ⟨k + 1, by omega, by go_num, below_drewN HB.out _⟩
   case measure => simp [intOf]; omega
  ·have hd : ¬ (k : Int) < (ss.length : Int) := by omega
   go_wp2
   go_ret
   exact ⟨rfl, HB.out⟩

set_option maxHeartbeats 400000 in
theorem eq86 (x : Int) (t : ByteArray) (w : World) :
  Calls Tryz.prog 71 #[.agg #[.int .i64 x, .string t], .agg #[.int .i64 x, .string t]] w fun e w' => e = .returned (.bool true) ∧ Below w.heap.size w w' := by
 go_enter Tryz.func71, Tryz.ntmps71
 go_wp2
 go_ret
 exact ⟨rfl, ((belowRefl w).alloc (Nat.le_refl _) _).alloc (by simp) _⟩

set_option maxRecDepth 100000 in
set_option maxHeartbeats 1000000 in
theorem eq73 (a1 a2 : Option Addr) (c1 c2 : Nat) (ps : List Wr) (hn : ps.length ≤ 100000000) (w : World) (h1 : PRow w a1 ps) (h2 : PRow w a2 ps) :
  Calls Tryz.prog 53 #[.slice a1 ps.length c1, .slice a2 ps.length c2] w fun e w' => e = .returned (.bool true) ∧ Below w.heap.size w w' := by
 have H1 : Hid (PRow w a1 ps) := h1
 have H2 : Hid (PRow w a2 ps) := h2
 clear h1 h2
 go_enter Tryz.func53, Tryz.ntmps53
 go_wp2
 go_loopw [5] (fun t wr => ∃ k : Nat, k ≤ ps.length ∧ t = .int .i64 k ∧ Hid (Below w.heap.size w wr)) (fun t _ => ps.length - (intOf t).toNat)
 case atStart => exact ⟨0, Nat.zero_le _, rfl, Below.refl _ _⟩
 case round =>
  obtain ⟨k, hk, rfl, HB⟩ := hrel
  by_cases hlt : k < ps.length
  ·have hlt' : (k : Int) < (ps.length : Int) := by omega
   have h0 : (0 : Int) ≤ (k : Int) := by omega
   obtain ⟨b1, off1, rfl, hl1, q1⟩ := (H1.out.below HB.out) (by omega)
   obtain ⟨b2, off2, rfl, hl2, q2⟩ := (H2.out.below HB.out) (by omega)
   have r1 := (q1 k hlt).1
   have s1 := (q1 k hlt).2
   have r2 := (q2 k hlt).1
   have s2 := (q2 k hlt).2
   clear q1 q2
   go_wp2
   go_region_held3 (fun w' => w'.cell? ⟨b1, off1 + k * 2, none⟩ = some (.int .i64 ps[k].1) ∧ w'.cell? ⟨b1, off1 + k * 2 + 1, none⟩ = some (.string ps[k].2) ∧ w'.cell? ⟨b2, off2 + k * 2, none⟩ = some (.int .i64 ps[k].1) ∧ w'.cell? ⟨b2, off2 + k * 2 + 1, none⟩ = some (.string ps[k].2)) (first | go_keep | exact ⟨(hbm.cell (p := ⟨b1, off1 + k * 2, none⟩) hl1).trans r1, (hbm.cell (p := ⟨b1, off1 + k * 2 + 1, none⟩) hl1).trans s1, (hbm.cell (p := ⟨b2, off2 + k * 2, none⟩) hl2).trans r2, (hbm.cell (p := ⟨b2, off2 + k * 2 + 1, none⟩) hl2).trans s2⟩) ((go_at_call 71; refine (eq86 _ _ _).mono ?_; rintro e w2 ⟨rfl, hbm⟩))
   all_goals
    go_wp2
    go_roundw
    case rel => exact ⟨k + 1, by omega, by go_num, (HB.out.drew).trans (hbm.mono HB.out.size)⟩
    case measure => simp [intOf]; omega
  ·have hd : ¬ (k : Int) < (ps.length : Int) := by omega
   go_wp2
   go_ret
   exact ⟨rfl, HB.out⟩

set_option maxRecDepth 100000 in
set_option maxHeartbeats 1000000 in
theorem eq40 (a1 a2 b1 b2 : Option Addr) (c1 c2 d1 d2 : Nat) (ss : List ByteArray) (ps : List Wr) (hn : ss.length ≤ 100000000) (hm : ps.length ≤ 100000000) (w : World) (h1 : SRow w a1 ss) (h2 : PRow w a2 ps) (h3 : SRow w b1 ss) (h4 : PRow w b2 ps) :
  Calls Tryz.prog 27 #[.agg #[.slice a1 ss.length c1, .slice a2 ps.length c2], .agg #[.slice b1 ss.length d1, .slice b2 ps.length d2]] w fun e w' => e = .returned (.bool true) ∧ Below w.heap.size w w' := by
 have H1 : Hid (SRow w a1 ss) := h1
 have H2 : Hid (PRow w a2 ps) := h2
 have H3 : Hid (SRow w b1 ss) := h3
 have H4 : Hid (PRow w b2 ps) := h4
 clear h1 h2 h3 h4
 go_enter Tryz.func27, Tryz.ntmps27
 go_wp2_with fail
 refine (eq72 a1 b1 c1 d1 ss hn _ (H1.out.below (((belowRefl w).alloc (Nat.le_refl _) _).alloc (by simp) _)) (H3.out.below (((belowRefl w).alloc (Nat.le_refl _) _).alloc (by simp) _))).mono ?_
 rintro e w1 ⟨rfl, hb1⟩
 have HB1 : Hid (Below w.heap.size w w1) := (((belowRefl w).alloc (Nat.le_refl _) _).alloc (by simp) _).trans (hb1.mono (by simp; omega))
 obtain ⟨hc1, hf1⟩ := bcell hb1
 clear hb1
 go_wp2_with fail
 refine (eq73 a2 b2 c2 d2 ps hm _ (H2.out.below HB1.out) (H4.out.below HB1.out)).mono ?_
 rintro e w2 ⟨rfl, hb2⟩
 have HB2 : Hid (Below w.heap.size w w2) := HB1.out.trans (hb2.mono HB1.out.size)
 clear hb2
 go_wp2
 go_ret
 exact ⟨rfl, HB2.out⟩
end Go.Proofs.YtjieojfcmigcdaaGreatDoor

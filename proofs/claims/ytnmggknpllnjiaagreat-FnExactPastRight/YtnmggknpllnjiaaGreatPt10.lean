/- An engine: how it lies, its size, its likeness. -/
import Derived.Test.YtnmggknpllnjiaaGreatPt09
import Derived.Test.YtnmggknpllnjiaaGreatProg
import Derived.WalkKit
import Derived.Test.YtnmggknpllnjiaaGreatPt01
import Derived.WalkSpells
import Derived.WalkLawsBesides
import Derived.Deep.QuietTactic
import Derived.BigQuiet
import Derived.Deep.RegionHeld3
import Derived.Deep.DrawnRows
import Derived.Deep.AppendLies
import Derived.Test.YtnmggknpllnjiaaGreatPt03
import Derived.Sort.OwnSorted
import Derived.Lib.RowBridge
import Derived.Test.YtnmggknpllnjiaaGreatPt04
namespace Go.Proofs.YtnmggknpllnjiaaGreat
open Go.RowKit
open KM
attribute [local go_sem ↓] Go.wp_at_zero Go.wp_at_succ

structure En where
 b : Bb
 os : List Ta
 oa : Option Addr
 oc : Nat
structure EnRows (w : World) (e : En) : Prop where
 b : BRows w e.b
 o : TRows w e.oa e.os
theorem EnRows.below {w w' : World} {e : En} (h : EnRows w e) (hb : Below w.heap.size w w') : EnRows w' e := ⟨h.b.below hb, h.o.below hb⟩
structure EnArg (w : World) (e : En) : Prop where
 b : BArg w e.b
 o : LArg w e.oa e.os
theorem EnArg.below {w w' : World} {e : En} (h : EnArg w e) (hb : Below w.heap.size w w') : EnArg w' e := ⟨h.b.below hb, h.o.below hb⟩
theorem EnArg.rows {w : World} {e : En} (h : EnArg w e) : EnRows w e := ⟨h.b.rows, h.o.rows⟩
structure EnFit (e : En) : Prop where
 b : BFit e.b
 o : LFit (txs e.os)
theorem EnFit.ol {e : En} (h : EnFit e) : e.os.length ≤ 1048576 := by have := h.o.1; rwa [txs_len] at this
structure EnSame (e c : En) : Prop where
 b : BSame e.b c.b
 o : txs c.os = txs e.os
theorem EnSame.ol {e c : En} (h : EnSame e c) : c.os.length = e.os.length := by rw [← txs_len, h.o, txs_len]
theorem EnSame.fit {e c : En} (h : EnSame e c) (hf : EnFit e) : EnFit c := ⟨h.b.fit hf.b, by rw [h.o]; exact hf.o⟩
theorem EnSame.trans {e c d : En} (h : EnSame e c) (k : EnSame c d) : EnSame e d := ⟨h.b.trans k.b, k.o.trans h.o⟩
theorem EnSame.symm {e c : En} (h : EnSame e c) : EnSame c e := ⟨h.b.symm, h.o.symm⟩
structure EnLie (w : World) (lo hi : Nat) (c : En) : Prop where
 ex : ∃ m, lo ≤ m ∧ m ≤ hi ∧ BLie w lo m c.b ∧ LLie w m hi (.slice c.oa c.os.length c.oc) c.os
theorem EnLie.rows {w : World} {lo hi : Nat} {c : En} (h : EnLie w lo hi c) : EnRows w c := by
 obtain ⟨m, _, _, h1, h2⟩ := h.ex
 exact ⟨h1.rows, h2.rows⟩
theorem EnLie.below {w w' : World} {lo hi : Nat} {c : En} (h : EnLie w lo hi c) (hb : Below w.heap.size w w') : EnLie w' lo hi c := by
 obtain ⟨m, a, b, h1, h2⟩ := h.ex
 exact ⟨m, a, b, h1.below hb, h2.below hb⟩
theorem EnLie.set {w : World} {lo hi : Nat} {c : En} (h : EnLie w lo hi c) {a : Addr} (ha : a.block < lo) (u : Value) : EnLie (w.setCell a u) lo hi c := by
 obtain ⟨m, k1, k2, h1, h2⟩ := h.ex
 exact ⟨m, k1, k2, h1.set ha u, h2.set (by omega) u⟩
theorem EnLie.mono {w : World} {lo hi lo' hi' : Nat} {c : En} (h : EnLie w lo hi c) (k : lo' ≤ lo) (k' : hi ≤ hi') : EnLie w lo' hi' c := by
 obtain ⟨m, k1, k2, h1, h2⟩ := h.ex
 exact ⟨m, by omega, by omega, h1.mono k (Nat.le_refl _), h2.mono (Nat.le_refl _) k'⟩
set_option maxRecDepth 100000 in
set_option maxHeartbeats 2000000 in
theorem szE (e : En) (L : Int) (h0 : 0 ≤ L) (h1 : L ≤ 1048576) (w : World) (hp : EnArg w e) :
  Calls Tryz.prog 34 #[.agg #[.slice e.b.va e.b.vs.length e.b.vc, .slice e.b.pa e.b.ps.length e.b.pc, .slice e.b.qa e.b.qs.length e.b.qc, .int .i64 e.b.cs, .int .i64 e.b.nx, .slice e.oa e.os.length e.oc], .int .i64 L] w fun ex w' => Below w.heap.size w w' ∧ ∃ q : Int, ex = .returned (.int .i64 q) ∧ q ≤ 1048576 ∧ (0 ≤ q → EnFit e) := by
 have HP : Hid (EnArg w e) := hp
 clear hp
 have BX0 : Hid (Bx (w.alloc (.cells #[.slice e.b.va e.b.vs.length e.b.vc, .slice e.b.pa e.b.ps.length e.b.pc, .slice e.b.qa e.b.qs.length e.b.qc, .int .i64 e.b.cs, .int .i64 e.b.nx, .slice e.oa e.os.length e.oc] 27)) w.heap.size [.slice e.b.va e.b.vs.length e.b.vc, .slice e.b.pa e.b.ps.length e.b.pc, .slice e.b.qa e.b.qs.length e.b.qc, .int .i64 e.b.cs, .int .i64 e.b.nx, .slice e.oa e.os.length e.oc]) := Bx.new w [.slice e.b.va e.b.vs.length e.b.vc, .slice e.b.pa e.b.ps.length e.b.pc, .slice e.b.qa e.b.qs.length e.b.qc, .int .i64 e.b.cs, .int .i64 e.b.nx, .slice e.oa e.os.length e.oc] 27
 have HB0 : Hid (Below w.heap.size w (w.alloc (.cells #[.slice e.b.va e.b.vs.length e.b.vc, .slice e.b.pa e.b.ps.length e.b.pc, .slice e.b.qa e.b.qs.length e.b.qc, .int .i64 e.b.cs, .int .i64 e.b.nx, .slice e.oa e.os.length e.oc] 27))) := (belowRefl w).alloc (Nat.le_refl _) _
 go_enter Tryz.func34, Tryz.ntmps34
 go_wp2_with fail
 refine (szB e.b L h0 h1 _ (HP.out.b.below HB0.out)).mono ?_
 rintro ex w1 ⟨hb1, r0, rfl, hu0, hr0⟩
 have HR0 : Hid (0 ≤ r0 → BFit e.b) := hr0
 have HB1 : Hid (Below w.heap.size w w1) := HB0.out.trans (hb1.mono HB0.out.size)
 have BX1 : Hid (Bx w1 w.heap.size [.slice e.b.va e.b.vs.length e.b.vc, .slice e.b.pa e.b.ps.length e.b.pc, .slice e.b.qa e.b.qs.length e.b.qc, .int .i64 e.b.cs, .int .i64 e.b.nx, .slice e.oa e.os.length e.oc]) := BX0.out.below hb1
 clear hb1 hr0 BX0
 by_cases hn0 : r0 < 0
 ·go_wp2
  go_ret
  exact ⟨HB1.out, -1, rfl, by omega, fun h => by omega⟩
 have x5 := BX1.out.c5
 go_wp2_with fail
 refine (szL e.os e.oa e.oc r0 (by omega) hu0 _ (HP.out.o.below HB1.out)).mono ?_
 rintro ex w2 ⟨hb2, r1, rfl, hu1, hr1⟩
 have HR1 : Hid (0 ≤ r1 → LFit (txs e.os)) := hr1
 have HB2 : Hid (Below w.heap.size w w2) := HB1.out.trans (hb2.mono HB1.out.size)
 clear hb2 hr1 x5
 by_cases hn3 : r1 < 0
 ·go_wp2
  go_ret
  exact ⟨HB2.out, -1, rfl, by omega, fun h => by omega⟩
 have HT : Hid (EnFit e) := ⟨HR0.out (by omega), HR1.out (by omega)⟩
 go_wp2
 go_ret
 exact ⟨HB2.out, _, rfl, hu1, fun _ => HT.out⟩

set_option maxRecDepth 100000 in
set_option maxHeartbeats 2000000 in
theorem eqE0 (e c : En) (hs : EnSame e c) (hf : EnFit e) (w : World) (hp : EnRows w e) (hq : EnRows w c) :
  Calls Tryz.prog 52 #[.agg #[.slice e.b.va e.b.vs.length e.b.vc, .slice e.b.pa e.b.ps.length e.b.pc, .slice e.b.qa e.b.qs.length e.b.qc, .int .i64 e.b.cs, .int .i64 e.b.nx, .slice e.oa e.os.length e.oc], .agg #[.slice c.b.va e.b.vs.length c.b.vc, .slice c.b.pa e.b.ps.length c.b.pc, .slice c.b.qa e.b.qs.length c.b.qc, .int .i64 e.b.cs, .int .i64 e.b.nx, .slice c.oa e.os.length c.oc]] w fun ex w' => ex = .returned (.bool true) ∧ Below w.heap.size w w' := by
 have HP : Hid (EnRows w e) := hp
 have HQ : Hid (EnRows w c) := hq
 have HS : Hid (EnSame e c) := hs
 have HF : Hid (EnFit e) := hf
 clear hp hq hs hf
 have BA0 : Hid (Bx ((w.alloc (.cells #[.slice e.b.va e.b.vs.length e.b.vc, .slice e.b.pa e.b.ps.length e.b.pc, .slice e.b.qa e.b.qs.length e.b.qc, .int .i64 e.b.cs, .int .i64 e.b.nx, .slice e.oa e.os.length e.oc] 44)).alloc (.cells #[.slice c.b.va e.b.vs.length c.b.vc, .slice c.b.pa e.b.ps.length c.b.pc, .slice c.b.qa e.b.qs.length c.b.qc, .int .i64 e.b.cs, .int .i64 e.b.nx, .slice c.oa e.os.length c.oc] 44)) w.heap.size [.slice e.b.va e.b.vs.length e.b.vc, .slice e.b.pa e.b.ps.length e.b.pc, .slice e.b.qa e.b.qs.length e.b.qc, .int .i64 e.b.cs, .int .i64 e.b.nx, .slice e.oa e.os.length e.oc]) := (Bx.new w [.slice e.b.va e.b.vs.length e.b.vc, .slice e.b.pa e.b.ps.length e.b.pc, .slice e.b.qa e.b.qs.length e.b.qc, .int .i64 e.b.cs, .int .i64 e.b.nx, .slice e.oa e.os.length e.oc] 44).alloc _
 have BB0 : Hid (Bx ((w.alloc (.cells #[.slice e.b.va e.b.vs.length e.b.vc, .slice e.b.pa e.b.ps.length e.b.pc, .slice e.b.qa e.b.qs.length e.b.qc, .int .i64 e.b.cs, .int .i64 e.b.nx, .slice e.oa e.os.length e.oc] 44)).alloc (.cells #[.slice c.b.va e.b.vs.length c.b.vc, .slice c.b.pa e.b.ps.length c.b.pc, .slice c.b.qa e.b.qs.length c.b.qc, .int .i64 e.b.cs, .int .i64 e.b.nx, .slice c.oa e.os.length c.oc] 44)) (w.heap.size + 1) [.slice c.b.va e.b.vs.length c.b.vc, .slice c.b.pa e.b.ps.length c.b.pc, .slice c.b.qa e.b.qs.length c.b.qc, .int .i64 e.b.cs, .int .i64 e.b.nx, .slice c.oa e.os.length c.oc]) := by
  have h := Bx.new (w.alloc (.cells #[.slice e.b.va e.b.vs.length e.b.vc, .slice e.b.pa e.b.ps.length e.b.pc, .slice e.b.qa e.b.qs.length e.b.qc, .int .i64 e.b.cs, .int .i64 e.b.nx, .slice e.oa e.os.length e.oc] 44)) [.slice c.b.va e.b.vs.length c.b.vc, .slice c.b.pa e.b.ps.length c.b.pc, .slice c.b.qa e.b.qs.length c.b.qc, .int .i64 e.b.cs, .int .i64 e.b.nx, .slice c.oa e.os.length c.oc] 44
  rw [World.size_alloc] at h
  exact h
 have HB0 : Hid (Below w.heap.size w ((w.alloc (.cells #[.slice e.b.va e.b.vs.length e.b.vc, .slice e.b.pa e.b.ps.length e.b.pc, .slice e.b.qa e.b.qs.length e.b.qc, .int .i64 e.b.cs, .int .i64 e.b.nx, .slice e.oa e.os.length e.oc] 44)).alloc (.cells #[.slice c.b.va e.b.vs.length c.b.vc, .slice c.b.pa e.b.ps.length c.b.pc, .slice c.b.qa e.b.qs.length c.b.qc, .int .i64 e.b.cs, .int .i64 e.b.nx, .slice c.oa e.os.length c.oc] 44))) := ((belowRefl w).alloc (Nat.le_refl _) _).alloc (by simp) _
 have CB : Hid (∀ W : World, Below w.heap.size w W → Calls Tryz.prog 72 #[.agg #[.slice e.b.va e.b.vs.length e.b.vc, .slice e.b.pa e.b.ps.length e.b.pc, .slice e.b.qa e.b.qs.length e.b.qc, .int .i64 e.b.cs, .int .i64 e.b.nx], .agg #[.slice c.b.va e.b.vs.length c.b.vc, .slice c.b.pa e.b.ps.length c.b.pc, .slice c.b.qa e.b.qs.length c.b.qc, .int .i64 e.b.cs, .int .i64 e.b.nx]] W fun ex w' => ex = .returned (.bool true) ∧ Below W.heap.size W w') := fun W h => eqB0 e.b c.b HS.out.b HF.out.b W (HP.out.b.below h) (HQ.out.b.below h)
 have CO : Hid (∀ W : World, Below w.heap.size w W → Calls Tryz.prog 31 #[.slice e.oa e.os.length e.oc, .slice c.oa e.os.length c.oc] W fun ex w' => ex = .returned (.bool true) ∧ Below W.heap.size W w') := fun W h => eqL e.os c.os e.oa c.oa e.oc c.oc e.os.length rfl HS.out.ol.symm (Nat.le_trans HF.out.ol (by omega)) HS.out.o.symm HF.out.o W (HP.out.o.below h) (HQ.out.o.below h)
 clear HP HQ HS HF
 go_enter Tryz.func52, Tryz.ntmps52
 go_wp2_with fail
 refine (CB.out _ HB0.out).mono ?_
 rintro ex w1 ⟨rfl, hb1⟩
 have BA1 : Hid (Bx w1 w.heap.size [.slice e.b.va e.b.vs.length e.b.vc, .slice e.b.pa e.b.ps.length e.b.pc, .slice e.b.qa e.b.qs.length e.b.qc, .int .i64 e.b.cs, .int .i64 e.b.nx, .slice e.oa e.os.length e.oc]) := BA0.out.below hb1
 have BB1 : Hid (Bx w1 (w.heap.size + 1) [.slice c.b.va e.b.vs.length c.b.vc, .slice c.b.pa e.b.ps.length c.b.pc, .slice c.b.qa e.b.qs.length c.b.qc, .int .i64 e.b.cs, .int .i64 e.b.nx, .slice c.oa e.os.length c.oc]) := BB0.out.below hb1
 have HB1 : Hid (Below w.heap.size w w1) := HB0.out.trans (hb1.mono HB0.out.size)
 clear hb1 BA0 BB0 HB0
 have x5 := BA1.out.c5
 have y5 := BB1.out.c5
 go_wp2_with fail
 refine (CO.out _ HB1.out).mono ?_
 rintro ex w2 ⟨rfl, hb2⟩
 have HB2 : Hid (Below w.heap.size w w2) := HB1.out.trans (hb2.mono HB1.out.size)
 clear hb2
 go_wp2
 go_ret
 exact ⟨rfl, HB2.out⟩

end Go.Proofs.YtnmggknpllnjiaaGreat

namespace Go.Proofs.YtnmggknpllnjiaaGreat
open Go.RowKit
open KM
attribute [local go_sem ↓] Go.wp_at_zero Go.wp_at_succ

def CodeOk (w : World) (a : Option Addr) (len g : Nat) : Prop :=
 0 < len → ∃ b off, a = some ⟨b, off, none⟩ ∧ b < w.heap.size ∧ b ≠ g ∧ ∀ i, i < len → ∃ z : Int, 0 ≤ z ∧ z ≤ 255 ∧ w.cell? ⟨b, off + i, none⟩ = some (.int .u8 z)

structure Cur (w : World) (g : Nat) (a : Option Addr) (len cap : Nat) (i h : Int) : Prop where
 c0 : w.cell? ⟨g, 0, none⟩ = some (.slice a len cap)
 c1 : w.cell? ⟨g, 1, none⟩ = some (.int .i64 i)
 c2 : w.cell? ⟨g, 2, none⟩ = some (.int .i64 h)
 free : ∀ j, w.frozen? ⟨g, j, none⟩ = false
 i0 : 0 ≤ i
 i1 : i ≤ (len : Int)

theorem CodeOk.grown {w w' : World} {a : Option Addr} {len g : Nat} (h : CodeOk w a len g) (hg : w.grownBy w' (some g)) : CodeOk w' a len g := fun hl => by
 obtain ⟨b, off, ha, hb, hne, hz⟩ := h hl
 refine ⟨b, off, ha, Nat.lt_of_lt_of_le hb hg.size, hne, fun i hi => ?_⟩
 obtain ⟨z, h0, h1, hc⟩ := hz i hi
 exact ⟨z, h0, h1, (World.cell?_of_block (w := w) (a := ⟨b, off + i, none⟩) (hg.block b hb (fun e => hne (Option.some.inj e)))).trans hc⟩

theorem Cur.drewN {w : World} {g len cap : Nat} {a : Option Addr} {i h : Int} (c : Cur w g a len cap i h) (n : Nat) : Cur (w.drewN n) g a len cap i h := ⟨c.c0, c.c1, c.c2, c.free, c.i0, c.i1⟩

def CurOk (w : World) (g : Nat) (a : Option Addr) (len cap : Nat) : Prop := ∃ i h, Cur w g a len cap i h ∧ CodeOk w a len g

theorem CurOk.below {w w' : World} {g len cap : Nat} {a : Option Addr} (h : CurOk w g a len cap) (hb : Below w.heap.size w w') (hg : g < w.heap.size) : CurOk w' g a len cap := by
 obtain ⟨i, x, c, k⟩ := h
 refine ⟨i, x, ⟨(hb.cell (p := ⟨g, 0, none⟩) hg).trans c.c0, (hb.cell (p := ⟨g, 1, none⟩) hg).trans c.c1, (hb.cell (p := ⟨g, 2, none⟩) hg).trans c.c2, fun j => (hb.frozen (p := ⟨g, j, none⟩) hg).trans (c.free j), c.i0, c.i1⟩, fun hl => ?_⟩
 obtain ⟨b, off, ha, hb1, hne, hz⟩ := k hl
 refine ⟨b, off, ha, Nat.lt_of_lt_of_le hb1 hb.size, hne, fun j hj => ?_⟩
 obtain ⟨z, h0, h1, hc⟩ := hz j hj
 exact ⟨z, h0, h1, (hb.cell (p := ⟨b, off + j, none⟩) hb1).trans hc⟩

def CodeRow (w : World) (a : Option Addr) (len : Nat) : Prop :=
 0 < len → ∃ b off, a = some ⟨b, off, none⟩ ∧ b < w.heap.size ∧ ∀ i, i < len → ∃ z : Int, 0 ≤ z ∧ z ≤ 255 ∧ w.cell? ⟨b, off + i, none⟩ = some (.int .u8 z)

theorem CodeRow.below {w w' : World} {a : Option Addr} {len : Nat} (h : CodeRow w a len) (hb : Below w.heap.size w w') : CodeRow w' a len := fun hl => by
 obtain ⟨b, off, ha, hb1, hz⟩ := h hl
 refine ⟨b, off, ha, Nat.lt_of_lt_of_le hb1 hb.size, fun j hj => ?_⟩
 obtain ⟨z, h0, h1, hc⟩ := hz j hj
 exact ⟨z, h0, h1, (hb.cell (p := ⟨b, off + j, none⟩) hb1).trans hc⟩

structure CurI (w : World) (g : Nat) (a : Option Addr) (len cap : Nat) : Prop where
 c : CurOk w g a len cap
 lt : g < w.heap.size
 sm : len ≤ 1048576
theorem CurI.below {w w' : World} {g len cap : Nat} {a : Option Addr} (h : CurI w g a len cap) (hb : Below w.heap.size w w') : CurI w' g a len cap :=
 ⟨h.c.below hb h.lt, Nat.lt_of_lt_of_le h.lt hb.size, h.sm⟩
theorem CurI.drew {w : World} {g len cap : Nat} {a : Option Addr} (h : CurI w g a len cap) : CurI w.drew g a len cap := h.below ((belowRefl w).drew)
theorem CurI.alloc {w : World} {g len cap : Nat} {a : Option Addr} (h : CurI w g a len cap) (o : Obj) : CurI (w.alloc o) g a len cap := h.below ((belowRefl w).alloc (Nat.le_refl _) o)

def OldC (w0 : World) (g : Nat) (a : Option Addr) (len : Nat) : Prop := g < w0.heap.size ∧ ∀ b off, a = some ⟨b, off, none⟩ → 0 < len → b < w0.heap.size
theorem CurI.old {w : World} {g len cap : Nat} {a : Option Addr} (h : CurI w g a len cap) : OldC w g a len :=
 ⟨h.lt, fun b off e hl => by
  obtain ⟨i, x, c, k⟩ := h.c
  obtain ⟨b', off', ha, hb, _⟩ := k hl
  rw [e] at ha
  cases ha
  exact hb⟩
theorem OldC.le {w w' : World} {g len : Nat} {a : Option Addr} (h : OldC w g a len) (hs : w.heap.size ≤ w'.heap.size) : OldC w' g a len :=
 ⟨Nat.lt_of_lt_of_le h.1 hs, fun b off e hl => Nat.lt_of_lt_of_le (h.2 b off e hl) hs⟩

theorem CurOk.belowB {w w' : World} {g len cap B : Nat} {a : Option Addr} (h : CurOk w g a len cap) (hb : Below B w w') (hg : g < B) (hcode : ∀ b off, a = some ⟨b, off, none⟩ → 0 < len → b < B) : CurOk w' g a len cap := by
 obtain ⟨i, x, c, k⟩ := h
 refine ⟨i, x, ⟨(hb.cell (p := ⟨g, 0, none⟩) hg).trans c.c0, (hb.cell (p := ⟨g, 1, none⟩) hg).trans c.c1, (hb.cell (p := ⟨g, 2, none⟩) hg).trans c.c2, fun j => (hb.frozen (p := ⟨g, j, none⟩) hg).trans (c.free j), c.i0, c.i1⟩, fun hl => ?_⟩
 obtain ⟨b, off, ha, hb1, hne, hz⟩ := k hl
 refine ⟨b, off, ha, Nat.lt_of_lt_of_le hb1 hb.size, hne, fun j hj => ?_⟩
 obtain ⟨z, h0, h1, hc⟩ := hz j hj
 exact ⟨z, h0, h1, (hb.cell (p := ⟨b, off + j, none⟩) (hcode b off ha hl)).trans hc⟩
theorem grown_belowB {w w2 w3 : World} {g B : Nat} (h : w.grownBy w2 (some g)) (hb : Below B w2 w3) (hB : w.heap.size ≤ B) : w.grownBy w3 (some g) :=
 ⟨hb.os.trans h.os, hb.tape.trans h.tape, hb.output.trans h.output, Nat.le_trans h.size hb.size, fun j hj hne => (hb.block j (by omega)).trans (h.block j hj hne)⟩

structure Dn (w0 w : World) (g : Nat) (a : Option Addr) (len cap : Nat) : Prop where
 c : CurI w g a len cap
 gr : w0.grownBy w (some g)
 old : OldC w0 g a len
section
variable {w0 w w' : World} {g len cap : Nat} {a : Option Addr}
theorem Dn.belowB (h : Dn w0 w g a len cap) (hb : Below w0.heap.size w w') : Dn w0 w' g a len cap :=
 ⟨⟨h.c.c.belowB hb h.old.1 h.old.2, Nat.lt_of_lt_of_le h.c.lt hb.size, h.c.sm⟩, grown_belowB h.gr hb (Nat.le_refl _), h.old⟩
theorem Dn.below (h : Dn w0 w g a len cap) (hb : Below w.heap.size w w') : Dn w0 w' g a len cap := h.belowB (hb.mono h.gr.size)
theorem Dn.set (h : Dn w0 w g a len cap) {p : Addr} (hp : w0.heap.size ≤ p.block) (u : Value) : Dn w0 (w.setCell p u) g a len cap := h.belowB ((Below.refl _ _).setCell hp u)
theorem Dn.alloc (h : Dn w0 w g a len cap) (o : Obj) : Dn w0 (w.alloc o) g a len cap := h.below ((belowRefl w).alloc (Nat.le_refl _) o)
theorem Dn.drew (h : Dn w0 w g a len cap) : Dn w0 w.drew g a len cap := h.below ((belowRefl w).drew)
theorem Dn.size (h : Dn w0 w g a len cap) : w0.heap.size ≤ w.heap.size := h.gr.size
theorem Dn.out {B : Nat} (h : Dn w0 w g a len cap) (hB : Below B w' w0) (hg : B ≤ g) (hs : B ≤ w0.heap.size) : Below B w' w :=
 hB.grown h.gr hs (fun j hj => by cases hj; exact hg)
end

section
variable {w w' : World} {b : Nat} {cs : List Value}
end

end Go.Proofs.YtnmggknpllnjiaaGreat

namespace Go.Proofs.YtnmggknpllnjiaaGreat
open Go.RowKit
open KM
attribute [local go_sem ↓] Go.wp_at_zero Go.wp_at_succ

def KeyD (s : ByteArray) : Prop := keyB s = true ∧ s.size ≤ 3
def RgD (r : Rg) : Prop := KeyD r.1 ∧ KeyD r.2 ∧ le r.1 r.2 = true
theorem le_of_lt {x y : ByteArray} (h : Op.bytesLess x.toList y.toList = true) : le x y = true := by unfold le; rw [h]; rfl

end Go.Proofs.YtnmggknpllnjiaaGreat

namespace Go.Proofs.YtnmggknpllnjiaaGreat
open Go.RowKit
open KM
attribute [local go_sem ↓] Go.wp_at_zero Go.wp_at_succ

end Go.Proofs.YtnmggknpllnjiaaGreat

namespace Go.Proofs.YtnmggknpllnjiaaGreat
open Go.RowKit
open KM
attribute [local go_sem ↓] Go.wp_at_zero Go.wp_at_succ

theorem less_trans : ∀ a b c : List UInt8, Op.bytesLess a b = true → Op.bytesLess b c = true → Op.bytesLess a c = true
 | [], [], _, h, _ => by simp [Op.bytesLess] at h
 | [], _ :: _, [], _, h => by simp [Op.bytesLess] at h
 | [], _ :: _, _ :: _, _, _ => by simp [Op.bytesLess]
 | _ :: _, [], _, h, _ => by simp [Op.bytesLess] at h
 | _ :: _, _ :: _, [], _, h => by simp [Op.bytesLess] at h
 | x :: a, y :: b, z :: c, h, h2 => by
  simp only [Op.bytesLess, Bool.or_eq_true, decide_eq_true_eq, Bool.and_eq_true, beq_iff_eq] at h h2 ⊢
  rcases h with h | ⟨rfl, h⟩
  ·have h' := UInt8.lt_iff_toNat_lt.1 h
   rcases h2 with h2 | ⟨rfl, _⟩
   ·have h2' := UInt8.lt_iff_toNat_lt.1 h2
    exact Or.inl (UInt8.lt_iff_toNat_lt.2 (by omega))
   ·exact Or.inl h
  ·rcases h2 with h2 | ⟨rfl, h2⟩
   ·exact Or.inl h2
   ·exact Or.inr ⟨rfl, less_trans a b c h h2⟩
def WtD (x : Wt) : Prop := writeB x = true ∧ x.1.size ≤ 3 ∧ x.2.1.size ≤ 3
def Asc (xs : List Wt) : Prop := xs.Pairwise fun a b => lt a.1 b.1 = true
def WsD (xs : List Wt) : Prop := (∀ x ∈ xs, WtD x) ∧ Asc xs

theorem WsD.fit {xs : List Wt} (h : WsD xs) : WFit xs := fun x hx => ⟨by have := (h.1 x hx).2.1; omega, by have := (h.1 x hx).2.2; omega⟩

end Go.Proofs.YtnmggknpllnjiaaGreat

namespace Go.Proofs.YtnmggknpllnjiaaGreat
open Go.RowKit
open KM
attribute [local go_sem ↓] Go.wp_at_zero Go.wp_at_succ

def RsD (xs : List Rg) : Prop := ∀ x ∈ xs, RgD x
theorem RsD.fit {xs : List Rg} (h : RsD xs) : RFit xs := fun x hx => ⟨by have := (h x hx).1.2; omega, by have := (h x hx).2.1.2; omega⟩

end Go.Proofs.YtnmggknpllnjiaaGreat

namespace Go.Proofs.YtnmggknpllnjiaaGreat
open Go.RowKit
open KM
attribute [local go_sem ↓] Go.wp_at_zero Go.wp_at_succ

end Go.Proofs.YtnmggknpllnjiaaGreat

namespace Go.Proofs.YtnmggknpllnjiaaGreat
open Go.RowKit

theorem Tryz.info154 : (Tryz.prog.info? 154).map (fun i => (i.zero, i.size, i.bytes)) = some (some (.agg #[.int .i64 0, .string ByteArray.empty]), 2, 24) := by kernel_rfl

abbrev Wr := Int × ByteArray
def pc (p : Wr) : List Value := [.int .i64 p.1, .string p.2]
def pcs (ps : List Wr) : List Value := ps.flatMap pc
def scs (ss : List ByteArray) : List Value := ss.map Value.string
theorem scs_len (ss : List ByteArray) : (scs ss).length = ss.length := by simp [scs]
theorem pcs_len : ∀ ps : List Wr, (pcs ps).length = ps.length * 2
 | [] => rfl
 | p :: ps => by
  have := pcs_len ps
  simp only [pcs, List.flatMap_cons, List.length_append, List.length_cons] at this ⊢
  simp only [pc, List.length_cons, List.length_nil]
  omega
theorem pcs_at : ∀ (ps : List Wr) (j : Nat) (h : j < ps.length), (pcs ps)[j * 2]? = some (.int .i64 ps[j].1) ∧ (pcs ps)[j * 2 + 1]? = some (.string ps[j].2)
 | p :: ps, 0, _ => by simp [pcs, pc]
 | p :: ps, j + 1, h => by
  have := pcs_at ps j (by simpa using h)
  have e : pcs (p :: ps) = [.int .i64 p.1, .string p.2] ++ pcs ps := rfl
  rw [e]
  constructor
  ·rw [List.getElem?_append_right (by simp; omega)]
   simp only [List.length_cons, List.length_nil]
   rw [show (j + 1) * 2 - (0 + 1 + 1) = j * 2 by omega]
   exact this.1
  ·rw [List.getElem?_append_right (by simp; omega)]
   simp only [List.length_cons, List.length_nil]
   rw [show (j + 1) * 2 + 1 - (0 + 1 + 1) = j * 2 + 1 by omega]
   exact this.2

def SOwn (w : World) (base : Nat) (v : Value) (ss : List ByteArray) : Prop := w.ownsRow base 9 1 v ss.length (scs ss)
def POwn (w : World) (base : Nat) (v : Value) (ps : List Wr) : Prop := w.ownsRow base 154 2 v ps.length (pcs ps)
def SRow (w : World) (a : Option Addr) (ss : List ByteArray) : Prop :=
 0 < ss.length → ∃ b off, a = some ⟨b, off, none⟩ ∧ b < w.heap.size ∧ ∀ j (hj : j < ss.length), w.cell? ⟨b, off + j, none⟩ = some (.string ss[j])
def PRow (w : World) (a : Option Addr) (ps : List Wr) : Prop :=
 0 < ps.length → ∃ b off, a = some ⟨b, off, none⟩ ∧ b < w.heap.size ∧ ∀ j (hj : j < ps.length), w.cell? ⟨b, off + j * 2, none⟩ = some (.int .i64 ps[j].1) ∧ w.cell? ⟨b, off + j * 2 + 1, none⟩ = some (.string ps[j].2)

theorem SRow.below {w w' : World} {a : Option Addr} {ss : List ByteArray} (h : SRow w a ss) (hb : Below w.heap.size w w') : SRow w' a ss := fun h0 => by
 obtain ⟨b, off, rfl, hlt, hc⟩ := h h0
 exact ⟨b, off, rfl, Nat.lt_of_lt_of_le hlt hb.size, fun j hj => (hb.cell (p := ⟨b, off + j, none⟩) hlt).trans (hc j hj)⟩
theorem PRow.below {w w' : World} {a : Option Addr} {ps : List Wr} (h : PRow w a ps) (hb : Below w.heap.size w w') : PRow w' a ps := fun h0 => by
 obtain ⟨b, off, rfl, hlt, hc⟩ := h h0
 exact ⟨b, off, rfl, Nat.lt_of_lt_of_le hlt hb.size, fun j hj => ⟨(hb.cell (p := ⟨b, off + j * 2, none⟩) hlt).trans (hc j hj).1, (hb.cell (p := ⟨b, off + j * 2 + 1, none⟩) hlt).trans (hc j hj).2⟩⟩
theorem SRow.nil (w : World) (a : Option Addr) : SRow w a [] := fun h => by simp at h
theorem PRow.nil (w : World) (a : Option Addr) : PRow w a [] := fun h => by simp at h

theorem SOwn.below {w w' : World} {base : Nat} {v : Value} {l : List ByteArray} (h : SOwn w base v l) (hb : Below w.heap.size w w') : SOwn w' base v l := ownsBelow h hb
theorem POwn.below {w w' : World} {base : Nat} {v : Value} {l : List Wr} (h : POwn w base v l) (hb : Below w.heap.size w w') : POwn w' base v l := ownsBelow h hb

theorem SOwn.mono {w : World} {base base' : Nat} {v : Value} {l : List ByteArray} (h : SOwn w base v l) (hb : base' ≤ base) : SOwn w base' v l := ownsMono h hb
theorem POwn.mono {w : World} {base base' : Nat} {v : Value} {l : List Wr} (h : POwn w base v l) (hb : base' ≤ base) : POwn w base' v l := ownsMono h hb
theorem SOwn.nil (w : World) (base : Nat) : SOwn w base (.slice none 0 0) [] := World.ownsRow_nil _ _ _ _
theorem POwn.nil (w : World) (base : Nat) : POwn w base (.slice none 0 0) [] := World.ownsRow_nil _ _ _ _
theorem SOwn.empty (w : World) (base : Nat) (hb : base ≤ w.heap.size) : SOwn (w.alloc (.cells #[] 9)) base (.slice (some ⟨w.heap.size, 0, none⟩) 0 0) [] :=
 World.ownsRow_lit (size := 1) w #[] 0 hb (by unfold maxLen; omega) rfl
theorem POwn.empty (w : World) (base : Nat) (hb : base ≤ w.heap.size) : POwn (w.alloc (.cells #[] 154)) base (.slice (some ⟨w.heap.size, 0, none⟩) 0 0) [] :=
 World.ownsRow_lit (size := 2) w #[] 0 hb (by unfold maxLen; omega) rfl
theorem SOwn.alloc {w : World} {base : Nat} {v : Value} {l : List ByteArray} (h : SOwn w base v l) (o : Obj) : SOwn (w.alloc o) base v l := World.ownsRow.alloc h o
theorem POwn.alloc {w : World} {base : Nat} {v : Value} {l : List Wr} (h : POwn w base v l) (o : Obj) : POwn (w.alloc o) base v l := World.ownsRow.alloc h o

theorem SOwn.row {w : World} {base : Nat} {v : Value} {l : List ByteArray} (h : SOwn w base v l) : ∃ ao cap, v = .slice ao l.length cap ∧ SRow w ao l := by
 have h0 := h
 rcases h.2 with ⟨rfl, h1⟩ | ⟨g, cap, cur, rfl, hg, hh, hnc, hcp, hcs, htake⟩
 ·exact ⟨none, 0, by rw [h1], fun h => by omega⟩
 ·refine ⟨_, cap, rfl, fun _ => ⟨g, 0, rfl, (World.ownsRow.lt h0 g rfl).2, fun j hj => ?_⟩⟩
  rw [Nat.zero_add, World.ownsRow.cellAt h0 j (by omega)]
  simp [scs, hj]
theorem POwn.row {w : World} {base : Nat} {v : Value} {l : List Wr} (h : POwn w base v l) : ∃ ao cap, v = .slice ao l.length cap ∧ PRow w ao l := by
 have h0 := h
 rcases h.2 with ⟨rfl, h1⟩ | ⟨g, cap, cur, rfl, hg, hh, hnc, hcp, hcs, htake⟩
 ·exact ⟨none, 0, by rw [h1], fun h => by omega⟩
 ·refine ⟨_, cap, rfl, fun _ => ⟨g, 0, rfl, (World.ownsRow.lt h0 g rfl).2, fun j hj => ?_⟩⟩
  rw [Nat.zero_add, World.ownsRow.cellAt h0 (j * 2) (by omega), World.ownsRow.cellAt h0 (j * 2 + 1) (by omega)]
  exact pcs_at l j hj

end Go.Proofs.YtnmggknpllnjiaaGreat

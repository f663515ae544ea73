/- An engine: how it lies, its size, its likeness. -/
import Derived.Test.YtjeicgibddfifaaPa03
import Derived.Deep.RegionHeld3
import Derived.Deep.Cut
import Derived.Deep.CutRange
namespace Go.Proofs.Ytjeicgibddfifaa
open Go.RowKit
open KM
attribute [local go_sem ↓] Go.wp_at_zero Go.wp_at_succ

structure En where
 b : Bb
 os : List Ta
 oa : Option Addr
 oc : Nat
structure EnRows (w : World) (e : En) : Prop where
 b : BRows w e.b
 o : TRows w e.oa e.os
theorem EnRows.below {w w' : World} {e : En} (h : EnRows w e) (hb : Below w.heap.size w w') : EnRows w' e := ⟨h.b.below hb, h.o.below hb⟩
structure EnArg (w : World) (e : En) : Prop where
 b : BArg w e.b
 o : LArg w e.oa e.os
theorem EnArg.below {w w' : World} {e : En} (h : EnArg w e) (hb : Below w.heap.size w w') : EnArg w' e := ⟨h.b.below hb, h.o.below hb⟩
structure EnFit (e : En) : Prop where
 b : BFit e.b
 o : LFit (txs e.os)
theorem EnFit.ol {e : En} (h : EnFit e) : e.os.length ≤ 1048576 := by have := h.o.1; rwa [txs_len] at this
structure EnSame (e c : En) : Prop where
 b : BSame e.b c.b
 o : txs c.os = txs e.os
theorem EnSame.ol {e c : En} (h : EnSame e c) : c.os.length = e.os.length := by rw [← txs_len, h.o, txs_len]
theorem EnSame.trans {e c d : En} (h : EnSame e c) (k : EnSame c d) : EnSame e d := ⟨h.b.trans k.b, k.o.trans h.o⟩
theorem EnSame.symm {e c : En} (h : EnSame e c) : EnSame c e := ⟨h.b.symm, h.o.symm⟩
structure EnLie (w : World) (lo hi : Nat) (c : En) : Prop where
 ex : ∃ m, lo ≤ m ∧ m ≤ hi ∧ BLie w lo m c.b ∧ LLie w m hi (.slice c.oa c.os.length c.oc) c.os
theorem EnLie.below {w w' : World} {lo hi : Nat} {c : En} (h : EnLie w lo hi c) (hb : Below w.heap.size w w') : EnLie w' lo hi c := by
 obtain ⟨m, a, b, h1, h2⟩ := h.ex
 exact ⟨m, a, b, h1.below hb, h2.below hb⟩
theorem EnLie.mono {w : World} {lo hi lo' hi' : Nat} {c : En} (h : EnLie w lo hi c) (k : lo' ≤ lo) (k' : hi ≤ hi') : EnLie w lo' hi' c := by
 obtain ⟨m, k1, k2, h1, h2⟩ := h.ex
 exact ⟨m, by omega, by omega, h1.mono k (Nat.le_refl _), h2.mono (Nat.le_refl _) k'⟩
set_option maxRecDepth 100000 in
set_option maxHeartbeats 2000000 in
theorem eqE0 (e c : En) (hs : EnSame e c) (hf : EnFit e) (w : World) (hp : EnRows w e) (hq : EnRows w c) :
  Calls Try.prog 8 #[.agg #[.slice e.b.va e.b.vs.length e.b.vc, .slice e.b.pa e.b.ps.length e.b.pc, .slice e.b.qa e.b.qs.length e.b.qc, .int .i64 e.b.cs, .int .i64 e.b.nx, .slice e.oa e.os.length e.oc], .agg #[.slice c.b.va e.b.vs.length c.b.vc, .slice c.b.pa e.b.ps.length c.b.pc, .slice c.b.qa e.b.qs.length c.b.qc, .int .i64 e.b.cs, .int .i64 e.b.nx, .slice c.oa e.os.length c.oc]] w fun ex w' => ex = .returned (.bool true) ∧ Below w.heap.size w w' := by
 have HP : Hid (EnRows w e) := hp
 have HQ : Hid (EnRows w c) := hq
 have HS : Hid (EnSame e c) := hs
 have HF : Hid (EnFit e) := hf
 clear hp hq hs hf
 have BA0 : Hid (Bx ((w.alloc (.cells #[.slice e.b.va e.b.vs.length e.b.vc, .slice e.b.pa e.b.ps.length e.b.pc, .slice e.b.qa e.b.qs.length e.b.qc, .int .i64 e.b.cs, .int .i64 e.b.nx, .slice e.oa e.os.length e.oc] 27)).alloc (.cells #[.slice c.b.va e.b.vs.length c.b.vc, .slice c.b.pa e.b.ps.length c.b.pc, .slice c.b.qa e.b.qs.length c.b.qc, .int .i64 e.b.cs, .int .i64 e.b.nx, .slice c.oa e.os.length c.oc] 27)) w.heap.size [.slice e.b.va e.b.vs.length e.b.vc, .slice e.b.pa e.b.ps.length e.b.pc, .slice e.b.qa e.b.qs.length e.b.qc, .int .i64 e.b.cs, .int .i64 e.b.nx, .slice e.oa e.os.length e.oc]) := (Bx.new w [.slice e.b.va e.b.vs.length e.b.vc, .slice e.b.pa e.b.ps.length e.b.pc, .slice e.b.qa e.b.qs.length e.b.qc, .int .i64 e.b.cs, .int .i64 e.b.nx, .slice e.oa e.os.length e.oc] 27).alloc _
 have BB0 : Hid (Bx ((w.alloc (.cells #[.slice e.b.va e.b.vs.length e.b.vc, .slice e.b.pa e.b.ps.length e.b.pc, .slice e.b.qa e.b.qs.length e.b.qc, .int .i64 e.b.cs, .int .i64 e.b.nx, .slice e.oa e.os.length e.oc] 27)).alloc (.cells #[.slice c.b.va e.b.vs.length c.b.vc, .slice c.b.pa e.b.ps.length c.b.pc, .slice c.b.qa e.b.qs.length c.b.qc, .int .i64 e.b.cs, .int .i64 e.b.nx, .slice c.oa e.os.length c.oc] 27)) (w.heap.size + 1) [.slice c.b.va e.b.vs.length c.b.vc, .slice c.b.pa e.b.ps.length c.b.pc, .slice c.b.qa e.b.qs.length c.b.qc, .int .i64 e.b.cs, .int .i64 e.b.nx, .slice c.oa e.os.length c.oc]) := by
  have h := Bx.new (w.alloc (.cells #[.slice e.b.va e.b.vs.length e.b.vc, .slice e.b.pa e.b.ps.length e.b.pc, .slice e.b.qa e.b.qs.length e.b.qc, .int .i64 e.b.cs, .int .i64 e.b.nx, .slice e.oa e.os.length e.oc] 27)) [.slice c.b.va e.b.vs.length c.b.vc, .slice c.b.pa e.b.ps.length c.b.pc, .slice c.b.qa e.b.qs.length c.b.qc, .int .i64 e.b.cs, .int .i64 e.b.nx, .slice c.oa e.os.length c.oc] 27
  rw [World.size_alloc] at h
  exact h
 have HB0 : Hid (Below w.heap.size w ((w.alloc (.cells #[.slice e.b.va e.b.vs.length e.b.vc, .slice e.b.pa e.b.ps.length e.b.pc, .slice e.b.qa e.b.qs.length e.b.qc, .int .i64 e.b.cs, .int .i64 e.b.nx, .slice e.oa e.os.length e.oc] 27)).alloc (.cells #[.slice c.b.va e.b.vs.length c.b.vc, .slice c.b.pa e.b.ps.length c.b.pc, .slice c.b.qa e.b.qs.length c.b.qc, .int .i64 e.b.cs, .int .i64 e.b.nx, .slice c.oa e.os.length c.oc] 27))) := ((belowRefl w).alloc (Nat.le_refl _) _).alloc (by simp) _
 have CB : Hid (∀ W : World, Below w.heap.size w W → Calls Try.prog 19 #[.agg #[.slice e.b.va e.b.vs.length e.b.vc, .slice e.b.pa e.b.ps.length e.b.pc, .slice e.b.qa e.b.qs.length e.b.qc, .int .i64 e.b.cs, .int .i64 e.b.nx], .agg #[.slice c.b.va e.b.vs.length c.b.vc, .slice c.b.pa e.b.ps.length c.b.pc, .slice c.b.qa e.b.qs.length c.b.qc, .int .i64 e.b.cs, .int .i64 e.b.nx]] W fun ex w' => ex = .returned (.bool true) ∧ Below W.heap.size W w') := fun W h => eqB0 e.b c.b HS.out.b HF.out.b W (HP.out.b.below h) (HQ.out.b.below h)
 have CO : Hid (∀ W : World, Below w.heap.size w W → Calls Try.prog 20 #[.slice e.oa e.os.length e.oc, .slice c.oa e.os.length c.oc] W fun ex w' => ex = .returned (.bool true) ∧ Below W.heap.size W w') := fun W h => eqL e.os c.os e.oa c.oa e.oc c.oc e.os.length rfl HS.out.ol.symm (Nat.le_trans HF.out.ol (by omega)) HS.out.o.symm HF.out.o W (HP.out.o.below h) (HQ.out.o.below h)
 clear HP HQ HS HF
 go_enter Try.func8, Try.ntmps8
 go_wp2_with fail
 refine (CB.out _ HB0.out).mono ?_
 rintro ex w1 ⟨rfl, hb1⟩
 have BA1 : Hid (Bx w1 w.heap.size [.slice e.b.va e.b.vs.length e.b.vc, .slice e.b.pa e.b.ps.length e.b.pc, .slice e.b.qa e.b.qs.length e.b.qc, .int .i64 e.b.cs, .int .i64 e.b.nx, .slice e.oa e.os.length e.oc]) := BA0.out.below hb1
 have BB1 : Hid (Bx w1 (w.heap.size + 1) [.slice c.b.va e.b.vs.length c.b.vc, .slice c.b.pa e.b.ps.length c.b.pc, .slice c.b.qa e.b.qs.length c.b.qc, .int .i64 e.b.cs, .int .i64 e.b.nx, .slice c.oa e.os.length c.oc]) := BB0.out.below hb1
 have HB1 : Hid (Below w.heap.size w w1) := HB0.out.trans (hb1.mono HB0.out.size)
 clear hb1 BA0 BB0 HB0
 have x5 := BA1.out.c5
 have y5 := BB1.out.c5
 go_wp2_with fail
 refine (CO.out _ HB1.out).mono ?_
 rintro ex w2 ⟨rfl, hb2⟩
 have HB2 : Hid (Below w.heap.size w w2) := HB1.out.trans (hb2.mono HB1.out.size)
 clear hb2
 go_wp2
 go_ret
 exact ⟨rfl, HB2.out⟩

theorem eqE (e c : En) (hs : EnSame e c) (hf : EnFit e) (w : World) (hp : EnRows w e) (hq : EnRows w c) :
  Calls Try.prog 8 #[.agg #[.slice e.b.va e.b.vs.length e.b.vc, .slice e.b.pa e.b.ps.length e.b.pc, .slice e.b.qa e.b.qs.length e.b.qc, .int .i64 e.b.cs, .int .i64 e.b.nx, .slice e.oa e.os.length e.oc], .agg #[.slice c.b.va c.b.vs.length c.b.vc, .slice c.b.pa c.b.ps.length c.b.pc, .slice c.b.qa c.b.qs.length c.b.qc, .int .i64 c.b.cs, .int .i64 c.b.nx, .slice c.oa c.os.length c.oc]] w fun ex w' => ex = .returned (.bool true) ∧ Below w.heap.size w w' := by
 have h := eqE0 e c hs hf w hp hq
 rw [← hs.b.cs, ← hs.b.nx, ← hs.ol] at h
 rw [← hs.b.cs, ← hs.b.nx, ← hs.ol]
 rw [← hs.b.vl, ← hs.b.pl, ← hs.b.ql] at h
 rw [← hs.b.vl, ← hs.b.pl, ← hs.b.ql]
 exact h

end Go.Proofs.Ytjeicgibddfifaa

namespace Go.Proofs.Ytjeicgibddfifaa
open Go.RowKit
open KM
attribute [local go_sem ↓] Go.wp_at_zero Go.wp_at_succ

set_option maxRecDepth 100000 in
set_option maxHeartbeats 2000000 in
theorem nil61 (k : Int) (w : World) : Calls Try.prog 38 #[.slice none 0 0, .int .i64 k] w fun e w' => e = .returned (.int .i64 k) ∧ w' = w := by
 go_enter Try.func38, Try.ntmps38
 go_wp2
 go_loopw [1, 5] (fun q t wr => q = .int .i64 k ∧ t = .int .i64 0 ∧ w = wr) (fun _ _ _ => 0)
 case atStart => exact ⟨rfl, rfl, rfl⟩
 case round =>
  obtain ⟨rfl, rfl, rfl⟩ := hrel
  go_wp2
  go_ret
  exact ⟨rfl, rfl⟩

set_option maxRecDepth 100000 in
set_option maxHeartbeats 2000000 in
theorem nil62 (k : Int) (w : World) : Calls Try.prog 22 #[.slice none 0 0, .int .i64 k] w fun e w' => e = .returned (.int .i64 k) ∧ w' = w := by
 go_enter Try.func22, Try.ntmps22
 go_wp2
 go_loopw [1, 5] (fun q t wr => q = .int .i64 k ∧ t = .int .i64 0 ∧ w = wr) (fun _ _ _ => 0)
 case atStart => exact ⟨rfl, rfl, rfl⟩
 case round =>
  obtain ⟨rfl, rfl, rfl⟩ := hrel
  go_wp2
  go_ret
  exact ⟨rfl, rfl⟩

set_option maxRecDepth 100000 in
set_option maxHeartbeats 2000000 in
theorem nil63 (k : Int) (w : World) : Calls Try.prog 42 #[.slice none 0 0, .int .i64 k] w fun e w' => e = .returned (.int .i64 k) ∧ w' = w := by
 go_enter Try.func42, Try.ntmps42
 go_wp2
 go_loopw [1, 5] (fun q t wr => q = .int .i64 k ∧ t = .int .i64 0 ∧ w = wr) (fun _ _ _ => 0)
 case atStart => exact ⟨rfl, rfl, rfl⟩
 case round =>
  obtain ⟨rfl, rfl, rfl⟩ := hrel
  go_wp2
  go_ret
  exact ⟨rfl, rfl⟩

set_option maxRecDepth 100000 in
set_option maxHeartbeats 2000000 in
theorem nil64 (k : Int) (w : World) : Calls Try.prog 24 #[.slice none 0 0, .int .i64 k] w fun e w' => e = .returned (.int .i64 k) ∧ w' = w := by
 go_enter Try.func24, Try.ntmps24
 go_wp2
 go_loopw [1, 5] (fun q t wr => q = .int .i64 k ∧ t = .int .i64 0 ∧ w = wr) (fun _ _ _ => 0)
 case atStart => exact ⟨rfl, rfl, rfl⟩
 case round =>
  obtain ⟨rfl, rfl, rfl⟩ := hrel
  go_wp2
  go_ret
  exact ⟨rfl, rfl⟩

set_option maxRecDepth 100000 in
set_option maxHeartbeats 2000000 in
theorem bnew28 (w : World) : Calls Try.prog 17 #[] w fun e w' => e = .returned (.agg #[.slice none 0 0, .slice none 0 0, .slice none 0 0, .int .i64 0, .int .i64 1]) ∧ Below w.heap.size w w' := by
 go_enter Try.func17, Try.ntmps17
 go_wp2
 refine bodyPost_ret (v := .agg #[.slice none 0 0, .slice none 0 0, .slice none 0 0, .int .i64 0, .int .i64 1]) (by simp [results, Try.results17, go_sem]) rfl ⟨rfl, ?_⟩
 exact (belowRefl w).alloc (Nat.le_refl _) _

set_option maxRecDepth 100000 in
set_option maxHeartbeats 2000000 in
theorem bnew29 (w : World) : Calls Try.prog 18 #[] w fun e w' => e = .returned (.agg #[.slice none 0 0, .slice none 0 0, .slice none 0 0, .int .i64 0, .int .i64 1]) ∧ Below w.heap.size w w' := by
 go_enter Try.func18, Try.ntmps18
 go_wp2
 refine bodyPost_ret (v := .agg #[.slice none 0 0, .slice none 0 0, .slice none 0 0, .int .i64 0, .int .i64 1]) (by simp [results, Try.results18, go_sem]) rfl ⟨rfl, ?_⟩
 exact (belowRefl w).alloc (Nat.le_refl _) _

set_option maxRecDepth 100000 in
set_option maxHeartbeats 2000000 in
theorem mark31 (w : World) : Calls Try.prog 21 #[.agg #[.slice none 0 0, .slice none 0 0, .slice none 0 0, .int .i64 0, .int .i64 1], .int .i64 1] w fun e w' => e = .returned (.int .i64 1) ∧ Below w.heap.size w w' := by
 have C1 : Hid (∀ W, _) := fun W => nil61 1 W
 have C2 : Hid (∀ W, _) := fun W => nil62 1 W
 have HB0 : Hid (Below w.heap.size w (w.alloc (.cells #[.slice none 0 0, .slice none 0 0, .slice none 0 0, .int .i64 0, .int .i64 1] 25))) := (belowRefl w).alloc (Nat.le_refl _) _
 go_enter Try.func21, Try.ntmps21
 go_wp2_with fail
 refine (C1.out _).mono ?_
 rintro e w1 ⟨rfl, rfl⟩
 go_wp2_with fail
 refine (C2.out _).mono ?_
 rintro e w1 ⟨rfl, rfl⟩
 go_wp2_with fail
 refine (C2.out _).mono ?_
 rintro e w1 ⟨rfl, rfl⟩
 go_wp2
 go_ret
 exact ⟨rfl, HB0.out⟩

set_option maxRecDepth 100000 in
set_option maxHeartbeats 2000000 in
theorem held32 (w : World) : Calls Try.prog 23 #[.agg #[.slice none 0 0, .slice none 0 0, .slice none 0 0, .int .i64 0, .int .i64 1], .int .i64 1] w fun e w' => e = .returned (.int .i64 1) ∧ Below w.heap.size w w' := by
 have C1 : Hid (∀ W, _) := fun W => nil63 1 W
 have C2 : Hid (∀ W, _) := fun W => nil64 1 W
 have HB0 : Hid (Below w.heap.size w (w.alloc (.cells #[.slice none 0 0, .slice none 0 0, .slice none 0 0, .int .i64 0, .int .i64 1] 25))) := (belowRefl w).alloc (Nat.le_refl _) _
 go_enter Try.func23, Try.ntmps23
 go_wp2_with fail
 refine (C1.out _).mono ?_
 rintro e w1 ⟨rfl, rfl⟩
 go_wp2_with fail
 refine (C2.out _).mono ?_
 rintro e w1 ⟨rfl, rfl⟩
 go_wp2_with fail
 refine (C2.out _).mono ?_
 rintro e w1 ⟨rfl, rfl⟩
 go_wp2
 go_ret
 exact ⟨rfl, HB0.out⟩

def noBb : Bb := ⟨[], [], [], 0, 1, none, 0, none, 0, none, 0⟩
end Go.Proofs.Ytjeicgibddfifaa

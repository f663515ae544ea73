/- What stays: a base and where its rows lie; what laws szBase, toBase and eqBase do. -/
import Derived.Test.YtjieojfcmigcdaaGreatDoorPw16
import Derived.Test.YtjieojfcmigcdaaGreatDoorPw08
import Derived.Test.YtjieojfcmigcdaaGreatDoorPw06
import Derived.Test.YtjieojfcmigcdaaGreatDoorPw07
namespace Go.Proofs.YtjieojfcmigcdaaGreatDoor
open Go.RowKit
open KM
attribute [local go_sem ↓] Go.wp_at_zero Go.wp_at_succ

structure Bb where
 vs : List Vr
 ps : List Ta
 qs : List Ta
 cs : Int
 nx : Int
 va : Option Addr
 vc : Nat
 pa : Option Addr
 pc : Nat
 qa : Option Addr
 qc : Nat
structure BRows (w : World) (b : Bb) : Prop where
 v : GRow encV w b.va b.vs
 p : TRows w b.pa b.ps
 q : TRows w b.qa b.qs
theorem BRows.below {w w' : World} {b : Bb} (h : BRows w b) (hb : Below w.heap.size w w') : BRows w' b := ⟨h.v.below hb, h.p.below hb, h.q.below hb⟩
structure BArg (w : World) (b : Bb) : Prop where
 vl : b.vs.length ≤ maxLen
 vf : ∀ x ∈ b.vs, x.1.size ≤ maxLen ∧ x.2.1.size ≤ maxLen
 v : GRow encV w b.va b.vs
 p : LArg w b.pa b.ps
 q : LArg w b.qa b.qs
theorem BArg.below {w w' : World} {b : Bb} (h : BArg w b) (hb : Below w.heap.size w w') : BArg w' b := ⟨h.vl, h.vf, h.v.below hb, h.p.below hb, h.q.below hb⟩
theorem BArg.rows {w : World} {b : Bb} (h : BArg w b) : BRows w b := ⟨h.v, h.p.rows, h.q.rows⟩
structure BFit (b : Bb) : Prop where
 vl : b.vs.length ≤ 1048576
 vf : VFit b.vs
 p : LFit (txs b.ps)
 q : LFit (txs b.qs)
theorem BFit.pl {b : Bb} (h : BFit b) : b.ps.length ≤ 1048576 := by have := h.p.1; rwa [txs_len] at this
theorem BFit.ql {b : Bb} (h : BFit b) : b.qs.length ≤ 1048576 := by have := h.q.1; rwa [txs_len] at this
structure BSame (b c : Bb) : Prop where
 v : c.vs = b.vs
 p : txs c.ps = txs b.ps
 q : txs c.qs = txs b.qs
 cs : c.cs = b.cs
 nx : c.nx = b.nx
theorem BSame.pl {b c : Bb} (h : BSame b c) : c.ps.length = b.ps.length := by rw [← txs_len, h.p, txs_len]
theorem BSame.ql {b c : Bb} (h : BSame b c) : c.qs.length = b.qs.length := by rw [← txs_len, h.q, txs_len]
theorem BSame.vl {b c : Bb} (h : BSame b c) : c.vs.length = b.vs.length := by rw [h.v]
theorem BSame.fit {b c : Bb} (h : BSame b c) (hf : BFit b) : BFit c := ⟨by rw [h.v]; exact hf.vl, by rw [h.v]; exact hf.vf, by rw [h.p]; exact hf.p, by rw [h.q]; exact hf.q⟩
theorem BSame.trans {b c d : Bb} (h : BSame b c) (k : BSame c d) : BSame b d := ⟨k.v.trans h.v, k.p.trans h.p, k.q.trans h.q, k.cs.trans h.cs, k.nx.trans h.nx⟩
theorem BSame.symm {b c : Bb} (h : BSame b c) : BSame c b := ⟨h.v.symm, h.p.symm, h.q.symm, h.cs.symm, h.nx.symm⟩

set_option maxRecDepth 100000 in
set_option maxHeartbeats 2000000 in
theorem szB (b : Bb) (L : Int) (h0 : 0 ≤ L) (h1 : L ≤ 1048576) (w : World) (hp : BArg w b) :
  Calls Tryz.prog 38 #[.agg #[.slice b.va b.vs.length b.vc, .slice b.pa b.ps.length b.pc, .slice b.qa b.qs.length b.qc, .int .i64 b.cs, .int .i64 b.nx], .int .i64 L] w fun e w' => Below w.heap.size w w' ∧ ∃ r : Int, e = .returned (.int .i64 r) ∧ r ≤ 1048576 ∧ (0 ≤ r → BFit b) := by
 have HP : Hid (BArg w b) := hp
 clear hp
 have BX0 : Hid (Bx (w.alloc (.cells #[.slice b.va b.vs.length b.vc, .slice b.pa b.ps.length b.pc, .slice b.qa b.qs.length b.qc, .int .i64 b.cs, .int .i64 b.nx] 25)) w.heap.size [.slice b.va b.vs.length b.vc, .slice b.pa b.ps.length b.pc, .slice b.qa b.qs.length b.qc, .int .i64 b.cs, .int .i64 b.nx]) := Bx.new w [.slice b.va b.vs.length b.vc, .slice b.pa b.ps.length b.pc, .slice b.qa b.qs.length b.qc, .int .i64 b.cs, .int .i64 b.nx] 25
 have HB0 : Hid (Below w.heap.size w (w.alloc (.cells #[.slice b.va b.vs.length b.vc, .slice b.pa b.ps.length b.pc, .slice b.qa b.qs.length b.qc, .int .i64 b.cs, .int .i64 b.nx] 25))) := (belowRefl w).alloc (Nat.le_refl _) _
 go_enter Tryz.func38, Tryz.ntmps38
 go_wp2_with fail
 refine (szSV b.vs b.va b.vc HP.out.vl HP.out.vf L h0 h1 _ (HP.out.v.below HB0.out)).mono ?_
 rintro e w1 ⟨hb1, r0, rfl, hu0, hr0⟩
 have HR0 : Hid (0 ≤ r0 → b.vs.length ≤ 1048576 ∧ VFit b.vs) := hr0
 have HB1 : Hid (Below w.heap.size w w1) := HB0.out.trans (hb1.mono HB0.out.size)
 have BX1 : Hid (Bx w1 w.heap.size [.slice b.va b.vs.length b.vc, .slice b.pa b.ps.length b.pc, .slice b.qa b.qs.length b.qc, .int .i64 b.cs, .int .i64 b.nx]) := BX0.out.below hb1
 clear hb1 hr0
 by_cases hn0 : r0 < 0
 ·go_wp2
  go_ret
  exact ⟨HB1.out, -1, rfl, by omega, fun h => by omega⟩
 have x1 := BX1.out.c1
 go_wp2_with fail
 refine (szL b.ps b.pa b.pc r0 (by omega) hu0 _ (HP.out.p.below HB1.out)).mono ?_
 rintro e w2 ⟨hb2, r1, rfl, hu1, hr1⟩
 have HR1 : Hid (0 ≤ r1 → LFit (txs b.ps)) := hr1
 have HB2 : Hid (Below w.heap.size w w2) := HB1.out.trans (hb2.mono HB1.out.size)
 have BX2 : Hid (Bx w2 w.heap.size [.slice b.va b.vs.length b.vc, .slice b.pa b.ps.length b.pc, .slice b.qa b.qs.length b.qc, .int .i64 b.cs, .int .i64 b.nx]) := BX1.out.below hb2
 clear hb2 hr1 x1
 by_cases hn1 : r1 < 0
 ·go_wp2
  go_ret
  exact ⟨HB2.out, -1, rfl, by omega, fun h => by omega⟩
 have x2 := BX2.out.c2
 go_wp2_with fail
 refine (szL b.qs b.qa b.qc r1 (by omega) hu1 _ (HP.out.q.below HB2.out)).mono ?_
 rintro e w3 ⟨hb3, r2, rfl, hu2, hr2⟩
 have HR2 : Hid (0 ≤ r2 → LFit (txs b.qs)) := hr2
 have HB3 : Hid (Below w.heap.size w w3) := HB2.out.trans (hb3.mono HB2.out.size)
 clear hb3 hr2 x2
 by_cases hn2 : r2 < 0
 ·go_wp2
  go_ret
  exact ⟨HB3.out, -1, rfl, by omega, fun h => by omega⟩
 have HT : Hid (BFit b) := ⟨(HR0.out (by omega)).1, (HR0.out (by omega)).2, HR1.out (by omega), HR2.out (by omega)⟩
 go_wp2
 go_ret
 exact ⟨HB3.out, _, rfl, hu2, fun _ => HT.out⟩

set_option maxRecDepth 100000 in
set_option maxHeartbeats 2000000 in
theorem eqB0 (b c : Bb) (hs : BSame b c) (hf : BFit b) (w : World) (hp : BRows w b) (hq : BRows w c) :
  Calls Tryz.prog 52 #[.agg #[.slice b.va b.vs.length b.vc, .slice b.pa b.ps.length b.pc, .slice b.qa b.qs.length b.qc, .int .i64 b.cs, .int .i64 b.nx], .agg #[.slice c.va b.vs.length c.vc, .slice c.pa b.ps.length c.pc, .slice c.qa b.qs.length c.qc, .int .i64 b.cs, .int .i64 b.nx]] w fun e w' => e = .returned (.bool true) ∧ Below w.heap.size w w' := by
 have HP : Hid (BRows w b) := hp
 have HQ : Hid (BRows w c) := hq
 have HS : Hid (BSame b c) := hs
 have HF : Hid (BFit b) := hf
 clear hp hq hs hf
 have n3 := ne_self_int b.cs
 have n4 := ne_self_int b.nx
 have BA0 : Hid (Bx ((w.alloc (.cells #[.slice b.va b.vs.length b.vc, .slice b.pa b.ps.length b.pc, .slice b.qa b.qs.length b.qc, .int .i64 b.cs, .int .i64 b.nx] 39)).alloc (.cells #[.slice c.va b.vs.length c.vc, .slice c.pa b.ps.length c.pc, .slice c.qa b.qs.length c.qc, .int .i64 b.cs, .int .i64 b.nx] 39)) w.heap.size [.slice b.va b.vs.length b.vc, .slice b.pa b.ps.length b.pc, .slice b.qa b.qs.length b.qc, .int .i64 b.cs, .int .i64 b.nx]) := (Bx.new w [.slice b.va b.vs.length b.vc, .slice b.pa b.ps.length b.pc, .slice b.qa b.qs.length b.qc, .int .i64 b.cs, .int .i64 b.nx] 39).alloc _
 have BB0 : Hid (Bx ((w.alloc (.cells #[.slice b.va b.vs.length b.vc, .slice b.pa b.ps.length b.pc, .slice b.qa b.qs.length b.qc, .int .i64 b.cs, .int .i64 b.nx] 39)).alloc (.cells #[.slice c.va b.vs.length c.vc, .slice c.pa b.ps.length c.pc, .slice c.qa b.qs.length c.qc, .int .i64 b.cs, .int .i64 b.nx] 39)) (w.heap.size + 1) [.slice c.va b.vs.length c.vc, .slice c.pa b.ps.length c.pc, .slice c.qa b.qs.length c.qc, .int .i64 b.cs, .int .i64 b.nx]) := by
  have h := Bx.new (w.alloc (.cells #[.slice b.va b.vs.length b.vc, .slice b.pa b.ps.length b.pc, .slice b.qa b.qs.length b.qc, .int .i64 b.cs, .int .i64 b.nx] 39)) [.slice c.va b.vs.length c.vc, .slice c.pa b.ps.length c.pc, .slice c.qa b.qs.length c.qc, .int .i64 b.cs, .int .i64 b.nx] 39
  rw [show (w.alloc (.cells #[.slice b.va b.vs.length b.vc, .slice b.pa b.ps.length b.pc, .slice b.qa b.qs.length b.qc, .int .i64 b.cs, .int .i64 b.nx] 39)).heap.size = w.heap.size + 1 by simp] at h
  exact h
 have HB0 : Hid (Below w.heap.size w ((w.alloc (.cells #[.slice b.va b.vs.length b.vc, .slice b.pa b.ps.length b.pc, .slice b.qa b.qs.length b.qc, .int .i64 b.cs, .int .i64 b.nx] 39)).alloc (.cells #[.slice c.va b.vs.length c.vc, .slice c.pa b.ps.length c.pc, .slice c.qa b.qs.length c.qc, .int .i64 b.cs, .int .i64 b.nx] 39))) := ((belowRefl w).alloc (Nat.le_refl _) _).alloc (by simp) _
 have CV : Hid (∀ W : World, Below w.heap.size w W → Calls Tryz.prog 70 #[.slice b.va b.vs.length b.vc, .slice c.va b.vs.length c.vc] W fun e w' => e = .returned (.bool true) ∧ Below W.heap.size W w') := fun W h => eqSV b.va c.va b.vc c.vc b.vs (Nat.le_trans HF.out.vl (by omega)) W (HP.out.v.below h) (by have k := HQ.out.v.below h; rw [HS.out.v] at k; exact k)
 have CP : Hid (∀ W : World, Below w.heap.size w W → Calls Tryz.prog 35 #[.slice b.pa b.ps.length b.pc, .slice c.pa b.ps.length c.pc] W fun e w' => e = .returned (.bool true) ∧ Below W.heap.size W w') := fun W h => eqL b.ps c.ps b.pa c.pa b.pc c.pc b.ps.length rfl HS.out.pl.symm (Nat.le_trans HF.out.pl (by omega)) HS.out.p.symm HF.out.p W (HP.out.p.below h) (HQ.out.p.below h)
 have CQ : Hid (∀ W : World, Below w.heap.size w W → Calls Tryz.prog 35 #[.slice b.qa b.qs.length b.qc, .slice c.qa b.qs.length c.qc] W fun e w' => e = .returned (.bool true) ∧ Below W.heap.size W w') := fun W h => eqL b.qs c.qs b.qa c.qa b.qc c.qc b.qs.length rfl HS.out.ql.symm (Nat.le_trans HF.out.ql (by omega)) HS.out.q.symm HF.out.q W (HP.out.q.below h) (HQ.out.q.below h)
 clear HP HQ HS HF
 go_enter Tryz.func52, Tryz.ntmps52
 go_wp2_with fail
 refine (CV.out _ HB0.out).mono ?_
 rintro e w1 ⟨rfl, hb1⟩
 have BA1 : Hid (Bx w1 w.heap.size [.slice b.va b.vs.length b.vc, .slice b.pa b.ps.length b.pc, .slice b.qa b.qs.length b.qc, .int .i64 b.cs, .int .i64 b.nx]) := BA0.out.below hb1
 have BB1 : Hid (Bx w1 (w.heap.size + 1) [.slice c.va b.vs.length c.vc, .slice c.pa b.ps.length c.pc, .slice c.qa b.qs.length c.qc, .int .i64 b.cs, .int .i64 b.nx]) := BB0.out.below hb1
 have HB1 : Hid (Below w.heap.size w w1) := HB0.out.trans (hb1.mono HB0.out.size)
 clear hb1 BA0 BB0 HB0
 have x1 := BA1.out.c1
 have y1 := BB1.out.c1
 go_wp2_with fail
 refine (CP.out _ HB1.out).mono ?_
 rintro e w2 ⟨rfl, hb2⟩
 have BA2 : Hid (Bx w2 w.heap.size [.slice b.va b.vs.length b.vc, .slice b.pa b.ps.length b.pc, .slice b.qa b.qs.length b.qc, .int .i64 b.cs, .int .i64 b.nx]) := BA1.out.below hb2
 have BB2 : Hid (Bx w2 (w.heap.size + 1) [.slice c.va b.vs.length c.vc, .slice c.pa b.ps.length c.pc, .slice c.qa b.qs.length c.qc, .int .i64 b.cs, .int .i64 b.nx]) := BB1.out.below hb2
 have HB2 : Hid (Below w.heap.size w w2) := HB1.out.trans (hb2.mono HB1.out.size)
 clear hb2 BA1 BB1 HB1 x1 y1
 have x2 := BA2.out.c2
 have y2 := BB2.out.c2
 go_wp2_with fail
 refine (CQ.out _ HB2.out).mono ?_
 rintro e w3 ⟨rfl, hb3⟩
 have BA3 : Hid (Bx w3 w.heap.size [.slice b.va b.vs.length b.vc, .slice b.pa b.ps.length b.pc, .slice b.qa b.qs.length b.qc, .int .i64 b.cs, .int .i64 b.nx]) := BA2.out.below hb3
 have BB3 : Hid (Bx w3 (w.heap.size + 1) [.slice c.va b.vs.length c.vc, .slice c.pa b.ps.length c.pc, .slice c.qa b.qs.length c.qc, .int .i64 b.cs, .int .i64 b.nx]) := BB2.out.below hb3
 have HB3 : Hid (Below w.heap.size w w3) := HB2.out.trans (hb3.mono HB2.out.size)
 clear hb3 BA2 BB2 HB2 x2 y2
 have x3 := BA3.out.c3
 have y3 := BB3.out.c3
 have x4 := BA3.out.c4
 have y4 := BB3.out.c4
 go_wp2
 go_ret
 exact ⟨rfl, HB3.out⟩

end Go.Proofs.YtjieojfcmigcdaaGreatDoor

namespace Go.Proofs.YtjieojfcmigcdaaGreatDoor
open Go.RowKit
open KM
attribute [local go_sem ↓] Go.wp_at_zero Go.wp_at_succ

end Go.Proofs.YtjieojfcmigcdaaGreatDoor

namespace Go.Proofs.YtjieojfcmigcdaaGreatDoor
open Go.RowKit
open KM
attribute [local go_sem ↓] Go.wp_at_zero Go.wp_at_succ

structure Zn (lo hi : Nat) (w w' : World) : Prop where
 os : w'.os = w.os
 tape : w'.tape = w.tape
 output : w'.output = w.output
 size : w.heap.size ≤ w'.heap.size
 block : ∀ j, j < w.heap.size → (j < lo ∨ hi ≤ j) → w'.heap[j]? = w.heap[j]?
theorem Zn.trans {lo hi : Nat} {a b c : World} (h : Zn lo hi a b) (k : Zn lo hi b c) : Zn lo hi a c :=
 ⟨k.os.trans h.os, k.tape.trans h.tape, k.output.trans h.output, Nat.le_trans h.size k.size, fun j hj hn => (k.block j (Nat.lt_of_lt_of_le hj h.size) hn).trans (h.block j hj hn)⟩
theorem Zn.below {lo hi base : Nat} {w w' : World} (h : Zn lo hi w w') (hb : base ≤ lo) (hs : base ≤ w.heap.size) : Below base w w' :=
 ⟨h.os, h.tape, h.output, h.size, fun j hj => h.block j (by omega) (Or.inl (by omega))⟩
end Go.Proofs.YtjieojfcmigcdaaGreatDoor

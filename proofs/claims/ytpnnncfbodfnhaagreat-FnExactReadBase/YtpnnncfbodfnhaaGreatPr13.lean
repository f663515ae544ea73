/- What stays: a base and where its rows lie; what laws szBase, toBase and eqBase do. -/
import Derived.Test.YtpnnncfbodfnhaaGreatPr11
import Derived.Test.YtpnnncfbodfnhaaGreatPr12
import Derived.Test.YtpnnncfbodfnhaaGreatPr04
import Derived.Test.YtpnnncfbodfnhaaGreatPr05
import Derived.Test.YtpnnncfbodfnhaaGreatPr02
import Derived.Test.YtpnnncfbodfnhaaGreatPr10
namespace Go.Proofs.YtpnnncfbodfnhaaGreat
open Go.RowKit
open KM
attribute [local go_sem ↓] Go.wp_at_zero Go.wp_at_succ

structure Bb where
 vs : List Vr
 ps : List Ta
 qs : List Ta
 cs : Int
 nx : Int
 va : Option Addr
 vc : Nat
 pa : Option Addr
 pc : Nat
 qa : Option Addr
 qc : Nat
structure BRows (w : World) (b : Bb) : Prop where
 v : GRow encV w b.va b.vs
 p : TRows w b.pa b.ps
 q : TRows w b.qa b.qs
theorem BRows.below {w w' : World} {b : Bb} (h : BRows w b) (hb : Below w.heap.size w w') : BRows w' b := ⟨h.v.below hb, h.p.below hb, h.q.below hb⟩
structure BArg (w : World) (b : Bb) : Prop where
 vl : b.vs.length ≤ maxLen
 vf : ∀ x ∈ b.vs, x.1.size ≤ maxLen ∧ x.2.1.size ≤ maxLen
 v : GRow encV w b.va b.vs
 p : LArg w b.pa b.ps
 q : LArg w b.qa b.qs
theorem BArg.below {w w' : World} {b : Bb} (h : BArg w b) (hb : Below w.heap.size w w') : BArg w' b := ⟨h.vl, h.vf, h.v.below hb, h.p.below hb, h.q.below hb⟩
theorem BArg.rows {w : World} {b : Bb} (h : BArg w b) : BRows w b := ⟨h.v, h.p.rows, h.q.rows⟩
structure BFit (b : Bb) : Prop where
 vl : b.vs.length ≤ 1048576
 vf : VFit b.vs
 p : LFit (txs b.ps)
 q : LFit (txs b.qs)
theorem BFit.pl {b : Bb} (h : BFit b) : b.ps.length ≤ 1048576 := by have := h.p.1; rwa [txs_len] at this
theorem BFit.ql {b : Bb} (h : BFit b) : b.qs.length ≤ 1048576 := by have := h.q.1; rwa [txs_len] at this
structure BSame (b c : Bb) : Prop where
 v : c.vs = b.vs
 p : txs c.ps = txs b.ps
 q : txs c.qs = txs b.qs
 cs : c.cs = b.cs
 nx : c.nx = b.nx
theorem BSame.pl {b c : Bb} (h : BSame b c) : c.ps.length = b.ps.length := by rw [← txs_len, h.p, txs_len]
theorem BSame.ql {b c : Bb} (h : BSame b c) : c.qs.length = b.qs.length := by rw [← txs_len, h.q, txs_len]
theorem BSame.vl {b c : Bb} (h : BSame b c) : c.vs.length = b.vs.length := by rw [h.v]
theorem BSame.fit {b c : Bb} (h : BSame b c) (hf : BFit b) : BFit c := ⟨by rw [h.v]; exact hf.vl, by rw [h.v]; exact hf.vf, by rw [h.p]; exact hf.p, by rw [h.q]; exact hf.q⟩
theorem BSame.trans {b c d : Bb} (h : BSame b c) (k : BSame c d) : BSame b d := ⟨k.v.trans h.v, k.p.trans h.p, k.q.trans h.q, k.cs.trans h.cs, k.nx.trans h.nx⟩
theorem BSame.symm {b c : Bb} (h : BSame b c) : BSame c b := ⟨h.v.symm, h.p.symm, h.q.symm, h.cs.symm, h.nx.symm⟩

set_option maxRecDepth 100000 in
set_option maxHeartbeats 2000000 in
theorem eqB0 (b c : Bb) (hs : BSame b c) (hf : BFit b) (w : World) (hp : BRows w b) (hq : BRows w c) :
  Calls Tryz.prog 16 #[.agg #[.slice b.va b.vs.length b.vc, .slice b.pa b.ps.length b.pc, .slice b.qa b.qs.length b.qc, .int .i64 b.cs, .int .i64 b.nx], .agg #[.slice c.va b.vs.length c.vc, .slice c.pa b.ps.length c.pc, .slice c.qa b.qs.length c.qc, .int .i64 b.cs, .int .i64 b.nx]] w fun e w' => e = .returned (.bool true) ∧ Below w.heap.size w w' := by
 have HP : Hid (BRows w b) := hp
 have HQ : Hid (BRows w c) := hq
 have HS : Hid (BSame b c) := hs
 have HF : Hid (BFit b) := hf
 clear hp hq hs hf
 have n3 := ne_self_int b.cs
 have n4 := ne_self_int b.nx
 have BA0 : Hid (Bx ((w.alloc (.cells #[.slice b.va b.vs.length b.vc, .slice b.pa b.ps.length b.pc, .slice b.qa b.qs.length b.qc, .int .i64 b.cs, .int .i64 b.nx] 41)).alloc (.cells #[.slice c.va b.vs.length c.vc, .slice c.pa b.ps.length c.pc, .slice c.qa b.qs.length c.qc, .int .i64 b.cs, .int .i64 b.nx] 41)) w.heap.size [.slice b.va b.vs.length b.vc, .slice b.pa b.ps.length b.pc, .slice b.qa b.qs.length b.qc, .int .i64 b.cs, .int .i64 b.nx]) := (Bx.new w [.slice b.va b.vs.length b.vc, .slice b.pa b.ps.length b.pc, .slice b.qa b.qs.length b.qc, .int .i64 b.cs, .int .i64 b.nx] 41).alloc _
 have BB0 : Hid (Bx ((w.alloc (.cells #[.slice b.va b.vs.length b.vc, .slice b.pa b.ps.length b.pc, .slice b.qa b.qs.length b.qc, .int .i64 b.cs, .int .i64 b.nx] 41)).alloc (.cells #[.slice c.va b.vs.length c.vc, .slice c.pa b.ps.length c.pc, .slice c.qa b.qs.length c.qc, .int .i64 b.cs, .int .i64 b.nx] 41)) (w.heap.size + 1) [.slice c.va b.vs.length c.vc, .slice c.pa b.ps.length c.pc, .slice c.qa b.qs.length c.qc, .int .i64 b.cs, .int .i64 b.nx]) := by
  have h := Bx.new (w.alloc (.cells #[.slice b.va b.vs.length b.vc, .slice b.pa b.ps.length b.pc, .slice b.qa b.qs.length b.qc, .int .i64 b.cs, .int .i64 b.nx] 41)) [.slice c.va b.vs.length c.vc, .slice c.pa b.ps.length c.pc, .slice c.qa b.qs.length c.qc, .int .i64 b.cs, .int .i64 b.nx] 41
  rw [show (w.alloc (.cells #[.slice b.va b.vs.length b.vc, .slice b.pa b.ps.length b.pc, .slice b.qa b.qs.length b.qc, .int .i64 b.cs, .int .i64 b.nx] 41)).heap.size = w.heap.size + 1 by simp] at h
  exact h
 have HB0 : Hid (Below w.heap.size w ((w.alloc (.cells #[.slice b.va b.vs.length b.vc, .slice b.pa b.ps.length b.pc, .slice b.qa b.qs.length b.qc, .int .i64 b.cs, .int .i64 b.nx] 41)).alloc (.cells #[.slice c.va b.vs.length c.vc, .slice c.pa b.ps.length c.pc, .slice c.qa b.qs.length c.qc, .int .i64 b.cs, .int .i64 b.nx] 41))) := ((belowRefl w).alloc (Nat.le_refl _) _).alloc (by simp) _
 have CV : Hid (∀ W : World, Below w.heap.size w W → Calls Tryz.prog 45 #[.slice b.va b.vs.length b.vc, .slice c.va b.vs.length c.vc] W fun e w' => e = .returned (.bool true) ∧ Below W.heap.size W w') := fun W h => eqSV b.va c.va b.vc c.vc b.vs (Nat.le_trans HF.out.vl (by omega)) W (HP.out.v.below h) (by have k := HQ.out.v.below h; rw [HS.out.v] at k; exact k)
 have CP : Hid (∀ W : World, Below w.heap.size w W → Calls Tryz.prog 46 #[.slice b.pa b.ps.length b.pc, .slice c.pa b.ps.length c.pc] W fun e w' => e = .returned (.bool true) ∧ Below W.heap.size W w') := fun W h => eqL b.ps c.ps b.pa c.pa b.pc c.pc b.ps.length rfl HS.out.pl.symm (Nat.le_trans HF.out.pl (by omega)) HS.out.p.symm HF.out.p W (HP.out.p.below h) (HQ.out.p.below h)
 have CQ : Hid (∀ W : World, Below w.heap.size w W → Calls Tryz.prog 46 #[.slice b.qa b.qs.length b.qc, .slice c.qa b.qs.length c.qc] W fun e w' => e = .returned (.bool true) ∧ Below W.heap.size W w') := fun W h => eqL b.qs c.qs b.qa c.qa b.qc c.qc b.qs.length rfl HS.out.ql.symm (Nat.le_trans HF.out.ql (by omega)) HS.out.q.symm HF.out.q W (HP.out.q.below h) (HQ.out.q.below h)
 clear HP HQ HS HF
 go_enter Tryz.func16, Tryz.ntmps16
 go_wp2_with fail
 refine (CV.out _ HB0.out).mono ?_
 rintro e w1 ⟨rfl, hb1⟩
 have BA1 : Hid (Bx w1 w.heap.size [.slice b.va b.vs.length b.vc, .slice b.pa b.ps.length b.pc, .slice b.qa b.qs.length b.qc, .int .i64 b.cs, .int .i64 b.nx]) := BA0.out.below hb1
 have BB1 : Hid (Bx w1 (w.heap.size + 1) [.slice c.va b.vs.length c.vc, .slice c.pa b.ps.length c.pc, .slice c.qa b.qs.length c.qc, .int .i64 b.cs, .int .i64 b.nx]) := BB0.out.below hb1
 have HB1 : Hid (Below w.heap.size w w1) := HB0.out.trans (hb1.mono HB0.out.size)
 clear hb1 BA0 BB0 HB0
 have x1 := BA1.out.c1
 have y1 := BB1.out.c1
 go_wp2_with fail
 refine (CP.out _ HB1.out).mono ?_
 rintro e w2 ⟨rfl, hb2⟩
 have BA2 : Hid (Bx w2 w.heap.size [.slice b.va b.vs.length b.vc, .slice b.pa b.ps.length b.pc, .slice b.qa b.qs.length b.qc, .int .i64 b.cs, .int .i64 b.nx]) := BA1.out.below hb2
 have BB2 : Hid (Bx w2 (w.heap.size + 1) [.slice c.va b.vs.length c.vc, .slice c.pa b.ps.length c.pc, .slice c.qa b.qs.length c.qc, .int .i64 b.cs, .int .i64 b.nx]) := BB1.out.below hb2
 have HB2 : Hid (Below w.heap.size w w2) := HB1.out.trans (hb2.mono HB1.out.size)
 clear hb2 BA1 BB1 HB1 x1 y1
 have x2 := BA2.out.c2
 have y2 := BB2.out.c2
 go_wp2_with fail
 refine (CQ.out _ HB2.out).mono ?_
 rintro e w3 ⟨rfl, hb3⟩
 have BA3 : Hid (Bx w3 w.heap.size [.slice b.va b.vs.length b.vc, .slice b.pa b.ps.length b.pc, .slice b.qa b.qs.length b.qc, .int .i64 b.cs, .int .i64 b.nx]) := BA2.out.below hb3
 have BB3 : Hid (Bx w3 (w.heap.size + 1) [.slice c.va b.vs.length c.vc, .slice c.pa b.ps.length c.pc, .slice c.qa b.qs.length c.qc, .int .i64 b.cs, .int .i64 b.nx]) := BB2.out.below hb3
 have HB3 : Hid (Below w.heap.size w w3) := HB2.out.trans (hb3.mono HB2.out.size)
 clear hb3 BA2 BB2 HB2 x2 y2
 have x3 := BA3.out.c3
 have y3 := BB3.out.c3
 have x4 := BA3.out.c4
 have y4 := BB3.out.c4
 go_wp2
 go_ret
 exact ⟨rfl, HB3.out⟩

theorem eqB (b c : Bb) (hs : BSame b c) (hf : BFit b) (w : World) (hp : BRows w b) (hq : BRows w c) :
  Calls Tryz.prog 16 #[.agg #[.slice b.va b.vs.length b.vc, .slice b.pa b.ps.length b.pc, .slice b.qa b.qs.length b.qc, .int .i64 b.cs, .int .i64 b.nx], .agg #[.slice c.va c.vs.length c.vc, .slice c.pa c.ps.length c.pc, .slice c.qa c.qs.length c.qc, .int .i64 c.cs, .int .i64 c.nx]] w fun e w' => e = .returned (.bool true) ∧ Below w.heap.size w w' := by
 have h := eqB0 b c hs hf w hp hq
 rw [← hs.vl, ← hs.pl, ← hs.ql, ← hs.cs, ← hs.nx] at h
 rw [hs.vl, hs.pl, hs.ql, hs.cs, hs.nx] at h ⊢
 exact h

end Go.Proofs.YtpnnncfbodfnhaaGreat

namespace Go.Proofs.YtpnnncfbodfnhaaGreat
open Go.RowKit
open KM
attribute [local go_sem ↓] Go.wp_at_zero Go.wp_at_succ
def goneQ (q : Nat) : Bool := ((q : Int) + 1 + 1) % 3 == 0
theorem goneQ_eq (q : Nat) : (((q : Int) + 1 + 1) % 3 == 0) = goneQ q := rfl

def mkV (k n : Nat) : List Vr := (List.range n).map fun j => (mkB (k + 4 * j), mkB ((k + 4 * j) + 1), goneQ (k + 4 * j), (((k + 4 * j) : Nat) : Int) + 1 + 1 + 1)
theorem mkV_len (k n : Nat) : (mkV k n).length = n := by simp [mkV]
theorem mkV_at (k n j : Nat) (h : j < n) : (mkV k n)[j]'(by rw [mkV_len]; exact h) = (mkB (k + 4 * j), mkB ((k + 4 * j) + 1), goneQ (k + 4 * j), (((k + 4 * j) : Nat) : Int) + 1 + 1 + 1) := by simp [mkV]

end Go.Proofs.YtpnnncfbodfnhaaGreat

namespace Go.Proofs.YtpnnncfbodfnhaaGreat
open Go.RowKit
open KM
attribute [local go_sem ↓] Go.wp_at_zero Go.wp_at_succ
set_option maxRecDepth 100000 in
set_option maxHeartbeats 4000000 in
theorem markV (n k0 : Nat) (a : Option Addr) (c base : Nat) (xs0 : List Value) (hn : n ≤ 100000000) (hk0 : 0 < k0) (hk1 : k0 ≤ 100000000000000000) (w : World) (h : w.ownsRow base 76 4 (.slice a n c) n xs0) :
  Calls Tryz.prog 54 #[.slice a n c, .int .i64 k0] w fun e w' => e = .returned (.int .i64 ((k0 + 4 * n : Nat) : Int)) ∧ GOwn encV 76 w' base (.slice a n c) (mkV k0 n) ∧ w.grownBy w' (Value.slice a n c).ownBlock := by
 have H : Hid (w.ownsRow base 76 4 (.slice a n c) n xs0) := h
 clear h
 go_enter Tryz.func54, Tryz.ntmps54
 go_wp2
 go_loopw [1, 5] (fun tk t wr => ∃ (k : Nat) (xs : List Value), k ≤ n ∧ t = .int .i64 k ∧ tk = .int .i64 ((k0 + 4 * k : Nat) : Int) ∧ Hid (wr.ownsRow base 76 4 (.slice a n c) n xs) ∧ Hid (∀ j, j < k * 4 → xs[j]? = (encV.cells (mkV k0 n))[j]?) ∧ Hid (w.grownBy wr (Value.slice a n c).ownBlock)) (fun _ t _ => n - (intOf t).toNat)
 case atStart => exact ⟨0, xs0, Nat.zero_le _, rfl, rfl, H, (fun j hj => by omega), grown_refl _ _⟩
 case round =>
  obtain ⟨k, xs, hk, rfl, rfl, HX, HA, HG⟩ := hrel
  by_cases hlt : k < n
  ·have hlt' : (k : Int) < (n : Int) := by omega
   have h0 : (0 : Int) ≤ (k : Int) := by omega
   obtain ⟨g, rfl, hbg, hgl⟩ := own_form HX.out (by omega)
   have hlen := HX.out.1
   obtain ⟨q, hq⟩ : ∃ q, q = k0 + 4 * k := ⟨_, rfl⟩
   have HQ : Hid (q = k0 + 4 * k) := hq
   rw [← hq]
   have hq0 : 0 < q := by omega
   have hq1 : q ≤ 900000000000000000 := by omega
   clear hq
   have W0 := hide HX.out
   have G0 : Hid (wr.grownBy wr (some g)) := grown_refl _ _
   go_wp2_with fail
   refine (mark87 q (by omega) (by omega) _).mono ?_
   rintro e w1 ⟨rfl, hbm⟩
   have V0 := hide (ownsBelow W0.out hbm)
   have F0 : Hid (wr.grownBy w1 (some g)) := grown_trans G0.out (grown_below _ hbm)
   have hgl0 : g < w1.heap.size := Nat.lt_of_lt_of_le hgl F0.out.size
   clear hbm
   have len0 : k * 4 < (xs).length := by omega
   have q0 : (w1).cell? ⟨g, k * 4, none⟩ = some ((xs)[k * 4]'len0) := by rw [World.ownsRow.cellAt V0.out (k * 4) (by omega)]; simp
   have f0 : (w1).frozen? ⟨g, k * 4, none⟩ = false := World.ownsRow.frozenAt V0.out (k * 4)
   have st0 := World.ownsRow.stored V0.out (k * 4) (.string (mkB q))
   have W1 := hide st0.1
   have G1 : Hid (wr.grownBy ((w1).setCell ⟨g, k * 4, none⟩ (.string (mkB q))) (some g)) := grown_trans F0.out st0.2
   clear st0
   have E1 : Hid ((q : Int) + 1 = ((q + 1 : Nat) : Int)) := by show _ = _; omega
   go_wp2_with fail
   rw [E1.out]
   refine (mark87 (q + 1) (by omega) (by omega) _).mono ?_
   rintro e w2 ⟨rfl, hbm⟩
   have V1 := hide (ownsBelow W1.out hbm)
   have F1 : Hid (wr.grownBy w2 (some g)) := grown_trans G1.out (grown_below _ hbm)
   have hgl1 : g < w2.heap.size := Nat.lt_of_lt_of_le hgl F1.out.size
   clear hbm
   have len1 : k * 4 + 1 < ((xs).set (k * 4) (.string (mkB q))).length := by simp only [List.length_set]; omega
   have q1 : (w2).cell? ⟨g, k * 4 + 1, none⟩ = some (((xs).set (k * 4) (.string (mkB q)))[k * 4 + 1]'len1) := by rw [World.ownsRow.cellAt V1.out (k * 4 + 1) (by omega)]; simp
   have f1 : (w2).frozen? ⟨g, k * 4 + 1, none⟩ = false := World.ownsRow.frozenAt V1.out (k * 4 + 1)
   have st1 := World.ownsRow.stored V1.out (k * 4 + 1) (.string (mkB (q + 1)))
   have W2 := hide st1.1
   have G2 : Hid (wr.grownBy ((w2).setCell ⟨g, k * 4 + 1, none⟩ (.string (mkB (q + 1)))) (some g)) := grown_trans F1.out st1.2
   clear st1
   have len2 : k * 4 + 2 < (((xs).set (k * 4) (.string (mkB q))).set (k * 4 + 1) (.string (mkB (q + 1)))).length := by simp only [List.length_set]; omega
   have q2 : ((w2).setCell ⟨g, k * 4 + 1, none⟩ (.string (mkB (q + 1)))).cell? ⟨g, k * 4 + 2, none⟩ = some ((((xs).set (k * 4) (.string (mkB q))).set (k * 4 + 1) (.string (mkB (q + 1))))[k * 4 + 2]'len2) := by rw [World.ownsRow.cellAt W2.out (k * 4 + 2) (by omega)]; simp
   have f2 : ((w2).setCell ⟨g, k * 4 + 1, none⟩ (.string (mkB (q + 1)))).frozen? ⟨g, k * 4 + 2, none⟩ = false := World.ownsRow.frozenAt W2.out (k * 4 + 2)
   have st2 := World.ownsRow.stored W2.out (k * 4 + 2) (.bool (goneQ q))
   have W3 := hide st2.1
   have G3 : Hid (wr.grownBy (((w2).setCell ⟨g, k * 4 + 1, none⟩ (.string (mkB (q + 1)))).setCell ⟨g, k * 4 + 2, none⟩ (.bool (goneQ q))) (some g)) := grown_trans G2.out st2.2
   clear st2
   have len3 : k * 4 + 3 < ((((xs).set (k * 4) (.string (mkB q))).set (k * 4 + 1) (.string (mkB (q + 1)))).set (k * 4 + 2) (.bool (goneQ q))).length := by simp only [List.length_set]; omega
   have q3 : (((w2).setCell ⟨g, k * 4 + 1, none⟩ (.string (mkB (q + 1)))).setCell ⟨g, k * 4 + 2, none⟩ (.bool (goneQ q))).cell? ⟨g, k * 4 + 3, none⟩ = some (((((xs).set (k * 4) (.string (mkB q))).set (k * 4 + 1) (.string (mkB (q + 1)))).set (k * 4 + 2) (.bool (goneQ q)))[k * 4 + 3]'len3) := by rw [World.ownsRow.cellAt W3.out (k * 4 + 3) (by omega)]; simp
   have f3 : (((w2).setCell ⟨g, k * 4 + 1, none⟩ (.string (mkB (q + 1)))).setCell ⟨g, k * 4 + 2, none⟩ (.bool (goneQ q))).frozen? ⟨g, k * 4 + 3, none⟩ = false := World.ownsRow.frozenAt W3.out (k * 4 + 3)
   have st3 := World.ownsRow.stored W3.out (k * 4 + 3) (.int .i64 ((q : Int) + 1 + 1 + 1))
   have W4 := hide st3.1
   have G4 : Hid (wr.grownBy ((((w2).setCell ⟨g, k * 4 + 1, none⟩ (.string (mkB (q + 1)))).setCell ⟨g, k * 4 + 2, none⟩ (.bool (goneQ q))).setCell ⟨g, k * 4 + 3, none⟩ (.int .i64 ((q : Int) + 1 + 1 + 1))) (some g)) := grown_trans G3.out st3.2
   clear st3
   have HA2 : Hid (∀ j, j < (k + 1) * 4 → (((((xs).set (k * 4) (.string (mkB q))).set (k * 4 + 1) (.string (mkB (q + 1)))).set (k * 4 + 2) (.bool (goneQ q))).set (k * 4 + 3) (.int .i64 ((q : Int) + 1 + 1 + 1)))[j]? = (encV.cells (mkV k0 n))[j]?) := fun j hj => by
    have ea := mkV_at k0 n k hlt
    rw [← HQ.out] at ea
    by_cases e0 : j = k * 4
    ·subst e0
     rw [List.getElem?_set_ne (by omega), List.getElem?_set_ne (by omega), List.getElem?_set_ne (by omega), List.getElem?_set_self len0]
     have := encV.cells_at (mkV k0 n) k (by rw [mkV_len]; exact hlt) 0 (by decide)
     rw [ea] at this
     simp only [encV, Nat.add_zero] at this ⊢
     rw [this]; rfl
    by_cases e1 : j = k * 4 + 1
    ·subst e1
     rw [List.getElem?_set_ne (by omega), List.getElem?_set_ne (by omega), List.getElem?_set_self len1]
     have := encV.cells_at (mkV k0 n) k (by rw [mkV_len]; exact hlt) 1 (by decide)
     rw [ea] at this
     simp only [encV] at this ⊢
     rw [this]; rfl
    by_cases e2 : j = k * 4 + 2
    ·subst e2
     rw [List.getElem?_set_ne (by omega), List.getElem?_set_self len2]
     have := encV.cells_at (mkV k0 n) k (by rw [mkV_len]; exact hlt) 2 (by decide)
     rw [ea] at this
     simp only [encV] at this ⊢
     rw [this]; rfl
    by_cases e3 : j = k * 4 + 3
    ·subst e3
     rw [List.getElem?_set_self len3]
     have := encV.cells_at (mkV k0 n) k (by rw [mkV_len]; exact hlt) 3 (by decide)
     rw [ea] at this
     simp only [encV] at this ⊢
     rw [this]; rfl
    rw [List.getElem?_set_ne (by omega), List.getElem?_set_ne (by omega), List.getElem?_set_ne (by omega), List.getElem?_set_ne (by omega)]
    exact HA.out j (by omega)
   have HN2 : Hid (((q + 4 : Nat) : Int) = ((k0 + 4 * (k + 1) : Nat) : Int)) := by show _ = _; have := HQ.out; omega
   have eg := goneQ_eq q
   have en : (q : Int) + 1 + 1 + 1 + 1 = ((q + 4 : Nat) : Int) := by omega
   go_wp2
   go_roundw
   case rel => exact ⟨k + 1, _, by omega, by go_num, by rw [← HN2.out]; go_num, W4, HA2, grown_trans HG.out G4.out⟩
   case measure => simp [intOf]; omega
  ·have hd : ¬ (k : Int) < (n : Int) := by omega
   have e : k = n := by omega
   have HE : Hid (GOwn encV 76 wr base (.slice a n c) (mkV k0 n)) := gown_ext (mkV_len _ _) HX.out (fun j hj => HA.out j (by have : encV.size = 4 := rfl; rw [this] at hj; omega))
   subst e
   go_wp2
   go_ret
   exact ⟨ret_int rfl, HE.out, HG.out⟩

end Go.Proofs.YtpnnncfbodfnhaaGreat

namespace Go.Proofs.YtpnnncfbodfnhaaGreat
open Go.RowKit
open KM
attribute [local go_sem ↓] Go.wp_at_zero Go.wp_at_succ

def mkR (k n : Nat) : List Rg := (List.range n).map fun j => (mkB (k + 2 * j), mkB ((k + 2 * j) + 1))
theorem mkR_len (k n : Nat) : (mkR k n).length = n := by simp [mkR]
theorem mkR_at (k n j : Nat) (h : j < n) : (mkR k n)[j]'(by rw [mkR_len]; exact h) = (mkB (k + 2 * j), mkB ((k + 2 * j) + 1)) := by simp [mkR]

def mkW (k n : Nat) : List Wt := (List.range n).map fun j => (mkB (k + 3 * j), mkB ((k + 3 * j) + 1), goneQ (k + 3 * j))
theorem mkW_len (k n : Nat) : (mkW k n).length = n := by simp [mkW]
theorem mkW_at (k n j : Nat) (h : j < n) : (mkW k n)[j]'(by rw [mkW_len]; exact h) = (mkB (k + 3 * j), mkB ((k + 3 * j) + 1), goneQ (k + 3 * j)) := by simp [mkW]

end Go.Proofs.YtpnnncfbodfnhaaGreat

/- What stays: a base and where its rows lie; what laws szBase, toBase and eqBase do. -/
import Derived.Test.YtmijppfppigjcaaGreatPd04
import Derived.Test.YtmijppfppigjcaaGreatPd03
import Derived.Lib.ItoaNum
import Derived.Lib.ItoaLen
namespace Go.Proofs.YtmijppfppigjcaaGreat
open Go.RowKit
open KM
attribute [local go_sem ↓] Go.wp_at_zero Go.wp_at_succ

structure Bb where
 vs : List Vr
 ps : List Ta
 qs : List Ta
 cs : Int
 nx : Int
 va : Option Addr
 vc : Nat
 pa : Option Addr
 pc : Nat
 qa : Option Addr
 qc : Nat
structure BRows (w : World) (b : Bb) : Prop where
 v : GRow encV w b.va b.vs
 p : TRows w b.pa b.ps
 q : TRows w b.qa b.qs
theorem BRows.below {w w' : World} {b : Bb} (h : BRows w b) (hb : Below w.heap.size w w') : BRows w' b := ⟨h.v.below hb, h.p.below hb, h.q.below hb⟩
structure BArg (w : World) (b : Bb) : Prop where
 vl : b.vs.length ≤ maxLen
 vf : ∀ x ∈ b.vs, x.1.size ≤ maxLen ∧ x.2.1.size ≤ maxLen
 v : GRow encV w b.va b.vs
 p : LArg w b.pa b.ps
 q : LArg w b.qa b.qs
theorem BArg.below {w w' : World} {b : Bb} (h : BArg w b) (hb : Below w.heap.size w w') : BArg w' b := ⟨h.vl, h.vf, h.v.below hb, h.p.below hb, h.q.below hb⟩
theorem BArg.rows {w : World} {b : Bb} (h : BArg w b) : BRows w b := ⟨h.v, h.p.rows, h.q.rows⟩
structure BFit (b : Bb) : Prop where
 vl : b.vs.length ≤ 1100000
 vf : VFit b.vs
 p : LFit (txs b.ps)
 q : LFit (txs b.qs)
theorem BFit.pl {b : Bb} (h : BFit b) : b.ps.length ≤ 1048576 := by have := h.p.1; rwa [txs_len] at this
theorem BFit.ql {b : Bb} (h : BFit b) : b.qs.length ≤ 1048576 := by have := h.q.1; rwa [txs_len] at this
structure BSame (b c : Bb) : Prop where
 v : c.vs = b.vs
 p : txs c.ps = txs b.ps
 q : txs c.qs = txs b.qs
 cs : c.cs = b.cs
 nx : c.nx = b.nx
theorem BSame.pl {b c : Bb} (h : BSame b c) : c.ps.length = b.ps.length := by rw [← txs_len, h.p, txs_len]
theorem BSame.ql {b c : Bb} (h : BSame b c) : c.qs.length = b.qs.length := by rw [← txs_len, h.q, txs_len]
theorem BSame.vl {b c : Bb} (h : BSame b c) : c.vs.length = b.vs.length := by rw [h.v]
theorem BSame.fit {b c : Bb} (h : BSame b c) (hf : BFit b) : BFit c := ⟨by rw [h.v]; exact hf.vl, by rw [h.v]; exact hf.vf, by rw [h.p]; exact hf.p, by rw [h.q]; exact hf.q⟩
theorem BSame.trans {b c d : Bb} (h : BSame b c) (k : BSame c d) : BSame b d := ⟨k.v.trans h.v, k.p.trans h.p, k.q.trans h.q, k.cs.trans h.cs, k.nx.trans h.nx⟩
theorem BSame.symm {b c : Bb} (h : BSame b c) : BSame c b := ⟨h.v.symm, h.p.symm, h.q.symm, h.cs.symm, h.nx.symm⟩

set_option maxRecDepth 100000 in
set_option maxHeartbeats 2000000 in
theorem szB (b : Bb) (L : Int) (h0 : 0 ≤ L) (h1 : L ≤ 1048576) (w : World) (hp : BArg w b) :
  Calls Tryz.prog 45 #[.agg #[.slice b.va b.vs.length b.vc, .slice b.pa b.ps.length b.pc, .slice b.qa b.qs.length b.qc, .int .i64 b.cs, .int .i64 b.nx], .int .i64 L] w fun e w' => Below w.heap.size w w' ∧ ∃ r : Int, e = .returned (.int .i64 r) ∧ r ≤ 1048576 ∧ (0 ≤ r → BFit b) := by
 have HP : Hid (BArg w b) := hp
 clear hp
 have BX0 : Hid (Bx (w.alloc (.cells #[.slice b.va b.vs.length b.vc, .slice b.pa b.ps.length b.pc, .slice b.qa b.qs.length b.qc, .int .i64 b.cs, .int .i64 b.nx] 25)) w.heap.size [.slice b.va b.vs.length b.vc, .slice b.pa b.ps.length b.pc, .slice b.qa b.qs.length b.qc, .int .i64 b.cs, .int .i64 b.nx]) := Bx.new w [.slice b.va b.vs.length b.vc, .slice b.pa b.ps.length b.pc, .slice b.qa b.qs.length b.qc, .int .i64 b.cs, .int .i64 b.nx] 25
 have HB0 : Hid (Below w.heap.size w (w.alloc (.cells #[.slice b.va b.vs.length b.vc, .slice b.pa b.ps.length b.pc, .slice b.qa b.qs.length b.qc, .int .i64 b.cs, .int .i64 b.nx] 25))) := (belowRefl w).alloc (Nat.le_refl _) _
 go_enter Tryz.func45, Tryz.ntmps45
 go_wp2_with fail
 refine (szSV b.vs b.va b.vc HP.out.vl HP.out.vf L h0 h1 _ (HP.out.v.below HB0.out)).mono ?_
 rintro e w1 ⟨hb1, r0, rfl, hu0, hr0⟩
 have HR0 : Hid (0 ≤ r0 → b.vs.length ≤ 1048576 ∧ VFit b.vs) := hr0
 have HB1 : Hid (Below w.heap.size w w1) := HB0.out.trans (hb1.mono HB0.out.size)
 have BX1 : Hid (Bx w1 w.heap.size [.slice b.va b.vs.length b.vc, .slice b.pa b.ps.length b.pc, .slice b.qa b.qs.length b.qc, .int .i64 b.cs, .int .i64 b.nx]) := BX0.out.below hb1
 clear hb1 hr0
 by_cases hn0 : r0 < 0
 ·go_wp2
  go_ret
  exact ⟨HB1.out, -1, rfl, by omega, fun h => by omega⟩
 have x1 := BX1.out.c1
 go_wp2_with fail
 refine (szL b.ps b.pa b.pc r0 (by omega) hu0 _ (HP.out.p.below HB1.out)).mono ?_
 rintro e w2 ⟨hb2, r1, rfl, hu1, hr1⟩
 have HR1 : Hid (0 ≤ r1 → LFit (txs b.ps)) := hr1
 have HB2 : Hid (Below w.heap.size w w2) := HB1.out.trans (hb2.mono HB1.out.size)
 have BX2 : Hid (Bx w2 w.heap.size [.slice b.va b.vs.length b.vc, .slice b.pa b.ps.length b.pc, .slice b.qa b.qs.length b.qc, .int .i64 b.cs, .int .i64 b.nx]) := BX1.out.below hb2
 clear hb2 hr1 x1
 by_cases hn1 : r1 < 0
 ·go_wp2
  go_ret
  exact ⟨HB2.out, -1, rfl, by omega, fun h => by omega⟩
 have x2 := BX2.out.c2
 go_wp2_with fail
 refine (szL b.qs b.qa b.qc r1 (by omega) hu1 _ (HP.out.q.below HB2.out)).mono ?_
 rintro e w3 ⟨hb3, r2, rfl, hu2, hr2⟩
 have HR2 : Hid (0 ≤ r2 → LFit (txs b.qs)) := hr2
 have HB3 : Hid (Below w.heap.size w w3) := HB2.out.trans (hb3.mono HB2.out.size)
 clear hb3 hr2 x2
 by_cases hn2 : r2 < 0
 ·go_wp2
  go_ret
  exact ⟨HB3.out, -1, rfl, by omega, fun h => by omega⟩
 have HT : Hid (BFit b) := ⟨Nat.le_trans (HR0.out (by omega)).1 (by omega), (HR0.out (by omega)).2, HR1.out (by omega), HR2.out (by omega)⟩
 go_wp2
 go_ret
 exact ⟨HB3.out, _, rfl, hu2, fun _ => HT.out⟩

set_option maxRecDepth 100000 in
set_option maxHeartbeats 2000000 in
theorem eqB0 (b c : Bb) (hs : BSame b c) (hf : BFit b) (w : World) (hp : BRows w b) (hq : BRows w c) :
  Calls Tryz.prog 73 #[.agg #[.slice b.va b.vs.length b.vc, .slice b.pa b.ps.length b.pc, .slice b.qa b.qs.length b.qc, .int .i64 b.cs, .int .i64 b.nx], .agg #[.slice c.va b.vs.length c.vc, .slice c.pa b.ps.length c.pc, .slice c.qa b.qs.length c.qc, .int .i64 b.cs, .int .i64 b.nx]] w fun e w' => e = .returned (.bool true) ∧ Below w.heap.size w w' := by
 have HP : Hid (BRows w b) := hp
 have HQ : Hid (BRows w c) := hq
 have HS : Hid (BSame b c) := hs
 have HF : Hid (BFit b) := hf
 clear hp hq hs hf
 have n3 := ne_self_int b.cs
 have n4 := ne_self_int b.nx
 have BA0 : Hid (Bx ((w.alloc (.cells #[.slice b.va b.vs.length b.vc, .slice b.pa b.ps.length b.pc, .slice b.qa b.qs.length b.qc, .int .i64 b.cs, .int .i64 b.nx] 42)).alloc (.cells #[.slice c.va b.vs.length c.vc, .slice c.pa b.ps.length c.pc, .slice c.qa b.qs.length c.qc, .int .i64 b.cs, .int .i64 b.nx] 42)) w.heap.size [.slice b.va b.vs.length b.vc, .slice b.pa b.ps.length b.pc, .slice b.qa b.qs.length b.qc, .int .i64 b.cs, .int .i64 b.nx]) := (Bx.new w [.slice b.va b.vs.length b.vc, .slice b.pa b.ps.length b.pc, .slice b.qa b.qs.length b.qc, .int .i64 b.cs, .int .i64 b.nx] 42).alloc _
 have BB0 : Hid (Bx ((w.alloc (.cells #[.slice b.va b.vs.length b.vc, .slice b.pa b.ps.length b.pc, .slice b.qa b.qs.length b.qc, .int .i64 b.cs, .int .i64 b.nx] 42)).alloc (.cells #[.slice c.va b.vs.length c.vc, .slice c.pa b.ps.length c.pc, .slice c.qa b.qs.length c.qc, .int .i64 b.cs, .int .i64 b.nx] 42)) (w.heap.size + 1) [.slice c.va b.vs.length c.vc, .slice c.pa b.ps.length c.pc, .slice c.qa b.qs.length c.qc, .int .i64 b.cs, .int .i64 b.nx]) := by
  have h := Bx.new (w.alloc (.cells #[.slice b.va b.vs.length b.vc, .slice b.pa b.ps.length b.pc, .slice b.qa b.qs.length b.qc, .int .i64 b.cs, .int .i64 b.nx] 42)) [.slice c.va b.vs.length c.vc, .slice c.pa b.ps.length c.pc, .slice c.qa b.qs.length c.qc, .int .i64 b.cs, .int .i64 b.nx] 42
  rw [show (w.alloc (.cells #[.slice b.va b.vs.length b.vc, .slice b.pa b.ps.length b.pc, .slice b.qa b.qs.length b.qc, .int .i64 b.cs, .int .i64 b.nx] 42)).heap.size = w.heap.size + 1 by simp] at h
  exact h
 have HB0 : Hid (Below w.heap.size w ((w.alloc (.cells #[.slice b.va b.vs.length b.vc, .slice b.pa b.ps.length b.pc, .slice b.qa b.qs.length b.qc, .int .i64 b.cs, .int .i64 b.nx] 42)).alloc (.cells #[.slice c.va b.vs.length c.vc, .slice c.pa b.ps.length c.pc, .slice c.qa b.qs.length c.qc, .int .i64 b.cs, .int .i64 b.nx] 42))) := ((belowRefl w).alloc (Nat.le_refl _) _).alloc (by simp) _
 have CV : Hid (∀ W : World, Below w.heap.size w W → Calls Tryz.prog 112 #[.slice b.va b.vs.length b.vc, .slice c.va b.vs.length c.vc] W fun e w' => e = .returned (.bool true) ∧ Below W.heap.size W w') := fun W h => eqSV b.va c.va b.vc c.vc b.vs (Nat.le_trans HF.out.vl (by omega)) W (HP.out.v.below h) (by have k := HQ.out.v.below h; rw [HS.out.v] at k; exact k)
 have CP : Hid (∀ W : World, Below w.heap.size w W → Calls Tryz.prog 20 #[.slice b.pa b.ps.length b.pc, .slice c.pa b.ps.length c.pc] W fun e w' => e = .returned (.bool true) ∧ Below W.heap.size W w') := fun W h => eqL b.ps c.ps b.pa c.pa b.pc c.pc b.ps.length rfl HS.out.pl.symm (Nat.le_trans HF.out.pl (by omega)) HS.out.p.symm HF.out.p W (HP.out.p.below h) (HQ.out.p.below h)
 have CQ : Hid (∀ W : World, Below w.heap.size w W → Calls Tryz.prog 20 #[.slice b.qa b.qs.length b.qc, .slice c.qa b.qs.length c.qc] W fun e w' => e = .returned (.bool true) ∧ Below W.heap.size W w') := fun W h => eqL b.qs c.qs b.qa c.qa b.qc c.qc b.qs.length rfl HS.out.ql.symm (Nat.le_trans HF.out.ql (by omega)) HS.out.q.symm HF.out.q W (HP.out.q.below h) (HQ.out.q.below h)
 clear HP HQ HS HF
 go_enter Tryz.func73, Tryz.ntmps73
 go_wp2_with fail
 refine (CV.out _ HB0.out).mono ?_
 rintro e w1 ⟨rfl, hb1⟩
 have BA1 : Hid (Bx w1 w.heap.size [.slice b.va b.vs.length b.vc, .slice b.pa b.ps.length b.pc, .slice b.qa b.qs.length b.qc, .int .i64 b.cs, .int .i64 b.nx]) := BA0.out.below hb1
 have BB1 : Hid (Bx w1 (w.heap.size + 1) [.slice c.va b.vs.length c.vc, .slice c.pa b.ps.length c.pc, .slice c.qa b.qs.length c.qc, .int .i64 b.cs, .int .i64 b.nx]) := BB0.out.below hb1
 have HB1 : Hid (Below w.heap.size w w1) := HB0.out.trans (hb1.mono HB0.out.size)
 clear hb1 BA0 BB0 HB0
 have x1 := BA1.out.c1
 have y1 := BB1.out.c1
 go_wp2_with fail
 refine (CP.out _ HB1.out).mono ?_
 rintro e w2 ⟨rfl, hb2⟩
 have BA2 : Hid (Bx w2 w.heap.size [.slice b.va b.vs.length b.vc, .slice b.pa b.ps.length b.pc, .slice b.qa b.qs.length b.qc, .int .i64 b.cs, .int .i64 b.nx]) := BA1.out.below hb2
 have BB2 : Hid (Bx w2 (w.heap.size + 1) [.slice c.va b.vs.length c.vc, .slice c.pa b.ps.length c.pc, .slice c.qa b.qs.length c.qc, .int .i64 b.cs, .int .i64 b.nx]) := BB1.out.below hb2
 have HB2 : Hid (Below w.heap.size w w2) := HB1.out.trans (hb2.mono HB1.out.size)
 clear hb2 BA1 BB1 HB1 x1 y1
 have x2 := BA2.out.c2
 have y2 := BB2.out.c2
 go_wp2_with fail
 refine (CQ.out _ HB2.out).mono ?_
 rintro e w3 ⟨rfl, hb3⟩
 have BA3 : Hid (Bx w3 w.heap.size [.slice b.va b.vs.length b.vc, .slice b.pa b.ps.length b.pc, .slice b.qa b.qs.length b.qc, .int .i64 b.cs, .int .i64 b.nx]) := BA2.out.below hb3
 have BB3 : Hid (Bx w3 (w.heap.size + 1) [.slice c.va b.vs.length c.vc, .slice c.pa b.ps.length c.pc, .slice c.qa b.qs.length c.qc, .int .i64 b.cs, .int .i64 b.nx]) := BB2.out.below hb3
 have HB3 : Hid (Below w.heap.size w w3) := HB2.out.trans (hb3.mono HB2.out.size)
 clear hb3 BA2 BB2 HB2 x2 y2
 have x3 := BA3.out.c3
 have y3 := BB3.out.c3
 have x4 := BA3.out.c4
 have y4 := BB3.out.c4
 go_wp2
 go_ret
 exact ⟨rfl, HB3.out⟩

end Go.Proofs.YtmijppfppigjcaaGreat

namespace Go.Proofs.YtmijppfppigjcaaGreat
open Go.RowKit
open KM
attribute [local go_sem ↓] Go.wp_at_zero Go.wp_at_succ

end Go.Proofs.YtmijppfppigjcaaGreat

namespace Go.Proofs.YtmijppfppigjcaaGreat
open Go.RowKit
open KM
attribute [local go_sem ↓] Go.wp_at_zero Go.wp_at_succ
end Go.Proofs.YtmijppfppigjcaaGreat

namespace Go.Proofs.YtmijppfppigjcaaGreat
open Go.RowKit
open KM
attribute [local go_sem ↓] Go.wp_at_zero Go.wp_at_succ

end Go.Proofs.YtmijppfppigjcaaGreat

namespace Go.Proofs.YtmijppfppigjcaaGreat
open Go.RowKit
open KM
attribute [local go_sem ↓] Go.wp_at_zero Go.wp_at_succ

structure Zn (lo hi : Nat) (w w' : World) : Prop where
 os : w'.os = w.os
 tape : w'.tape = w.tape
 output : w'.output = w.output
 size : w.heap.size ≤ w'.heap.size
 block : ∀ j, j < w.heap.size → (j < lo ∨ hi ≤ j) → w'.heap[j]? = w.heap[j]?
theorem Zn.trans {lo hi : Nat} {a b c : World} (h : Zn lo hi a b) (k : Zn lo hi b c) : Zn lo hi a c :=
 ⟨k.os.trans h.os, k.tape.trans h.tape, k.output.trans h.output, Nat.le_trans h.size k.size, fun j hj hn => (k.block j (Nat.lt_of_lt_of_le hj h.size) hn).trans (h.block j hj hn)⟩
theorem Zn.ofBelow (lo hi : Nat) {w w' : World} (h : Below w.heap.size w w') : Zn lo hi w w' := ⟨h.os, h.tape, h.output, h.size, fun j hj _ => h.block j hj⟩
theorem Zn.ofGrown {lo hi : Nat} {w w' : World} {row : Option Nat} (h : w.grownBy w' row) (hr : ∀ g, row = some g → lo ≤ g ∧ g < hi) : Zn lo hi w w' :=
 ⟨h.os, h.tape, h.output, h.size, fun j hj hn => h.block j hj (fun e => by have := hr j e.symm; omega)⟩
theorem Zn.below {lo hi base : Nat} {w w' : World} (h : Zn lo hi w w') (hb : base ≤ lo) (hs : base ≤ w.heap.size) : Below base w w' :=
 ⟨h.os, h.tape, h.output, h.size, fun j hj => h.block j (by omega) (Or.inl (by omega))⟩
theorem Bx.zn {lo hi b : Nat} {w w' : World} {cs : List Value} (h : Bx w b cs) (hg : Zn lo hi w w') (hne : b < lo ∨ hi ≤ b) : Bx w' b cs := by
 have hb := hg.block b h.lt hne
 refine ⟨Nat.lt_of_lt_of_le h.lt hg.size, fun j hj => (World.cell?_of_block (w := w) (a := ⟨b, j, none⟩) hb).trans (h.at' j hj), fun j => ?_⟩
 have := h.fz j
 unfold World.frozen? at this ⊢
 simp only at this ⊢
 rw [hb]; exact this
theorem Lies.zn {α : Type} {E : Enc α} {e : TypeId} {w w' : World} {l h' lo hi : Nat} {v : Value} {xs : List α} (h : Lies E e w l h' v xs) (hz : Zn lo hi w w') (hne : h' ≤ lo ∨ hi ≤ l) : Lies E e w' l h' v xs := by
 refine ⟨?_, h.up⟩
 obtain ⟨h1, h2⟩ := h.own
 refine ⟨h1, ?_⟩
 rcases h2 with h2 | ⟨g, cap, cur, hv, hg', hh, r⟩
 ·exact Or.inl h2
 ·refine Or.inr ⟨g, cap, cur, hv, hg', ?_, r⟩
  have hlt : g < w.heap.size := (Array.getElem?_eq_some_iff.1 hh).1
  have hup := h.up g (by rw [hv]; rfl)
  rw [hz.block g hlt (by omega)]
  exact hh
theorem TLie.zn {w w' : World} {l h' lo hi : Nat} {t : Tx} {ra wa : Option Addr} {rc wc : Nat} (h : TLie w l h' t ra rc wa wc) (hz : Zn lo hi w w') (hne : h' ≤ lo ∨ hi ≤ l) : TLie w' l h' t ra rc wa wc := by
 obtain ⟨m, p, q, h1, h2⟩ := h.ex
 exact ⟨m, p, q, h1.zn hz (by omega), h2.zn hz (by omega)⟩
end Go.Proofs.YtmijppfppigjcaaGreat

namespace Go.Proofs.YtmijppfppigjcaaGreat
open Go.RowKit
open KM
attribute [local go_sem ↓] Go.wp_at_zero Go.wp_at_succ

def Av (v : Value) (p q : Nat) : Prop := ∀ g, v.ownBlock = some g → g < p ∨ q ≤ g
def Zs (w : World) (v : Value) : Nat → Nat → List Ta → Prop
 | lo, hi, [] => lo ≤ hi
 | lo, hi, y :: ys => ∃ p q, lo ≤ p ∧ p ≤ q ∧ TLie w p q y.t y.ra y.rc y.wa y.wc ∧ Av v p q ∧ Zs w v q hi ys
theorem Zs.le {w : World} {v : Value} : ∀ {ys : List Ta} {lo hi : Nat}, Zs w v lo hi ys → lo ≤ hi
 | [], _, _, h => h
 | _ :: _, _, _, ⟨_, _, h1, h2, _, _, h5⟩ => Nat.le_trans (Nat.le_trans h1 h2) h5.le
theorem Zs.below {w w' : World} {v : Value} (hb : Below w.heap.size w w') : ∀ {ys : List Ta} {lo hi : Nat}, Zs w v lo hi ys → Zs w' v lo hi ys
 | [], _, _, h => h
 | _ :: _, _, _, ⟨p, q, h1, h2, h3, h4, h5⟩ => ⟨p, q, h1, h2, h3.below hb, h4, h5.below hb⟩
theorem Zs.set {w : World} {v : Value} {a : Addr} (u : Value) : ∀ {ys : List Ta} {lo hi : Nat}, Zs w v lo hi ys → a.block < lo → Zs (w.setCell a u) v lo hi ys
 | [], _, _, h, _ => h
 | _ :: _, _, _, ⟨p, q, h1, h2, h3, h4, h5⟩, ha => ⟨p, q, h1, h2, h3.set (Nat.lt_of_lt_of_le ha h1) u, h4, h5.set u (by omega)⟩
theorem Zs.mono {w : World} {v : Value} : ∀ {ys : List Ta} {lo hi lo' hi' : Nat}, Zs w v lo hi ys → lo' ≤ lo → hi ≤ hi' → Zs w v lo' hi' ys
 | [], _, _, _, _, h, h1, h2 => Nat.le_trans h1 (Nat.le_trans h h2)
 | _ :: _, _, _, _, _, ⟨p, q, h1, h2, h3, h4, h5⟩, k1, k2 => ⟨p, q, Nat.le_trans k1 h1, h2, h3, h4, h5.mono (Nat.le_refl _) k2⟩
theorem Zs.snoc {w : World} {v : Value} {p q m hi : Nat} {y : Ta} (hm : m ≤ p) (hpq : p ≤ q) (hq : q ≤ hi) (hl : TLie w p q y.t y.ra y.rc y.wa y.wc) (ha : Av v p q) : ∀ {ys : List Ta} {lo : Nat}, Zs w v lo m ys → Zs w v lo hi (ys ++ [y])
 | [], _, h => ⟨p, q, Nat.le_trans h hm, hpq, hl, ha, hq⟩
 | _ :: _, _, ⟨p', q', h1, h2, h3, h4, h5⟩ => ⟨p', q', h1, h2, h3, h4, h5.snoc hm hpq hq hl ha⟩
theorem Zs.each {w : World} {v : Value} : ∀ {ys : List Ta} {lo hi : Nat}, Zs w v lo hi ys → ∀ y ∈ ys, TRow w y.t y.ra y.wa
 | [], _, _, _, _, hy => by cases hy
 | _ :: _, _, _, ⟨_, _, _, _, h3, _, h5⟩, y, hy => by
  rcases List.mem_cons.1 hy with rfl | hy
  ·exact h3.row
  ·exact h5.each y hy
theorem Zs.zn {w w' : World} {v : Value} {l h : Nat} (hz : Zn l h w w') : ∀ {ys : List Ta} {lo hi : Nat}, Zs w v lo hi ys → (hi ≤ l ∨ h ≤ lo) → Zs w' v lo hi ys
 | [], _, _, k, _ => k
 | _ :: _, lo, hi, ⟨p, q, h1, h2, h3, h4, h5⟩, k => ⟨p, q, h1, h2, h3.zn hz (by have := h5.le; omega), h4, h5.zn hz (by omega)⟩
theorem Zs.av {w : World} {v v' : Value} : ∀ {ys : List Ta} {lo hi : Nat}, Zs w v lo hi ys → (∀ p q, lo ≤ p → q ≤ hi → Av v p q → Av v' p q) → Zs w v' lo hi ys
 | [], _, _, h, _ => h
 | _ :: _, _, _, ⟨p, q, h1, h2, h3, h4, h5⟩, k => ⟨p, q, h1, h2, h3, k p q h1 h5.le h4, h5.av (fun a b ha hb => k a b (by omega) hb)⟩
theorem Zs.filter {w : World} {v : Value} (f : Ta → Bool) : ∀ {ys : List Ta} {lo hi : Nat}, Zs w v lo hi ys → Zs w v lo hi (ys.filter f)
 | [], _, _, h => h
 | y :: ys, _, _, ⟨p, q, h1, h2, h3, h4, h5⟩ => by
  rw [List.filter_cons]
  split
  ·exact ⟨p, q, h1, h2, h3, h4, h5.filter f⟩
  ·exact (h5.filter f).mono (by omega) (Nat.le_refl _)
structure LLie (w : World) (lo hi : Nat) (v : Value) (ys : List Ta) : Prop where
 own : Lies encT 62 w lo hi v ys
 zs : Zs w v lo hi ys
theorem LLie.below {w w' : World} {lo hi : Nat} {v : Value} {ys : List Ta} (h : LLie w lo hi v ys) (hb : Below w.heap.size w w') : LLie w' lo hi v ys := ⟨h.own.below hb, h.zs.below hb⟩
theorem LLie.mono {w : World} {lo hi lo' hi' : Nat} {v : Value} {ys : List Ta} (h : LLie w lo hi v ys) (h1 : lo' ≤ lo) (h2 : hi ≤ hi') : LLie w lo' hi' v ys := ⟨h.own.mono h1 h2, h.zs.mono h1 h2⟩
theorem LLie.zn {w w' : World} {lo hi l h : Nat} {v : Value} {ys : List Ta} (k : LLie w lo hi v ys) (hz : Zn l h w w') (hne : hi ≤ l ∨ h ≤ lo) : LLie w' lo hi v ys := ⟨k.own.zn hz hne, k.zs.zn hz hne⟩
theorem LLie.set {w : World} {lo hi : Nat} {v : Value} {ys : List Ta} (h : LLie w lo hi v ys) {a : Addr} (ha : a.block < lo) (u : Value) : LLie (w.setCell a u) lo hi v ys := ⟨h.own.set ha u, h.zs.set u ha⟩
theorem LLie.rows {w : World} {lo hi c : Nat} {a : Option Addr} {ys : List Ta} (h : LLie w lo hi (.slice a ys.length c) ys) : TRows w a ys := ⟨h.own.own.grow, h.zs.each⟩

set_option maxRecDepth 100000 in
set_option maxHeartbeats 2000000 in
theorem toL2 (xs : List Ta) (a : Option Addr) (c : Nat) (hn : xs.length ≤ 100000000) (hf : LFit (txs xs)) (w : World) (hp : TRows w a xs) :
  Calls Tryz.prog 15 #[.slice a xs.length c] w fun e w' => ∃ (ys : List Ta) (a1 : Option Addr) (c1 : Nat), e = .returned (.slice a1 xs.length c1) ∧ txs ys = txs xs ∧ ys.length = xs.length ∧ LLie w' w.heap.size w'.heap.size (.slice a1 ys.length c1) ys ∧ Below w.heap.size w w' := by
 have HP : Hid (TRows w a xs) := hp
 have HF : Hid (LFit (txs xs)) := hf
 clear hp hf
 have hmk := mkRow8 40 62 8 _ _ Tryz.underlying40 Tryz.info62 xs.length hn (by omega)
 go_enter Tryz.func15, Tryz.ntmps15
 go_wp2
 clear hmk
 obtain ⟨cs0, hcs0⟩ : ∃ cs, cs = madeCells (Value.agg #[.int .i64 0, .int .i64 0, .int .i64 0, .int .i64 0, .slice none 0 0, .slice none 0 0, .bool false, .string ByteArray.empty]).cells (xs.length * 8) := ⟨_, rfl⟩
 have HO : Hid ((w.alloc (.cells cs0 62)).ownsRow w.heap.size 62 8 (.slice (some ⟨w.heap.size, 0, none⟩) xs.length xs.length) xs.length cs0.toList) :=
  World.ownsRow_lit w _ _ (Nat.le_refl _) (by unfold maxLen; omega) (by rw [hcs0, size_madeCells])
 rw [hcs0] at HO
 clear hcs0 cs0
 go_loopw [4] (fun t wr => ∃ (k : Nat) (cs : List Value) (ys : List Ta), k ≤ xs.length ∧ t = .int .i64 k ∧ Hid (ys.length = k) ∧ Hid (txs ys = (txs xs).take k) ∧ Hid (wr.ownsRow w.heap.size 62 8 (.slice (some ⟨w.heap.size, 0, none⟩) xs.length xs.length) xs.length cs) ∧ Hid (∀ j, j < k * 8 → cs[j]? = (encT.cells ys)[j]?) ∧ Hid (Zs wr (.slice (some ⟨w.heap.size, 0, none⟩) xs.length xs.length) (w.heap.size + 1) wr.heap.size ys) ∧ Hid (Below w.heap.size w wr)) (fun t _ => xs.length - (intOf t).toNat)
 case atStart => exact ⟨0, _, [], Nat.zero_le _, rfl, rfl, rfl, HO, (fun j hj => by omega), (show _ ≤ _ by simp), (belowRefl w).alloc (Nat.le_refl _) _⟩
 case round =>
  obtain ⟨k, cs, ys, hk, rfl, HYL, HYT, HX, HA, HY, HB⟩ := hrel
  by_cases hlt : k < xs.length
  ·have hlt' : (k : Int) < (xs.length : Int) := by omega
   have h0 : (0 : Int) ≤ (k : Int) := by omega
   obtain ⟨b, off, rfl, hbl, hc, ht⟩ := (HP.out.below HB.out).cls k hlt
   have hfx : TFit xs[k].t := HF.out.2 _ (List.mem_map.2 ⟨_, List.getElem_mem hlt, rfl⟩)
   obtain ⟨x, hx⟩ : ∃ x, x = xs[k] := ⟨_, rfl⟩
   rw [← hx] at hc ht hfx
   have HXX : Hid (x = xs[k]) := hx
   have HT : Hid (TRow wr x.t x.ra x.wa) := ht
   clear hx ht
   have r0 := hc.c0
   have r1 := hc.c1
   have r2 := hc.c2
   have r3 := hc.c3
   have r4 := hc.c4
   have r5 := hc.c5
   have r6 := hc.c6
   have r7 := hc.c7
   clear hc
   have hgl : w.heap.size < wr.heap.size := (World.ownsRow.lt HX.out _ rfl).2
   go_wp2_with fail
   refine (toT x.t x.ra x.wa x.rc x.wc (Nat.le_trans hfx.1 (by omega)) (Nat.le_trans hfx.2.2.1 (by omega)) _ HT.out).mono ?_
   rintro e w2 ⟨pa, pc, qa, qc, rfl, hl, hb2⟩
   have HL : Hid (TLie w2 wr.heap.size w2.heap.size x.t pa pc qa qc) := hl
   have HZ2 : Hid (wr.heap.size ≤ w2.heap.size) := hb2.size
   have HX0 : Hid (w2.ownsRow w.heap.size 62 8 (.slice (some ⟨w.heap.size, 0, none⟩) xs.length xs.length) xs.length cs) := ownsBelow HX.out hb2
   have HB2 : Hid (Below w.heap.size w w2) := HB.out.trans (hb2.mono HB.out.size)
   have HY2 : Hid (Zs w2 (.slice (some ⟨w.heap.size, 0, none⟩) xs.length xs.length) (w.heap.size + 1) wr.heap.size ys) := HY.out.below hb2
   clear r0 r1 r2 r3 r4 r5 r6 r7 hb2 hl hfx
   have hlen := HX0.out.1
   have hq0 : w2.cell? ⟨w.heap.size, k * 8, none⟩ = some (cs[k * 8]'(by omega)) := by
    rw [World.ownsRow.cellAt HX0.out (k * 8) (by omega)]; simp
   have hf0 := World.ownsRow.frozenAt HX0.out (k * 8)
   have hq1 : w2.cell? ⟨w.heap.size, k * 8 + 1, none⟩ = some (cs[k * 8 + 1]'(by omega)) := by
    rw [World.ownsRow.cellAt HX0.out (k * 8 + 1) (by omega)]; simp
   have hf1 := World.ownsRow.frozenAt HX0.out (k * 8 + 1)
   have hq2 : w2.cell? ⟨w.heap.size, k * 8 + 2, none⟩ = some (cs[k * 8 + 2]'(by omega)) := by
    rw [World.ownsRow.cellAt HX0.out (k * 8 + 2) (by omega)]; simp
   have hf2 := World.ownsRow.frozenAt HX0.out (k * 8 + 2)
   have hq3 : w2.cell? ⟨w.heap.size, k * 8 + 3, none⟩ = some (cs[k * 8 + 3]'(by omega)) := by
    rw [World.ownsRow.cellAt HX0.out (k * 8 + 3) (by omega)]; simp
   have hf3 := World.ownsRow.frozenAt HX0.out (k * 8 + 3)
   have hq4 : w2.cell? ⟨w.heap.size, k * 8 + 4, none⟩ = some (cs[k * 8 + 4]'(by omega)) := by
    rw [World.ownsRow.cellAt HX0.out (k * 8 + 4) (by omega)]; simp
   have hf4 := World.ownsRow.frozenAt HX0.out (k * 8 + 4)
   have hq5 : w2.cell? ⟨w.heap.size, k * 8 + 5, none⟩ = some (cs[k * 8 + 5]'(by omega)) := by
    rw [World.ownsRow.cellAt HX0.out (k * 8 + 5) (by omega)]; simp
   have hf5 := World.ownsRow.frozenAt HX0.out (k * 8 + 5)
   have hq6 : w2.cell? ⟨w.heap.size, k * 8 + 6, none⟩ = some (cs[k * 8 + 6]'(by omega)) := by
    rw [World.ownsRow.cellAt HX0.out (k * 8 + 6) (by omega)]; simp
   have hf6 := World.ownsRow.frozenAt HX0.out (k * 8 + 6)
   have hq7 : w2.cell? ⟨w.heap.size, k * 8 + 7, none⟩ = some (cs[k * 8 + 7]'(by omega)) := by
    rw [World.ownsRow.cellAt HX0.out (k * 8 + 7) (by omega)]; simp
   have hf7 := World.ownsRow.frozenAt HX0.out (k * 8 + 7)
   have hx2 := ((World.ownsRow.stored (World.ownsRow.stored (World.ownsRow.stored (World.ownsRow.stored (World.ownsRow.stored (World.ownsRow.stored (World.ownsRow.stored (World.ownsRow.stored HX0.out (k * 8) (.int .i64 x.t.id)).1 (k * 8 + 1) (.int .i64 x.t.st)).1 (k * 8 + 2) (.int .i64 x.t.snap)).1 (k * 8 + 3) (.int .i64 x.t.cs)).1 (k * 8 + 4) (.slice pa x.t.rs.length pc)).1 (k * 8 + 5) (.slice qa x.t.ws.length qc)).1 (k * 8 + 6) (.bool x.t.out)).1 (k * 8 + 7) (.string x.t.nm))).1
   have HX3 : Hid _ := hx2
   clear hx2
   have HA2 : Hid (∀ j, j < (k + 1) * 8 → (((((((((cs.set (k * 8) (.int .i64 x.t.id)).set (k * 8 + 1) (.int .i64 x.t.st)).set (k * 8 + 2) (.int .i64 x.t.snap)).set (k * 8 + 3) (.int .i64 x.t.cs)).set (k * 8 + 4) (.slice pa x.t.rs.length pc)).set (k * 8 + 5) (.slice qa x.t.ws.length qc)).set (k * 8 + 6) (.bool x.t.out)).set (k * 8 + 7) (.string x.t.nm)))[j]? = (encT.cells (ys ++ [⟨x.t, pa, pc, qa, qc⟩]))[j]?) := fun j hj => by
    have hyl : ys.length = k := HYL.out
    by_cases e0 : j = k * 8
    ·subst e0
     rw [List.getElem?_set_ne (by omega), List.getElem?_set_ne (by omega), List.getElem?_set_ne (by omega), List.getElem?_set_ne (by omega), List.getElem?_set_ne (by omega), List.getElem?_set_ne (by omega), List.getElem?_set_ne (by omega), List.getElem?_set_self (by omega)]
     have := encT.cells_at (ys ++ [⟨x.t, pa, pc, qa, qc⟩]) k (by simp; omega) 0 (by decide)
     simp only [encT, Nat.add_zero] at this ⊢
     rw [this]; simp [hyl.symm]
    by_cases e1 : j = k * 8 + 1
    ·subst e1
     rw [List.getElem?_set_ne (by omega), List.getElem?_set_ne (by omega), List.getElem?_set_ne (by omega), List.getElem?_set_ne (by omega), List.getElem?_set_ne (by omega), List.getElem?_set_ne (by omega), List.getElem?_set_self (by simp; omega)]
     have := encT.cells_at (ys ++ [⟨x.t, pa, pc, qa, qc⟩]) k (by simp; omega) 1 (by decide)
     simp only [encT] at this ⊢
     rw [this]; simp [hyl.symm]
    by_cases e2 : j = k * 8 + 2
    ·subst e2
     rw [List.getElem?_set_ne (by omega), List.getElem?_set_ne (by omega), List.getElem?_set_ne (by omega), List.getElem?_set_ne (by omega), List.getElem?_set_ne (by omega), List.getElem?_set_self (by simp; omega)]
     have := encT.cells_at (ys ++ [⟨x.t, pa, pc, qa, qc⟩]) k (by simp; omega) 2 (by decide)
     simp only [encT] at this ⊢
     rw [this]; simp [hyl.symm]
    by_cases e3 : j = k * 8 + 3
    ·subst e3
     rw [List.getElem?_set_ne (by omega), List.getElem?_set_ne (by omega), List.getElem?_set_ne (by omega), List.getElem?_set_ne (by omega), List.getElem?_set_self (by simp; omega)]
     have := encT.cells_at (ys ++ [⟨x.t, pa, pc, qa, qc⟩]) k (by simp; omega) 3 (by decide)
     simp only [encT] at this ⊢
     rw [this]; simp [hyl.symm]
    by_cases e4 : j = k * 8 + 4
    ·subst e4
     rw [List.getElem?_set_ne (by omega), List.getElem?_set_ne (by omega), List.getElem?_set_ne (by omega), List.getElem?_set_self (by simp; omega)]
     have := encT.cells_at (ys ++ [⟨x.t, pa, pc, qa, qc⟩]) k (by simp; omega) 4 (by decide)
     simp only [encT] at this ⊢
     rw [this]; simp [hyl.symm]
    by_cases e5 : j = k * 8 + 5
    ·subst e5
     rw [List.getElem?_set_ne (by omega), List.getElem?_set_ne (by omega), List.getElem?_set_self (by simp; omega)]
     have := encT.cells_at (ys ++ [⟨x.t, pa, pc, qa, qc⟩]) k (by simp; omega) 5 (by decide)
     simp only [encT] at this ⊢
     rw [this]; simp [hyl.symm]
    by_cases e6 : j = k * 8 + 6
    ·subst e6
     rw [List.getElem?_set_ne (by omega), List.getElem?_set_self (by simp; omega)]
     have := encT.cells_at (ys ++ [⟨x.t, pa, pc, qa, qc⟩]) k (by simp; omega) 6 (by decide)
     simp only [encT] at this ⊢
     rw [this]; simp [hyl.symm]
    by_cases e7 : j = k * 8 + 7
    ·subst e7
     rw [List.getElem?_set_self (by simp; omega)]
     have := encT.cells_at (ys ++ [⟨x.t, pa, pc, qa, qc⟩]) k (by simp; omega) 7 (by decide)
     simp only [encT] at this ⊢
     rw [this]; simp [hyl.symm]
    rw [List.getElem?_set_ne (by omega), List.getElem?_set_ne (by omega), List.getElem?_set_ne (by omega), List.getElem?_set_ne (by omega), List.getElem?_set_ne (by omega), List.getElem?_set_ne (by omega), List.getElem?_set_ne (by omega), List.getElem?_set_ne (by omega), HA.out j (by omega), encT.cells_app, List.getElem?_append_left (by rw [encT.cells_len, hyl]; show j < k * 8; omega)]
   have HYL2 : Hid ((ys ++ [(⟨x.t, pa, pc, qa, qc⟩ : Ta)]).length = k + 1) := by show _ = _; simp [HYL.out]
   have HYT2 : Hid (txs (ys ++ [(⟨x.t, pa, pc, qa, qc⟩ : Ta)]) = (txs xs).take (k + 1)) := by
    show _ = _
    rw [List.take_add_one, ← HYT.out]
    simp [txs, List.getElem?_eq_getElem hlt, HXX.out]
   have HB3 : Hid (Below w.heap.size w ((((((((w2.setCell ⟨w.heap.size, k * 8, none⟩ (.int .i64 x.t.id)).setCell ⟨w.heap.size, k * 8 + 1, none⟩ (.int .i64 x.t.st)).setCell ⟨w.heap.size, k * 8 + 2, none⟩ (.int .i64 x.t.snap)).setCell ⟨w.heap.size, k * 8 + 3, none⟩ (.int .i64 x.t.cs)).setCell ⟨w.heap.size, k * 8 + 4, none⟩ (.slice pa x.t.rs.length pc)).setCell ⟨w.heap.size, k * 8 + 5, none⟩ (.slice qa x.t.ws.length qc)).setCell ⟨w.heap.size, k * 8 + 6, none⟩ (.bool x.t.out)).setCell ⟨w.heap.size, k * 8 + 7, none⟩ (.string x.t.nm))) := ((((((((HB2.out.setCell (Nat.le_refl _) _).setCell (Nat.le_refl _) _).setCell (Nat.le_refl _) _).setCell (Nat.le_refl _) _).setCell (Nat.le_refl _) _).setCell (Nat.le_refl _) _).setCell (Nat.le_refl _) _).setCell (Nat.le_refl _) _)
   have HY3 : Hid (Zs ((((((((w2.setCell ⟨w.heap.size, k * 8, none⟩ (.int .i64 x.t.id)).setCell ⟨w.heap.size, k * 8 + 1, none⟩ (.int .i64 x.t.st)).setCell ⟨w.heap.size, k * 8 + 2, none⟩ (.int .i64 x.t.snap)).setCell ⟨w.heap.size, k * 8 + 3, none⟩ (.int .i64 x.t.cs)).setCell ⟨w.heap.size, k * 8 + 4, none⟩ (.slice pa x.t.rs.length pc)).setCell ⟨w.heap.size, k * 8 + 5, none⟩ (.slice qa x.t.ws.length qc)).setCell ⟨w.heap.size, k * 8 + 6, none⟩ (.bool x.t.out)).setCell ⟨w.heap.size, k * 8 + 7, none⟩ (.string x.t.nm)) (.slice (some ⟨w.heap.size, 0, none⟩) xs.length xs.length) (w.heap.size + 1) ((((((((w2.setCell ⟨w.heap.size, k * 8, none⟩ (.int .i64 x.t.id)).setCell ⟨w.heap.size, k * 8 + 1, none⟩ (.int .i64 x.t.st)).setCell ⟨w.heap.size, k * 8 + 2, none⟩ (.int .i64 x.t.snap)).setCell ⟨w.heap.size, k * 8 + 3, none⟩ (.int .i64 x.t.cs)).setCell ⟨w.heap.size, k * 8 + 4, none⟩ (.slice pa x.t.rs.length pc)).setCell ⟨w.heap.size, k * 8 + 5, none⟩ (.slice qa x.t.ws.length qc)).setCell ⟨w.heap.size, k * 8 + 6, none⟩ (.bool x.t.out)).setCell ⟨w.heap.size, k * 8 + 7, none⟩ (.string x.t.nm)).heap.size (ys ++ [(⟨x.t, pa, pc, qa, qc⟩ : Ta)])) := by
    have hsz : w2.heap.size ≤ ((((((((w2.setCell ⟨w.heap.size, k * 8, none⟩ (.int .i64 x.t.id)).setCell ⟨w.heap.size, k * 8 + 1, none⟩ (.int .i64 x.t.st)).setCell ⟨w.heap.size, k * 8 + 2, none⟩ (.int .i64 x.t.snap)).setCell ⟨w.heap.size, k * 8 + 3, none⟩ (.int .i64 x.t.cs)).setCell ⟨w.heap.size, k * 8 + 4, none⟩ (.slice pa x.t.rs.length pc)).setCell ⟨w.heap.size, k * 8 + 5, none⟩ (.slice qa x.t.ws.length qc)).setCell ⟨w.heap.size, k * 8 + 6, none⟩ (.bool x.t.out)).setCell ⟨w.heap.size, k * 8 + 7, none⟩ (.string x.t.nm)).heap.size := by simp [World.setCell]
    exact Zs.snoc (y := ⟨x.t, pa, pc, qa, qc⟩) (Nat.le_refl _) HZ2.out hsz ((((((((HL.out.set hgl _).set hgl _).set hgl _).set hgl _).set hgl _).set hgl _).set hgl _).set hgl _) (fun g hg => by cases hg; exact Or.inl hgl) ((((((((HY2.out.set _ (Nat.lt_succ_self _)).set _ (Nat.lt_succ_self _)).set _ (Nat.lt_succ_self _)).set _ (Nat.lt_succ_self _)).set _ (Nat.lt_succ_self _)).set _ (Nat.lt_succ_self _)).set _ (Nat.lt_succ_self _)).set _ (Nat.lt_succ_self _))
   clear HL HY2 HB2 HX0 HZ2
   go_wp2
   go_roundw
   case rel => exact ⟨k + 1, _, _, by omega, by go_num, HYL2, HYT2, HX3, HA2, HY3, HB3⟩
   case measure => simp [intOf]; omega
  ·have hlt' : ¬ (k : Int) < (xs.length : Int) := by omega
   have hkn : k = xs.length := by omega
   have HD : Hid (GOwn encT 62 wr w.heap.size (.slice (some ⟨w.heap.size, 0, none⟩) ys.length xs.length) ys) := gown_of (by rw [HYL.out, hkn]) HX.out (fun j hj => HA.out j (Nat.lt_of_lt_of_le hj (Nat.mul_le_mul_right _ (by omega))))
   have HE : Hid (txs ys = txs xs) := by show _ = _; rw [HYT.out, List.take_of_length_le (by rw [txs_len]; omega)]
   have HLn : Hid (ys.length = xs.length) := by show _ = _; rw [HYL.out, hkn]
   clear hkn
   go_wp2
   go_ret
   exact ⟨ys, _, _, rfl, HE.out, HLn.out, ⟨Lies.of HD.out, (HY.out.av (v' := .slice (some ⟨w.heap.size, 0, none⟩) ys.length xs.length) (fun p q _ _ h => h)).mono (Nat.le_succ _) (Nat.le_refl _)⟩, HB.out⟩

end Go.Proofs.YtmijppfppigjcaaGreat

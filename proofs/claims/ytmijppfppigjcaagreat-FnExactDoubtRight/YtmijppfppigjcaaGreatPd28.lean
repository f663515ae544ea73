/- Whether marks are held: lists of those that look and change. -/
import Derived.Test.YtmijppfppigjcaaGreatPd11
import Derived.Deep.RegionHeld3
import Derived.Test.YtmijppfppigjcaaGreatProg
import Derived.WalkKit
import Derived.Test.YtmijppfppigjcaaGreatPd01
import Derived.WalkSpells
import Derived.WalkLawsBesides
import Derived.Deep.QuietTactic
import Derived.BigQuiet
import Derived.Deep.DrawnRows
import Derived.Deep.AppendLies
import Derived.Test.YtmijppfppigjcaaGreatPd02
import Derived.Test.YtmijppfppigjcaaGreatPd03
import Derived.Deep.RegionHeld
import Derived.Sort.OwnSorted
import Derived.Lib.RowBridge
import Derived.Test.YtmijppfppigjcaaGreatPd04
import Derived.Test.YtmijppfppigjcaaGreatPd07
import Derived.Test.YtmijppfppigjcaaGreatPd08
import Derived.Test.YtmijppfppigjcaaGreatPd13
import Derived.Lib.ItoaNum
import Derived.Lib.ItoaLen
import Derived.Test.YtmijppfppigjcaaGreatPd05
import Derived.Deep.Cut
import Derived.Deep.CutRange
import Derived.Test.YtmijppfppigjcaaGreatPd19
import Derived.Test.YtmijppfppigjcaaGreatPd20
import Derived.Test.YtmijppfppigjcaaGreatPd06
import Derived.Test.YtmijppfppigjcaaGreatPd15
import Derived.Laws.EntriesVeiled
namespace Go.Proofs.YtmijppfppigjcaaGreat
open Go.RowKit
open KM
attribute [local go_sem ↓] Go.wp_at_zero Go.wp_at_succ

end Go.Proofs.YtmijppfppigjcaaGreat

namespace Go.Proofs.YtmijppfppigjcaaGreat
open Go.RowKit
open KM
open VM
attribute [local go_sem ↓] Go.wp_at_zero Go.wp_at_succ

set_option maxRecDepth 100000 in
set_option maxHeartbeats 4000000 in
theorem sTsE (xs : List Ta) (a : Option Addr) (c n : Nat) (hx : n = xs.length) (hn : n ≤ 10000000) (fx : LFit (txs xs)) (w : World) (hp : TRows w a xs) (hz : ∀ y ∈ xs, ∃ p q, TLie w p q y.t y.ra y.rc y.wa y.wc) :
  Calls Tryz.prog 50 #[.slice a n c] w fun e w' => ∃ (ys : List Ta) (a1 : Option Addr) (c1 : Nat), e = .returned (.slice a1 n c1) ∧ txs ys = txs xs ∧ ys.length = n ∧ LLie w' w.heap.size w'.heap.size (.slice a1 ys.length c1) ys ∧ Below w.heap.size w w' := by
 have HP : Hid (∀ y ∈ xs, ∃ p q, TLie w p q y.t y.ra y.rc y.wa y.wc) := hz
 have HX : Hid (n = xs.length) := hx
 have HF : Hid (LFit (txs xs)) := fx
 have HR : Hid (TRows w a xs) := hp
 clear hp hz hx fx
 go_enter Tryz.func50, Tryz.ntmps50
 go_wp2
 go_loopw [3, 4] (fun v t wr => ∃ (k : Nat) (ys : List Ta), k ≤ n ∧ t = .int .i64 k ∧ Hid (ys.length = k) ∧ Hid (txs ys = (txs xs).take k) ∧ Hid (LLie wr w.heap.size wr.heap.size v ys) ∧ Hid (Below w.heap.size w wr)) (fun _ t _ => n - (intOf t).toNat)
 case atStart => exact ⟨0, [], Nat.zero_le _, rfl, rfl, rfl, ⟨Lies.of (GOwn.empty w w.heap.size (Nat.le_refl _)), (show w.heap.size ≤ _ by simp)⟩, (belowRefl w).alloc (Nat.le_refl _) _⟩
 case round =>
  obtain ⟨k, ys, hk, rfl, HYL, HYT, HL, HB⟩ := hrel
  by_cases hlt : k < n
  ·have hlt' : (k : Int) < (n : Int) := by omega
   have h0 : (0 : Int) ≤ (k : Int) := by omega
   have hkx : k < xs.length := by rw [← HX.out]; exact hlt
   obtain ⟨zp, zq, hT⟩ := HP.out _ (List.getElem_mem hkx)
   obtain ⟨b, o, rfl, hbl, hc, -⟩ := (HR.out.below HB.out).cls k hkx
   have hfx : TFit xs[k].t := HF.out.2 _ (List.mem_map.2 ⟨_, List.getElem_mem hkx, rfl⟩)
   obtain ⟨x, hx⟩ : ∃ x, x = xs[k] := ⟨_, rfl⟩
   rw [← hx] at hc hfx hT
   have HNT : Hid ((txs xs).take (k + 1) = (txs xs).take k ++ [x.t]) := by
    show _ = _
    rw [List.take_add_one, hx]
    simp [txs, List.getElem?_eq_getElem hkx]
   clear hx
   obtain ⟨zm, _, _, hR, hW⟩ := hT.ex
   have HC := hide (scopyT x.t x.ra x.wa x.rc x.wc zp zm (Nat.le_trans hfx.1 (by omega)) (Nat.le_trans hfx.2.2.1 (by omega)) wr (hR.own.below HB.out) (hW.own.below HB.out))
   have r0 := hc.c0
   have r1 := hc.c1
   have r2 := hc.c2
   have r3 := hc.c3
   have r4 := hc.c4
   have r5 := hc.c5
   have r6 := hc.c6
   have r7 := hc.c7
   clear hc hT hR hW hfx
   have hln : ys.length ≤ 100000000 := by rw [HYL.out]; omega
   go_wp2_with fail
   refine HC.out.mono ?_
   rintro e w2 ⟨ra1, rc1, wa1, wc1, rfl, ht, hb2⟩
   have HB2 : Hid (Below wr.heap.size wr w2) := hb2
   have HT : Hid (TLie w2 wr.heap.size w2.heap.size x.t ra1 rc1 wa1 wc1) := ht
   have O2 := hide (HL.out.own.own.below HB2.out)
   have HSB := hide HB.out.size
   clear r0 r1 r2 r3 r4 r5 r6 r7 hb2 ht HC
   have HBK : Hid ((w2.alloc (.cells #[.int .i64 x.t.id, .int .i64 x.t.st, .int .i64 x.t.snap, .int .i64 x.t.cs, .slice ra1 x.t.rs.length rc1, .slice wa1 x.t.ws.length wc1, .bool x.t.out, .string x.t.nm] 62)).heap[w2.heap.size]? = some (.cells (encT.enc ⟨x.t, ra1, rc1, wa1, wc1⟩).toArray 62 (0, 0))) := heap_alloc_new w2 _
   have O2a := hide (O2.out.alloc (.cells #[.int .i64 x.t.id, .int .i64 x.t.st, .int .i64 x.t.snap, .int .i64 x.t.cs, .slice ra1 x.t.rs.length rc1, .slice wa1 x.t.ws.length wc1, .bool x.t.out, .string x.t.nm] 62))
   have hbb : w.heap.size ≤ (w2.alloc (.cells #[.int .i64 x.t.id, .int .i64 x.t.st, .int .i64 x.t.snap, .int .i64 x.t.cs, .slice ra1 x.t.rs.length rc1, .slice wa1 x.t.ws.length wc1, .bool x.t.out, .string x.t.nm] 62)).heap.size := by have := HSB.out; have := HB2.out.size; simp; omega
   go_wp2_with (at_builtin; refine wpAppK (E := encT) 40 62 104 _ Tryz.underlying40 Tryz.info62 rfl (by omega) rfl _ _ rfl ⟨x.t, ra1, rc1, wa1, wc1⟩ tone rfl O2a.out rfl HBK.out hln hbb ?_)
   intro g' cap w3 ho3 hg3 hg4 hlt3
   have HL3 : Hid (LLie w3 w.heap.size w3.heap.size (.slice (some ⟨g', 0, none⟩) (ys.length + 1) cap) (ys ++ [⟨x.t, ra1, rc1, wa1, wc1⟩])) := LLie.more (y := ⟨x.t, ra1, rc1, wa1, wc1⟩) HL.out HB2.out (Nat.le_refl _) HB2.out.size HT.out ho3 hg3 hg4 rfl
   have hb3 : Below w.heap.size w2 w3 := (((belowRefl w2).alloc (Nat.le_refl _) _).mono (by have := HSB.out; have := HB2.out.size; omega)).trans ((Below.refl _ _).grown hg3 hbb (fun j hj => (World.ownsRow.lt O2a.out j hj).1))
   have HB3 : Hid (Below w.heap.size w w3) := (HB.out.trans (HB2.out.mono HSB.out)).trans hb3
   have HYL2 : Hid ((ys ++ [(⟨x.t, ra1, rc1, wa1, wc1⟩ : Ta)]).length = k + 1) := by show _ = _; simp [HYL.out]
   have HYT2 : Hid (txs (ys ++ [(⟨x.t, ra1, rc1, wa1, wc1⟩ : Ta)]) = (txs xs).take (k + 1)) := by show _ = _; rw [HNT.out, ← HYT.out]; simp [txs]
   clear ho3 hg3 hg4 hlt3 hb3 O2a O2 HBK HT HL HB2 HSB hbb HB
   go_wp2
   go_roundw
   case rel => exact ⟨k + 1, _, by omega, by go_num, HYL2, HYT2, HL3, HB3⟩
   case measure => simp [intOf]; omega
  ·have hd : ¬ (k : Int) < (n : Int) := by omega
   have HE : Hid (txs ys = txs xs) := by show _ = _; rw [HYT.out, List.take_of_length_le (by rw [txs_len, ← HX.out]; omega)]
   have HLn : Hid (ys.length = n) := by show _ = _; rw [HYL.out]; omega
   obtain ⟨a1, c1, rfl, _⟩ := HL.out.own.own.row
   rw [HLn.out]
   have HLL := hide HL.out
   clear HYL HYT HL
   go_wp2
   go_ret
   exact ⟨ys, a1, c1, rfl, HE.out, HLn.out, by have h := HLL.out; rw [HLn.out] at h ⊢; exact h, HB.out⟩

set_option maxRecDepth 100000 in
set_option maxHeartbeats 4000000 in
theorem scopyBo (b : Bb) (lo hi : Nat) (hf : BFit b) (w : World) (hp : Bo w lo hi b) :
  Calls Tryz.prog 49 #[.agg #[.slice b.va b.vs.length b.vc, .slice b.pa b.ps.length b.pc, .slice b.qa b.qs.length b.qc, .int .i64 b.cs, .int .i64 b.nx]] w fun e w' => ∃ c : Bb, e = .returned (.agg #[.slice c.va c.vs.length c.vc, .slice c.pa c.ps.length c.pc, .slice c.qa c.qs.length c.qc, .int .i64 c.cs, .int .i64 c.nx]) ∧ BSame b c ∧ BLie w' w.heap.size w'.heap.size c ∧ Below w.heap.size w w' := by
 have BA0 : Hid (Bx ((w.alloc (.cells #[.slice b.va b.vs.length b.vc, .slice b.pa b.ps.length b.pc, .slice b.qa b.qs.length b.qc, .int .i64 b.cs, .int .i64 b.nx] 42)).alloc (.cells #[.slice none 0 0, .slice none 0 0, .slice none 0 0, .int .i64 0, .int .i64 0] 42)) w.heap.size [.slice b.va b.vs.length b.vc, .slice b.pa b.ps.length b.pc, .slice b.qa b.qs.length b.qc, .int .i64 b.cs, .int .i64 b.nx]) := (Bx.new w [.slice b.va b.vs.length b.vc, .slice b.pa b.ps.length b.pc, .slice b.qa b.qs.length b.qc, .int .i64 b.cs, .int .i64 b.nx] 42).alloc _
 have BR0 : Hid (Bx ((w.alloc (.cells #[.slice b.va b.vs.length b.vc, .slice b.pa b.ps.length b.pc, .slice b.qa b.qs.length b.qc, .int .i64 b.cs, .int .i64 b.nx] 42)).alloc (.cells #[.slice none 0 0, .slice none 0 0, .slice none 0 0, .int .i64 0, .int .i64 0] 42)) (w.heap.size + 1) [.slice none 0 0, .slice none 0 0, .slice none 0 0, .int .i64 0, .int .i64 0]) := by
  have h := Bx.new (w.alloc (.cells #[.slice b.va b.vs.length b.vc, .slice b.pa b.ps.length b.pc, .slice b.qa b.qs.length b.qc, .int .i64 b.cs, .int .i64 b.nx] 42)) [.slice none 0 0, .slice none 0 0, .slice none 0 0, .int .i64 0, .int .i64 0] 42
  rw [show (w.alloc (.cells #[.slice b.va b.vs.length b.vc, .slice b.pa b.ps.length b.pc, .slice b.qa b.qs.length b.qc, .int .i64 b.cs, .int .i64 b.nx] 42)).heap.size = w.heap.size + 1 by simp] at h
  exact h
 have HB0 : Hid (Below w.heap.size w ((w.alloc (.cells #[.slice b.va b.vs.length b.vc, .slice b.pa b.ps.length b.pc, .slice b.qa b.qs.length b.qc, .int .i64 b.cs, .int .i64 b.nx] 42)).alloc (.cells #[.slice none 0 0, .slice none 0 0, .slice none 0 0, .int .i64 0, .int .i64 0] 42))) := ((belowRefl w).alloc (Nat.le_refl _) _).alloc (by simp) _
 have HS0 : Hid (w.heap.size + 1 + 1 ≤ ((w.alloc (.cells #[.slice b.va b.vs.length b.vc, .slice b.pa b.ps.length b.pc, .slice b.qa b.qs.length b.qc, .int .i64 b.cs, .int .i64 b.nx] 42)).alloc (.cells #[.slice none 0 0, .slice none 0 0, .slice none 0 0, .int .i64 0, .int .i64 0] 42)).heap.size) := by show _ ≤ _; simp
 have HF : Hid (BFit b) := hf
 obtain ⟨hv, hpp, hqq⟩ := hp
 have HV : Hid (Lies encV 150 w lo hi (.slice b.va b.vs.length b.vc) b.vs) := hv
 have CP : Hid (∀ W : World, Below w.heap.size w W → Calls Tryz.prog 50 #[.slice b.pa b.ps.length b.pc] W fun e w' => ∃ (ys : List Ta) (a1 : Option Addr) (c1 : Nat), e = .returned (.slice a1 b.ps.length c1) ∧ txs ys = txs b.ps ∧ ys.length = b.ps.length ∧ LLie w' W.heap.size w'.heap.size (.slice a1 ys.length c1) ys ∧ Below W.heap.size W w') := fun W h => sTsE b.ps b.pa b.pc b.ps.length rfl (Nat.le_trans HF.out.pl (by omega)) HF.out.p W (hpp.below h).rows (hpp.below h).ea.any
 have CQ : Hid (∀ W : World, Below w.heap.size w W → Calls Tryz.prog 50 #[.slice b.qa b.qs.length b.qc] W fun e w' => ∃ (ys : List Ta) (a1 : Option Addr) (c1 : Nat), e = .returned (.slice a1 b.qs.length c1) ∧ txs ys = txs b.qs ∧ ys.length = b.qs.length ∧ LLie w' W.heap.size w'.heap.size (.slice a1 ys.length c1) ys ∧ Below W.heap.size W w') := fun W h => sTsE b.qs b.qa b.qc b.qs.length rfl (Nat.le_trans HF.out.ql (by omega)) HF.out.q W (hqq.below h).rows (hqq.below h).ea.any
 have HVL : Hid (b.vs.length ≤ 100000000) := Nat.le_trans HF.out.vl (by omega)
 clear hf hv
 go_enter Tryz.func49, Tryz.ntmps49
 go_upto_region 1 with fail
 generalize ((w.alloc (.cells #[.slice b.va b.vs.length b.vc, .slice b.pa b.ps.length b.pc, .slice b.qa b.qs.length b.qc, .int .i64 b.cs, .int .i64 b.nx] 42)).alloc (.cells #[.slice none 0 0, .slice none 0 0, .slice none 0 0, .int .i64 0, .int .i64 0] 42)) = w0 at *
 refine wp_region_held_drew (S := fun w' => w'.cell? ⟨w.heap.size, 0, none⟩ = some (.slice b.va b.vs.length b.vc) ∧ w'.cell? ⟨w.heap.size, 1, none⟩ = some (.slice b.pa b.ps.length b.pc) ∧ w'.cell? ⟨w.heap.size, 2, none⟩ = some (.slice b.qa b.qs.length b.qc) ∧ w'.cell? ⟨w.heap.size, 3, none⟩ = some (.int .i64 b.cs) ∧ w'.cell? ⟨w.heap.size, 4, none⟩ = some (.int .i64 b.nx)) (by kernel_rfl) ⟨BA0.out.c0, BA0.out.c1, BA0.out.c2, BA0.out.c3, BA0.out.c4⟩ (fun hHeld => ?_)
 (refine ti 1 ?_; simp only [Act.put, tA, tB, tC, tD, tE, tF])
 (refine ti 2 ?_; simp only [Act.put, tA, tB, tC, tD, tE, tF])
 (refine ti 4 ?_; simp only [Act.put, tA, tB, tC, tD, tE, tF])
 (refine ti 5 ?_; simp only [Act.put, tA, tB, tC, tD, tE, tF])
 (refine ti 7 ?_; simp only [Act.put, tA, tB, tC, tD, tE, tF])
 (refine ti 8 ?_; simp only [Act.put, tA, tB, tC, tD, tE, tF])
 (refine ti 10 ?_; simp only [Act.put, tA, tB, tC, tD, tE, tF])
 (refine ti 11 ?_; simp only [Act.put, tA, tB, tC, tD, tE, tF])
 (refine ti 12 ?_; simp only [Act.put, tA, tB, tC, tD, tE, tF])
 (refine ti 13 ?_; simp only [Act.put, tA, tB, tC, tD, tE, tF])
 refine wpAnyH_ready (rs := [0]) (by kernel_rfl) (by simp) ?_
 refine AllReadyH.cons rfl (fun K hK => ?_) AllReadyH.nil
 go_simp
 have hb : Below w0.heap.size w0 (w0.alloc (.cells #[] 150)).drew := ((belowRefl w0).alloc (Nat.le_refl _) _).drew
 have O1 : Hid (GOwn encV 150 (w0.alloc (.cells #[] 150)).drew w0.heap.size (.slice (some ⟨w0.heap.size, 0, none⟩) 0 0) []) := GOwn.empty w0 w0.heap.size (Nat.le_refl _)
 have HB1 : Hid (Below w.heap.size w (w0.alloc (.cells #[] 150)).drew) := HB0.out.trans (hb.mono HB0.out.size)
 have BA1 : Hid (Bx (w0.alloc (.cells #[] 150)).drew w.heap.size [.slice b.va b.vs.length b.vc, .slice b.pa b.ps.length b.pc, .slice b.qa b.qs.length b.qc, .int .i64 b.cs, .int .i64 b.nx]) := BA0.out.below hb
 have BR1 : Hid (Bx (w0.alloc (.cells #[] 150)).drew (w.heap.size + 1) [.slice none 0 0, .slice none 0 0, .slice none 0 0, .int .i64 0, .int .i64 0]) := BR0.out.below hb
 have SZ1 : Hid (w0.heap.size ≤ (w0.alloc (.cells #[] 150)).drew.heap.size) := hb.size
 clear hb HB0 BA0 BR0
 refine hK.out _ _ ⟨BA1.out.c0, BA1.out.c1, BA1.out.c2, BA1.out.c3, BA1.out.c4⟩ (fun hHeld1 => ?_)
 clear hK K
 generalize (w0.alloc (.cells #[] 150)).drew = w1 at *
 refine wpAnyH_ready (rs := [3]) (by kernel_rfl) (by simp) ?_
 refine AllReadyH.cons rfl (fun K hK => ?_) AllReadyH.nil
 obtain ⟨v2, w2, hr, ho2, hg2⟩ := appRowV (base := w0.heap.size) b.vs 44 O1.out (HV.out.own.below HB1.out) rfl HVL.out SZ1.out
 refine stepRun rfl _ _ 39 39 rfl _ _ rfl rfl v2 w2 hr ?_
 obtain ⟨va1, vc1, rfl, _⟩ := ho2.row
 have V2 : Hid (Lies encV 150 w2 w0.heap.size w2.heap.size (.slice va1 b.vs.length vc1) b.vs) := Lies.of ho2
 have hlow : Below w0.heap.size w1 w2 := grown_low hg2 (fun g e => by cases e; exact Nat.le_refl _) SZ1.out
 have hs0 := HS0.out
 have HB2 : Hid (Below w.heap.size w w2) := HB1.out.trans (hlow.mono (by omega))
 have BA2 : Hid (Bx w2 w.heap.size [.slice b.va b.vs.length b.vc, .slice b.pa b.ps.length b.pc, .slice b.qa b.qs.length b.qc, .int .i64 b.cs, .int .i64 b.nx]) := bx_low BA1.out hlow (by omega)
 have BR2 : Hid (Bx w2 (w.heap.size + 1) [.slice none 0 0, .slice none 0 0, .slice none 0 0, .int .i64 0, .int .i64 0]) := bx_low BR1.out hlow (by omega)
 have SZ2 : Hid (w1.heap.size ≤ w2.heap.size) := hg2.size
 clear hr ho2 hg2 hlow HB1 BA1 BR1 O1
 refine hK.out _ _ ⟨BA2.out.c0, BA2.out.c1, BA2.out.c2, BA2.out.c3, BA2.out.c4⟩ (fun hHeld2 => ?_)
 clear hK K
 refine wpAnyH_ready (rs := [6]) (by kernel_rfl) (by simp) ?_
 refine AllReadyH.cons rfl (fun K hK => ?_) AllReadyH.nil
 go_simp
 go_wp2_with fail
 refine (CP.out _ HB2.out).mono ?_
 rintro e w3 ⟨ys1, pa1, pc1, rfl, ht1, hl1, hll, hb⟩
 have T1 : Hid (txs ys1 = txs b.ps) := ht1
 have L1 : Hid (ys1.length = b.ps.length) := hl1
 have P3 : Hid (LLie w3 w2.heap.size w3.heap.size (.slice pa1 ys1.length pc1) ys1) := hll
 clear ht1 hl1 hll
 have HB3 : Hid (Below w.heap.size w w3) := HB2.out.trans (hb.mono HB2.out.size)
 have BA3 : Hid (Bx w3 w.heap.size [.slice b.va b.vs.length b.vc, .slice b.pa b.ps.length b.pc, .slice b.qa b.qs.length b.qc, .int .i64 b.cs, .int .i64 b.nx]) := BA2.out.below hb
 have BR3 : Hid (Bx w3 (w.heap.size + 1) [.slice none 0 0, .slice none 0 0, .slice none 0 0, .int .i64 0, .int .i64 0]) := BR2.out.below hb
 have SZ3 : Hid (w2.heap.size ≤ w3.heap.size) := hb.size
 replace V2 : Hid (Lies encV 150 w3 w0.heap.size w2.heap.size (.slice va1 b.vs.length vc1) b.vs) := V2.out.below hb
 clear hb HB2 BA2 BR2
 go_wp2_with fail
 refine hK.out _ _ ⟨BA3.out.c0, BA3.out.c1, BA3.out.c2, BA3.out.c3, BA3.out.c4⟩ (fun hHeld3 => ?_)
 clear hK K
 refine wpAnyH_ready (rs := [9]) (by kernel_rfl) (by simp) ?_
 refine AllReadyH.cons rfl (fun K hK => ?_) AllReadyH.nil
 go_simp
 go_wp2_with fail
 refine (CQ.out _ HB3.out).mono ?_
 rintro e w4 ⟨ys2, qa1, qc1, rfl, ht2, hl2, hll, hb⟩
 have T2 : Hid (txs ys2 = txs b.qs) := ht2
 have L2 : Hid (ys2.length = b.qs.length) := hl2
 have Q4 : Hid (LLie w4 w3.heap.size w4.heap.size (.slice qa1 ys2.length qc1) ys2) := hll
 clear ht2 hl2 hll
 have HB4 : Hid (Below w.heap.size w w4) := HB3.out.trans (hb.mono HB3.out.size)
 have BA4 : Hid (Bx w4 w.heap.size [.slice b.va b.vs.length b.vc, .slice b.pa b.ps.length b.pc, .slice b.qa b.qs.length b.qc, .int .i64 b.cs, .int .i64 b.nx]) := BA3.out.below hb
 have BR4 : Hid (Bx w4 (w.heap.size + 1) [.slice none 0 0, .slice none 0 0, .slice none 0 0, .int .i64 0, .int .i64 0]) := BR3.out.below hb
 have SZ4 : Hid (w3.heap.size ≤ w4.heap.size) := hb.size
 replace V2 : Hid (Lies encV 150 w4 w0.heap.size w2.heap.size (.slice va1 b.vs.length vc1) b.vs) := V2.out.below hb
 replace P3 : Hid (LLie w4 w2.heap.size w3.heap.size (.slice pa1 ys1.length pc1) ys1) := P3.out.below hb
 clear hb HB3 BA3 BR3
 go_wp2_with fail
 refine hK.out _ _ ⟨BA4.out.c0, BA4.out.c1, BA4.out.c2, BA4.out.c3, BA4.out.c4⟩ (fun hHeld4 => ?_)
 clear hK K
 (refine ti 14 ?_; simp only [Act.put, tA, tB, tC, tD, tE, tF])
 have z0 := BR4.out.c0
 have fz0 := BR4.out.fz 0
 have z1 := BR4.out.c1
 have fz1 := BR4.out.fz 1
 have z2 := BR4.out.c2
 have fz2 := BR4.out.fz 2
 have z3 := BR4.out.c3
 have fz3 := BR4.out.fz 3
 have z4 := BR4.out.c4
 have fz4 := BR4.out.fz 4
 refine wpAnyH_ready (rs := [15]) (by kernel_rfl) (by simp) ?_
 refine AllReadyH.cons rfl (fun K hK => ?_) AllReadyH.nil
 go_simp
 have BA5 : Hid (Bx (((((w4.setCell ⟨w.heap.size + 1, 0, none⟩ (.slice va1 b.vs.length vc1)).setCell ⟨w.heap.size + 1, 1, none⟩ (.slice pa1 b.ps.length pc1)).setCell ⟨w.heap.size + 1, 2, none⟩ (.slice qa1 b.qs.length qc1)).setCell ⟨w.heap.size + 1, 3, none⟩ (.int .i64 b.cs)).setCell ⟨w.heap.size + 1, 4, none⟩ (.int .i64 b.nx)) w.heap.size [.slice b.va b.vs.length b.vc, .slice b.pa b.ps.length b.pc, .slice b.qa b.qs.length b.qc, .int .i64 b.cs, .int .i64 b.nx]) := (((((BA4.out.setO (by show w.heap.size + 1 ≠ w.heap.size; omega) _).setO (by show w.heap.size + 1 ≠ w.heap.size; omega) _).setO (by show w.heap.size + 1 ≠ w.heap.size; omega) _).setO (by show w.heap.size + 1 ≠ w.heap.size; omega) _).setO (by show w.heap.size + 1 ≠ w.heap.size; omega) _)
 have HB5 : Hid (Below w.heap.size w (((((w4.setCell ⟨w.heap.size + 1, 0, none⟩ (.slice va1 b.vs.length vc1)).setCell ⟨w.heap.size + 1, 1, none⟩ (.slice pa1 b.ps.length pc1)).setCell ⟨w.heap.size + 1, 2, none⟩ (.slice qa1 b.qs.length qc1)).setCell ⟨w.heap.size + 1, 3, none⟩ (.int .i64 b.cs)).setCell ⟨w.heap.size + 1, 4, none⟩ (.int .i64 b.nx))) := (((((HB4.out.setCell (by show _ ≤ _ + 1; omega) _).setCell (by show _ ≤ _ + 1; omega) _).setCell (by show _ ≤ _ + 1; omega) _).setCell (by show _ ≤ _ + 1; omega) _).setCell (by show _ ≤ _ + 1; omega) _)
 have HSM : Hid (BSame b ⟨b.vs, ys1, ys2, b.cs, b.nx, va1, vc1, pa1, pc1, qa1, qc1⟩) := ⟨rfl, T1.out, T2.out, rfl, rfl⟩
 have HL4 : Hid (BLie w4 (w.heap.size + 1 + 1) w4.heap.size ⟨b.vs, ys1, ys2, b.cs, b.nx, va1, vc1, pa1, pc1, qa1, qc1⟩) :=
  ⟨w2.heap.size, w3.heap.size, by have := SZ1.out; have := SZ2.out; omega, SZ3.out, SZ4.out, V2.out.mono (by omega) (Nat.le_refl _), P3.out, Q4.out⟩
 have HL5 : Hid (BLie (((((w4.setCell ⟨w.heap.size + 1, 0, none⟩ (.slice va1 b.vs.length vc1)).setCell ⟨w.heap.size + 1, 1, none⟩ (.slice pa1 b.ps.length pc1)).setCell ⟨w.heap.size + 1, 2, none⟩ (.slice qa1 b.qs.length qc1)).setCell ⟨w.heap.size + 1, 3, none⟩ (.int .i64 b.cs)).setCell ⟨w.heap.size + 1, 4, none⟩ (.int .i64 b.nx)) (w.heap.size + 1 + 1) w4.heap.size ⟨b.vs, ys1, ys2, b.cs, b.nx, va1, vc1, pa1, pc1, qa1, qc1⟩) := (((((HL4.out.set (by show _ + 1 < _; omega) _).set (by show _ + 1 < _; omega) _).set (by show _ + 1 < _; omega) _).set (by show _ + 1 < _; omega) _).set (by show _ + 1 < _; omega) _)
 have HZ5 : Hid ((((((w4.setCell ⟨w.heap.size + 1, 0, none⟩ (.slice va1 b.vs.length vc1)).setCell ⟨w.heap.size + 1, 1, none⟩ (.slice pa1 b.ps.length pc1)).setCell ⟨w.heap.size + 1, 2, none⟩ (.slice qa1 b.qs.length qc1)).setCell ⟨w.heap.size + 1, 3, none⟩ (.int .i64 b.cs)).setCell ⟨w.heap.size + 1, 4, none⟩ (.int .i64 b.nx)).heap.size = w4.heap.size) := by show _ = _; simp [World.setCell]
 refine hK.out _ _ ⟨BA5.out.c0, BA5.out.c1, BA5.out.c2, BA5.out.c3, BA5.out.c4⟩ (fun hHeld5 => ?_)
 clear hK K
 refine wpAnyH_done (by kernel_rfl) ?_ _
 go_wp2
 refine bodyPost_ret (v := .agg #[.slice va1 b.vs.length vc1, .slice pa1 b.ps.length pc1, .slice qa1 b.qs.length qc1, .int .i64 b.cs, .int .i64 b.nx]) (by simp [results, Tryz.results49, go_sem, z0, z1, z2, z3, z4]) rfl ⟨⟨b.vs, ys1, ys2, b.cs, b.nx, va1, vc1, pa1, pc1, qa1, qc1⟩, by show _ = Ending.returned (.agg #[.slice va1 b.vs.length vc1, .slice pa1 ys1.length pc1, .slice qa1 ys2.length qc1, .int .i64 b.cs, .int .i64 b.nx]); rw [L1.out, L2.out], HSM.out, HL5.out.mono (by omega) (by rw [HZ5.out]; exact Nat.le_refl _), HB5.out⟩

end Go.Proofs.YtmijppfppigjcaaGreat

/- DoubtRight of the program. -/
import Derived.Test.YtmijppfppigjcaaGreatPd31
import Derived.Test.YtmijppfppigjcaaGreatPd34
import Derived.Test.YtmijppfppigjcaaGreatPd01
import Derived.Test.YtmijppfppigjcaaGreatProg
import Derived.WalkKit
import Derived.WalkSpells
import Derived.WalkLawsBesides
import Derived.Deep.QuietTactic
import Derived.BigQuiet
import Derived.Deep.RegionHeld3
import Derived.Deep.DrawnRows
import Derived.Test.YtmijppfppigjcaaGreatPd07
import Derived.Deep.AppendLies
import Derived.Test.YtmijppfppigjcaaGreatPd02
import Derived.Shelf.Small.Strs
import Derived.Shelf.Small.Wraps
import Derived.Shelf.LaysM
import Derived.Shelf.Strconv.Clone
import Derived.Deep.RegionHeld
import Derived.Test.YtmijppfppigjcaaGreatPd03
import Derived.Test.YtmijppfppigjcaaGreatPd10
import Derived.Test.YtmijppfppigjcaaGreatPd06
import Derived.Lib.SlicesCompact
import Derived.Sort.Walk0
import Derived.Sort.OwnSorted
import Derived.Lib.RowBridge
import Derived.Deep.LoopGhost
import Derived.Test.YtmijppfppigjcaaGreatPd08
namespace Go.Proofs.YtmijppfppigjcaaGreat
open Go.RowKit
open KM
open VM
attribute [local go_sem ↓] Go.wp_at_zero Go.wp_at_succ

set_option maxRecDepth 100000 in
set_option maxHeartbeats 4000000 in
theorem idoubt (x : Wd) (hf : WdFit x) (w : World) (hp : WdRows w x) :
  Calls Tryz.prog 7 #[.agg #[.slice x.s.e.b.va x.s.e.b.vs.length x.s.e.b.vc, .slice x.s.e.b.pa x.s.e.b.ps.length x.s.e.b.pc, .slice x.s.e.b.qa x.s.e.b.qs.length x.s.e.b.qc, .int .i64 x.s.e.b.cs, .int .i64 x.s.e.b.nx, .slice x.s.e.oa x.s.e.os.length x.s.e.oc, .slice x.s.d.sa x.s.d.ss.length x.s.d.sc, .slice x.s.d.pa x.s.d.ps.length x.s.d.pc, .slice x.pa x.ps.length x.pc, .slice x.ca x.cs.length x.cc, .slice x.da x.ds.length x.dc]] w fun e w' => e = .returned (.bool true) ∧ Below w.heap.size w w' := by
 have HE : Hid (EnRows w x.s.e) := hp.s.e
 have HF : Hid (EnFit x.s.e) := hf.s.e
 have hql := hf.s.e.b.ql
 have BX : Hid (Bx (w.alloc (.cells #[.slice x.s.e.b.va x.s.e.b.vs.length x.s.e.b.vc, .slice x.s.e.b.pa x.s.e.b.ps.length x.s.e.b.pc, .slice x.s.e.b.qa x.s.e.b.qs.length x.s.e.b.qc, .int .i64 x.s.e.b.cs, .int .i64 x.s.e.b.nx, .slice x.s.e.oa x.s.e.os.length x.s.e.oc, .slice x.s.d.sa x.s.d.ss.length x.s.d.sc, .slice x.s.d.pa x.s.d.ps.length x.s.d.pc, .slice x.pa x.ps.length x.pc, .slice x.ca x.cs.length x.cc, .slice x.da x.ds.length x.dc] 51)) w.heap.size [.slice x.s.e.b.va x.s.e.b.vs.length x.s.e.b.vc, .slice x.s.e.b.pa x.s.e.b.ps.length x.s.e.b.pc, .slice x.s.e.b.qa x.s.e.b.qs.length x.s.e.b.qc, .int .i64 x.s.e.b.cs, .int .i64 x.s.e.b.nx, .slice x.s.e.oa x.s.e.os.length x.s.e.oc, .slice x.s.d.sa x.s.d.ss.length x.s.d.sc, .slice x.s.d.pa x.s.d.ps.length x.s.d.pc, .slice x.pa x.ps.length x.pc, .slice x.ca x.cs.length x.cc, .slice x.da x.ds.length x.dc]) := Bx.new w [.slice x.s.e.b.va x.s.e.b.vs.length x.s.e.b.vc, .slice x.s.e.b.pa x.s.e.b.ps.length x.s.e.b.pc, .slice x.s.e.b.qa x.s.e.b.qs.length x.s.e.b.qc, .int .i64 x.s.e.b.cs, .int .i64 x.s.e.b.nx, .slice x.s.e.oa x.s.e.os.length x.s.e.oc, .slice x.s.d.sa x.s.d.ss.length x.s.d.sc, .slice x.s.d.pa x.s.d.ps.length x.s.d.pc, .slice x.pa x.ps.length x.pc, .slice x.ca x.cs.length x.cc, .slice x.da x.ds.length x.dc] 51
 have HB : Hid (Below w.heap.size w (w.alloc (.cells #[.slice x.s.e.b.va x.s.e.b.vs.length x.s.e.b.vc, .slice x.s.e.b.pa x.s.e.b.ps.length x.s.e.b.pc, .slice x.s.e.b.qa x.s.e.b.qs.length x.s.e.b.qc, .int .i64 x.s.e.b.cs, .int .i64 x.s.e.b.nx, .slice x.s.e.oa x.s.e.os.length x.s.e.oc, .slice x.s.d.sa x.s.d.ss.length x.s.d.sc, .slice x.s.d.pa x.s.d.ps.length x.s.d.pc, .slice x.pa x.ps.length x.pc, .slice x.ca x.cs.length x.cc, .slice x.da x.ds.length x.dc] 51))) := (belowRefl w).alloc (Nat.le_refl _) _
 clear hp hf
 go_enter Tryz.func7, Tryz.ntmps7
 go_upto_region 1 with fail
 generalize (w.alloc (.cells #[.slice x.s.e.b.va x.s.e.b.vs.length x.s.e.b.vc, .slice x.s.e.b.pa x.s.e.b.ps.length x.s.e.b.pc, .slice x.s.e.b.qa x.s.e.b.qs.length x.s.e.b.qc, .int .i64 x.s.e.b.cs, .int .i64 x.s.e.b.nx, .slice x.s.e.oa x.s.e.os.length x.s.e.oc, .slice x.s.d.sa x.s.d.ss.length x.s.d.sc, .slice x.s.d.pa x.s.d.ps.length x.s.d.pc, .slice x.pa x.ps.length x.pc, .slice x.ca x.cs.length x.cc, .slice x.da x.ds.length x.dc] 51)) = w0 at *
 have q2 := BX.out.c2
 go_wp2
 clear q2
 go_loopw [14] (fun t wr => ∃ k : Nat, k ≤ x.s.e.b.qs.length ∧ t = .int .i64 k ∧ Hid (Below w0.heap.size w0 wr)) (fun t _ => x.s.e.b.qs.length - (intOf t).toNat)
 case atStart => exact ⟨0, Nat.zero_le _, rfl, belowRefl w0⟩
 case round =>
  obtain ⟨k, hk, rfl, HR⟩ := hrel
  by_cases hlt : k < x.s.e.b.qs.length
  ·have hlt' : (k : Int) < (x.s.e.b.qs.length : Int) := by omega
   have h0 : (0 : Int) ≤ (k : Int) := by omega
   have HBr : Hid (Below w.heap.size w wr) := HB.out.trans (HR.out.mono HB.out.size)
   obtain ⟨bl, ol, hqa, hbl, hcl, -⟩ := (HE.out.b.q.below HBr.out).cls k hlt
   have hqa' : Value.slice x.s.e.b.qa x.s.e.b.qs.length x.s.e.b.qc = .slice (some ⟨bl, ol, none⟩) x.s.e.b.qs.length x.s.e.b.qc := by rw [hqa]
   have hin : x.s.e.b.qs[k].t.nm ∈ nms x.s.e.b.qs := List.mem_map.2 ⟨_, List.getElem_mem hlt, rfl⟩
   have hsz : x.s.e.b.qs[k].t.nm.size ≤ 1048576 := (HF.out.b.q.2 _ (List.mem_map.2 ⟨_, List.getElem_mem hlt, rfl⟩)).2.2.2.2
   obtain ⟨y, hy⟩ : ∃ y, y = x.s.e.b.qs[k] := ⟨_, rfl⟩
   rw [← hy] at hcl hin hsz
   have HIN := hide hin
   have CF := hide (fun (W : World) (h : Below w0.heap.size w0 W) => ifinishA x.s.e HF.out y.t.nm hin hsz W (HE.out.below (HB.out.trans (h.mono HB.out.size))))
   have r0 := hcl.c0
   have r1 := hcl.c1
   have r2 := hcl.c2
   have r3 := hcl.c3
   have r4 := hcl.c4
   have r5 := hcl.c5
   have r6 := hcl.c6
   have r7 := hcl.c7
   clear hcl hin hsz hy hqa
   rw [hqa']
   clear hqa'
   go_upto_region 4 with fail
   have hba : Below wr.heap.size wr (wr.alloc (.cells #[.int .i64 y.t.id, .int .i64 y.t.st, .int .i64 y.t.snap, .int .i64 y.t.cs, .slice y.ra y.t.rs.length y.rc, .slice y.wa y.t.ws.length y.wc, .bool y.t.out, .string y.t.nm] 62)) := (belowRefl wr).alloc (Nat.le_refl _) _
   have BY : Hid (Bx (wr.alloc (.cells #[.int .i64 y.t.id, .int .i64 y.t.st, .int .i64 y.t.snap, .int .i64 y.t.cs, .slice y.ra y.t.rs.length y.rc, .slice y.wa y.t.ws.length y.wc, .bool y.t.out, .string y.t.nm] 62)) wr.heap.size [.int .i64 y.t.id, .int .i64 y.t.st, .int .i64 y.t.snap, .int .i64 y.t.cs, .slice y.ra y.t.rs.length y.rc, .slice y.wa y.t.ws.length y.wc, .bool y.t.out, .string y.t.nm]) := Bx.new wr [.int .i64 y.t.id, .int .i64 y.t.st, .int .i64 y.t.snap, .int .i64 y.t.cs, .slice y.ra y.t.rs.length y.rc, .slice y.wa y.t.ws.length y.wc, .bool y.t.out, .string y.t.nm] 62
   replace HR : Hid (Below w0.heap.size w0 (wr.alloc (.cells #[.int .i64 y.t.id, .int .i64 y.t.st, .int .i64 y.t.snap, .int .i64 y.t.cs, .slice y.ra y.t.rs.length y.rc, .slice y.wa y.t.ws.length y.wc, .bool y.t.out, .string y.t.nm] 62))) := HR.out.trans (hba.mono HR.out.size)
   clear hba r0 r1 r2 r3 r4 r5 r6 r7
   generalize (wr.alloc (.cells #[.int .i64 y.t.id, .int .i64 y.t.st, .int .i64 y.t.snap, .int .i64 y.t.cs, .slice y.ra y.t.rs.length y.rc, .slice y.wa y.t.ws.length y.wc, .bool y.t.out, .string y.t.nm] 62)) = w1 at *
   have bx1 := hide (BX.out.below HR.out)
   have q0 := bx1.out.at' 0 (by simp)
   have q1 := bx1.out.at' 1 (by simp)
   have q2 := bx1.out.at' 2 (by simp)
   have q3 := bx1.out.at' 3 (by simp)
   have q4 := bx1.out.at' 4 (by simp)
   have q5 := bx1.out.at' 5 (by simp)
   have y7 := BY.out.c7
   go_wp2_with fail
   refine (CF.out _ HR.out).mono ?_
   rintro ex w2 ⟨⟨a0, a1, k_, rfl, hk_, l0, l1, h0_, h1_⟩, hb⟩
   have HR2 : Hid (Below w0.heap.size w0 w2) := HR.out.trans (hb.mono HR.out.size)
   have L0 := hide l0
   have L1 := hide l1
   have O0 := hide h0_
   have O1 := hide h1_
   clear hb q0 q1 q2 q3 q4 q5 y7 bx1 BY HR CF HIN l0 l1 h0_ h1_
   have B4 : Hid (Bx ((w2.alloc (.cells #[.slice none 0 0, .slice none 0 0, .slice none 0 0, .int .i64 0, .int .i64 0, .slice none 0 0] 44)).alloc (.cells #[.int .i64 0, .int .i64 0, .int .i64 0, .int .i64 0, .int .i64 0, .slice none 0 0, .slice none 0 0, .bool false, .string ⟨#[]⟩, .string ⟨#[]⟩, .bool false, .slice none 0 0, .slice none 0 0, .slice none 0 0, .int .i64 0, .int .i64 0] 64)) w2.heap.size [.slice none 0 0, .slice none 0 0, .slice none 0 0, .int .i64 0, .int .i64 0, .slice none 0 0]) := (Bx.new w2 [.slice none 0 0, .slice none 0 0, .slice none 0 0, .int .i64 0, .int .i64 0, .slice none 0 0] 44).alloc _
   have B5 : Hid (Bx ((w2.alloc (.cells #[.slice none 0 0, .slice none 0 0, .slice none 0 0, .int .i64 0, .int .i64 0, .slice none 0 0] 44)).alloc (.cells #[.int .i64 0, .int .i64 0, .int .i64 0, .int .i64 0, .int .i64 0, .slice none 0 0, .slice none 0 0, .bool false, .string ⟨#[]⟩, .string ⟨#[]⟩, .bool false, .slice none 0 0, .slice none 0 0, .slice none 0 0, .int .i64 0, .int .i64 0] 64)) (w2.heap.size + 1) [.int .i64 0, .int .i64 0, .int .i64 0, .int .i64 0, .int .i64 0, .slice none 0 0, .slice none 0 0, .bool false, .string ⟨#[]⟩, .string ⟨#[]⟩, .bool false, .slice none 0 0, .slice none 0 0, .slice none 0 0, .int .i64 0, .int .i64 0]) := by
    have h := Bx.new (w2.alloc (.cells #[.slice none 0 0, .slice none 0 0, .slice none 0 0, .int .i64 0, .int .i64 0, .slice none 0 0] 44)) [.int .i64 0, .int .i64 0, .int .i64 0, .int .i64 0, .int .i64 0, .slice none 0 0, .slice none 0 0, .bool false, .string ⟨#[]⟩, .string ⟨#[]⟩, .bool false, .slice none 0 0, .slice none 0 0, .slice none 0 0, .int .i64 0, .int .i64 0] 64
    rw [World.size_alloc] at h
    exact h
   have HR3 : Hid (Below w0.heap.size w0 ((w2.alloc (.cells #[.slice none 0 0, .slice none 0 0, .slice none 0 0, .int .i64 0, .int .i64 0, .slice none 0 0] 44)).alloc (.cells #[.int .i64 0, .int .i64 0, .int .i64 0, .int .i64 0, .int .i64 0, .slice none 0 0, .slice none 0 0, .bool false, .string ⟨#[]⟩, .string ⟨#[]⟩, .bool false, .slice none 0 0, .slice none 0 0, .slice none 0 0, .int .i64 0, .int .i64 0] 64))) := (HR2.out.alloc HR2.out.size _).alloc (by have := HR2.out.size; simp; omega) _
   have hz2 := HR2.out.size
   go_wp2_with (refine wpStoreN a0.toArray rfl 44 _ _ rfl (by rw [List.size_toArray, L0.out]; kernel_rfl) (by kernel_rfl) (by kernel_rfl) B4.out (by rw [List.size_toArray, L0.out]; rfl) (all_oneCell_toArray O0.out) ?_)
   intro w3 b3 z3 _
   have B53 := hide (B5.out.zn z3 (Or.inr (Nat.le_refl _)))
   have HR4 : Hid (Below w0.heap.size w0 w3) := HR3.out.trans (z3.below hz2 HR3.out.size)
   clear b3 z3 B4 B5 HR3
   go_wp2_with (refine wpStoreN a1.toArray rfl 64 _ _ rfl (by rw [List.size_toArray, L1.out]; kernel_rfl) (by kernel_rfl) (by kernel_rfl) B53.out (by rw [List.size_toArray, L1.out]; rfl) (all_oneCell_toArray O1.out) ?_)
   intro w4 b4 z4 _
   have HR5 : Hid (Below w0.heap.size w0 w4) := HR4.out.trans (z4.below (by omega) HR4.out.size)
   clear b4 z4 B53 HR4 HR2
   rcases hk_ with rfl | rfl
   ·go_wp2
    go_roundw
    case rel => exact ⟨k + 1, by omega, by go_num, HR5⟩
    case measure => simp [intOf]; omega
   ·go_wp2
    go_roundw
    case rel => exact ⟨k + 1, by omega, by go_num, HR5⟩
    case measure => simp [intOf]; omega
  ·have hd : ¬ (k : Int) < (x.s.e.b.qs.length : Int) := by omega
   go_wp2
   go_ret
   exact ⟨rfl, HB.out.trans (HR.out.mono HB.out.size)⟩

end Go.Proofs.YtmijppfppigjcaaGreat

namespace Go.Proofs.YtmijppfppigjcaaGreat
open Go.RowKit
open KM
open VM
attribute [local go_sem ↓] Go.wp_at_zero Go.wp_at_succ

theorem at_eq (o : Option Nd) (i : Nat) : (atI o == (i : Int)) = (o.map (·.1) == some i) := by
 cases o with
 | none =>
  have h : ((-1 : Int) == (i : Int)) = false := by rw [beq_eq_false_iff_ne]; omega
  exact h
 | some x =>
  show ((x.1 : Int) == (i : Int)) = (some x.1 == some i)
  by_cases e : x.1 = i
  ·simp [e]
  ·have h1 : ((x.1 : Int) == (i : Int)) = false := by rw [beq_eq_false_iff_ne]; omega
   have h2 : (some x.1 == some i) = false := by rw [beq_eq_false_iff_ne]; simpa using e
   rw [h1, h2]
theorem cntV_yes {k : ByteArray} {l : List Vr} {m : Nat} (hm : m < l.length) (h : (l[m].1.toList == k.toList) = true) : cntV k (l.take (m + 1)) = cntV k (l.take m) + 1 := by
 rw [beq_text] at h
 unfold cntV
 rw [filter_yes hm (by simpa using h), List.length_append]; rfl
theorem cntV_no {k : ByteArray} {l : List Vr} {m : Nat} (hm : m < l.length) (h : (l[m].1.toList == k.toList) = false) : cntV k (l.take (m + 1)) = cntV k (l.take m) := by
 rw [beq_text] at h
 unfold cntV
 rw [filter_no hm (by simpa using h)]
theorem cntV_le (k : ByteArray) (l : List Vr) : cntV k l ≤ l.length := List.length_filter_le _ _
theorem cntV_pos {l : List Vr} {k : Nat} (h : k < l.length) : 1 ≤ cntV l[k].1 l := by
 unfold cntV
 exact List.length_pos_iff.2 (List.ne_nil_of_mem (List.mem_filter.2 ⟨List.getElem_mem h, by simp⟩))

set_option maxRecDepth 100000 in
set_option maxHeartbeats 4000000 in
theorem strim (vs : List Vr) (a : Option Addr) (c : Nat) (s : Int) (hn : vs.length ≤ 10000000) (w : World) (hp : GRow encV w a vs) :
  Calls Tryz.prog 56 #[.slice a vs.length c, .int .i64 s] w fun e w' => ∃ a1 c1, e = .returned (.slice a1 (trimB s vs).length c1) ∧ GOwn encV 150 w' w.heap.size (.slice a1 (trimB s vs).length c1) (trimB s vs) ∧ Below w.heap.size w w' := by
 have HP : Hid (GRow encV w a vs) := hp
 clear hp
 go_enter Tryz.func56, Tryz.ntmps56
 go_wp2
 go_loopw [5, 6] (fun v t wr => ∃ i : Nat, i ≤ vs.length ∧ t = .int .i64 i ∧ Hid (GOwn encV 150 wr w.heap.size v (T1 s vs i)) ∧ Hid (Below w.heap.size w wr)) (fun _ t _ => vs.length - (intOf t).toNat)
 case atStart => exact ⟨0, Nat.zero_le _, rfl, GOwn.empty w _ (Nat.le_refl _), (belowRefl w).alloc (Nat.le_refl _) _⟩
 case round =>
  obtain ⟨i, hi, rfl, HO, HB⟩ := hrel
  by_cases hlt : i < vs.length
  ·have hlt' : (i : Int) < (vs.length : Int) := by omega
   have hi0 : (0 : Int) ≤ (i : Int) := by omega
   have HR : Hid (GRow encV wr a vs) := HP.out.below HB.out
   obtain ⟨b, off, rfl, hbl, hc⟩ := HR.out (by omega)
   have HPc : Hid (pcells wr b (off + i * 4) vs[i]) := vat hc i hlt
   have c0 := HPc.out.1
   clear hc
   have hll : (T1 s vs i).length ≤ 100000000 := Nat.le_trans (T1_len s vs i) (by omega)
   have HA : Hid (∀ w', Below wr.heap.size wr w' → Calls Tryz.prog 83 #[.slice (some ⟨b, off, none⟩) vs.length c, .string vs[i].1, .int .i64 s] w' fun e w2 => e = .returned (.int .i64 (atI (lst vs[i].1 s (lab vs vs.length)))) ∧ Below w'.heap.size w' w2) := fun w' hb => at53 vs _ c vs[i].1 s (by omega) w' (HR.out.below hb)
   obtain ⟨z, hz⟩ : ∃ z, z = atI (lst vs[i].1 s (lab vs vs.length)) := ⟨_, rfl⟩
   have HZ : Hid (keep s (lab vs vs.length) (i, vs[i]) = (decide (s < vs[i].2.2.2) || (z == (i : Int)))) := by show _ = _; unfold keep; rw [hz, at_eq]
   rw [← hz] at HA
   clear hz
   go_wp2_with fail
   refine (HA.out _ (belowRefl wr)).mono ?_
   rintro e w2 ⟨rfl, hb2⟩
   have HO2 := hide (HO.out.below hb2)
   have HB2 : Hid (Below w.heap.size w w2) := HB.out.trans (hb2.mono HB.out.size)
   have P2 := HPc.out.below' hbl hb2
   have d0 := P2.1
   have d1 := P2.2.1
   have d2 := P2.2.2.1
   have d3 := P2.2.2.2
   clear hb2 c0 P2 HPc HO HB HR HA
   by_cases hcs : s < vs[i].2.2.2
   ·have HKp : Hid (keep s (lab vs vs.length) (i, vs[i]) = true) := by show _ = _; rw [HZ.out, decide_eq_true hcs]; rfl
    go_wp2_with (at_builtin; refine wpAppV rfl _ _ rfl vs[i] rfl HO2.out rfl hll HB2.out.size ?_)
    intro v' w' ho' hb'
    have HO3 : Hid (GOwn encV 150 w' w.heap.size v' (T1 s vs (i + 1))) := by
     show GOwn _ _ _ _ _ _
     rw [T1_yes hlt HKp.out]; exact ho'
    have HB3 : Hid (Below w.heap.size w w') := HB2.out.trans hb'
    clear ho' hb'
    go_wp2
    go_roundw
    case rel => exact ⟨i + 1, by omega, by go_num, HO3, HB3⟩
    case measure => simp [intOf]; omega
   ·have hcs' : decide (s < vs[i].2.2.2) = false := by simpa using hcs
    cases hz : (z == (i : Int))
    ·have HKp : Hid (keep s (lab vs vs.length) (i, vs[i]) = false) := by show _ = _; rw [HZ.out, hcs', hz]; rfl
     have ho2 := HO2.out
     rw [← T1_no hlt HKp.out] at ho2
     have HO3 := hide ho2
     clear ho2
     go_wp2
     go_roundw
     case rel => exact ⟨i + 1, by omega, by go_num, HO3, HB2⟩
     case measure => simp [intOf]; omega
    ·have HKp : Hid (keep s (lab vs vs.length) (i, vs[i]) = true) := by show _ = _; rw [HZ.out, hcs', hz]; rfl
     go_wp2_with (at_builtin; refine wpAppV rfl _ _ rfl vs[i] rfl HO2.out rfl hll HB2.out.size ?_)
     intro v' w' ho' hb'
     have HO3 : Hid (GOwn encV 150 w' w.heap.size v' (T1 s vs (i + 1))) := by
      show GOwn _ _ _ _ _ _
      rw [T1_yes hlt HKp.out]; exact ho'
     have HB3 : Hid (Below w.heap.size w w') := HB2.out.trans hb'
     clear ho' hb'
     go_wp2
     go_roundw
     case rel => exact ⟨i + 1, by omega, by go_num, HO3, HB3⟩
     case measure => simp [intOf]; omega
  ·have hlt' : ¬ (i : Int) < (vs.length : Int) := by omega
   have hil : i = vs.length := by omega
   subst hil
   have ho := HO.out
   have HTr : Hid (trimB s vs = (T1 s vs vs.length).filter (stayV s (T1 s vs vs.length))) := rfl
   have hll : (T1 s vs vs.length).length ≤ 10000000 := Nat.le_trans (T1_len s vs _) hn
   obtain ⟨l, hl⟩ : ∃ l, l = T1 s vs vs.length := ⟨_, rfl⟩
   rw [← hl] at ho hll HTr
   clear hl
   obtain ⟨ao, cap, rfl, hrow⟩ := ho.row
   have HL : Hid (GRow encV wr ao l) := hrow
   clear ho hrow HO
   go_wp2
   go_loopw [8, 9] (fun v t wk => ∃ k : Nat, k ≤ l.length ∧ t = .int .i64 k ∧ Hid (GOwn encV 150 wk wr.heap.size v ((l.take k).filter (stayV s l))) ∧ Hid (Below wr.heap.size wr wk)) (fun _ t _ => l.length - (intOf t).toNat)
   case atStart => exact ⟨0, Nat.zero_le _, rfl, GOwn.empty wr _ (Nat.le_refl _), (belowRefl wr).alloc (Nat.le_refl _) _⟩
   case round =>
    rename World => wk
    obtain ⟨k, hk, rfl, HN, HBk⟩ := hrel
    by_cases hkl : k < l.length
    ·have hkl' : (k : Int) < (l.length : Int) := by omega
     have hk0 : (0 : Int) ≤ (k : Int) := by omega
     obtain ⟨b', off', rfl, hbl', hc'⟩ := (HL.out.below HBk.out) (by omega)
     have HPk : Hid (pcells wk b' (off' + k * 4) l[k]) := vat hc' k hkl
     clear hc'
     have hfl := filt_len (stayV s l) l k 100000000 (by omega)
     go_wp2
     go_loopw [10, 11] (fun v t wm => ∃ m : Nat, m ≤ l.length ∧ t = .int .i64 m ∧ v = .int .i64 ((cntV l[k].1 (l.take m) : Nat) : Int) ∧ Hid (Below wk.heap.size wk wm)) (fun _ t _ => l.length - (intOf t).toNat)
     case atStart => exact ⟨0, Nat.zero_le _, rfl, rfl, belowRefl wk⟩
     case round =>
      rename World => wm
      obtain ⟨m, hm, rfl, hv, HBm⟩ := hrel
      by_cases hml : m < l.length
      ·have hml' : (m : Int) < (l.length : Int) := by omega
       have hm0 : (0 : Int) ≤ (m : Int) := by omega
       obtain ⟨q, hq⟩ : ∃ q, q = cntV l[k].1 (l.take m) := ⟨_, rfl⟩
       have HQ : Hid (q = cntV l[k].1 (l.take m)) := hq
       have hql : q ≤ 10000000 := by rw [hq]; refine Nat.le_trans (cntV_le _ _) ?_; rw [List.length_take]; omega
       rw [← hq] at hv
       clear hq
       subst hv
       have HRm : Hid (GRow encV wm (some ⟨b', off', none⟩) l) := (HL.out.below HBk.out).below HBm.out
       obtain ⟨b2, off2, hbo, _, hc2⟩ := HRm.out (by omega)
       cases hbo
       have r0 := (vat hc2 m hml).1
       have r1 := (vat hc2 k hkl).1
       clear hc2
       cases he : (l[m].1.toList == l[k].1.toList)
       ·have HS : Hid ((q : Int) = ((cntV l[k].1 (l.take (m + 1)) : Nat) : Int)) := by show _ = _; rw [cntV_no hml he, HQ.out]
        go_wp2
        refine wp_region_held_drew (S := fun w' => w'.cell? ⟨b', off' + m * 4, none⟩ = some (.string l[m].1) ∧ w'.cell? ⟨b', off' + k * 4, none⟩ = some (.string l[k].1)) (by kernel_rfl) ⟨r0, r1⟩ (fun hHeld => ?_)
        (refine ti 0 ?_; simp only [Act.put, tA, tB, tD, tE, tF])
        (refine ti 1 ?_; simp only [Act.put, tA, tB, tC, tD, tE, tF])
        (refine ti 2 ?_; simp only [Act.put, tA, tB, tC, tD, tE, tF])
        (refine ti 3 ?_; simp only [Act.put, tA, tB, tC, tD, tE, tF])
        (refine ti 4 ?_; simp only [Act.put, tA, tB, tC, tD, tE, tF])
        (refine ti 5 ?_; simp only [Act.put, tA, tB, tC, tD, tE, tF])
        (refine ti 6 ?_; simp only [Act.put, tA, tB, tC, tD, tE, tF])
        (refine ti 7 ?_; simp only [Act.put, tA, tB, tC, tD, tE, tF])
        (refine ti 8 ?_; simp only [Act.put, tA, tB, tC, tD, tE, tF])
        (refine ti 9 ?_; simp only [Act.put, tA, tB, tC, tD, tE, tF])
        (refine ti 10 ?_; simp only [Act.put, tA, tB, tC, tD, tE, tF])
        refine wpAnyH_done (by kernel_rfl) ?_ _
        go_wp2
        go_roundw
        case rel => exact ⟨m + 1, by omega, by go_num, by rw [HS.out], HBm.out.drew⟩
        case measure => simp [intOf]; omega
       ·have HS : Hid ((q : Int) + 1 = ((cntV l[k].1 (l.take (m + 1)) : Nat) : Int)) := by show _ = _; rw [cntV_yes hml he, HQ.out]; omega
        go_wp2
        refine wp_region_held_drew (S := fun w' => w'.cell? ⟨b', off' + m * 4, none⟩ = some (.string l[m].1) ∧ w'.cell? ⟨b', off' + k * 4, none⟩ = some (.string l[k].1)) (by kernel_rfl) ⟨r0, r1⟩ (fun hHeld => ?_)
        (refine ti 0 ?_; simp only [Act.put, tA, tB, tD, tE, tF])
        (refine ti 1 ?_; simp only [Act.put, tA, tB, tC, tD, tE, tF])
        (refine ti 2 ?_; simp only [Act.put, tA, tB, tC, tD, tE, tF])
        (refine ti 3 ?_; simp only [Act.put, tA, tB, tC, tD, tE, tF])
        (refine ti 4 ?_; simp only [Act.put, tA, tB, tC, tD, tE, tF])
        (refine ti 5 ?_; simp only [Act.put, tA, tB, tC, tD, tE, tF])
        (refine ti 6 ?_; simp only [Act.put, tA, tB, tC, tD, tE, tF])
        (refine ti 7 ?_; simp only [Act.put, tA, tB, tC, tD, tE, tF])
        (refine ti 8 ?_; simp only [Act.put, tA, tB, tC, tD, tE, tF])
        (refine ti 9 ?_; simp only [Act.put, tA, tB, tC, tD, tE, tF])
        (refine ti 10 ?_; simp only [Act.put, tA, tB, tC, tD, tE, tF])
        refine wpAnyH_done (by kernel_rfl) ?_ _
        go_wp2
        go_roundw
        case rel => exact ⟨m + 1, by omega, by go_num, by rw [HS.out], HBm.out.drew⟩
        case measure => simp [intOf]; omega
      ·have hml' : ¬ (m : Int) < (l.length : Int) := by omega
       have hmn : m = l.length := by omega
       subst hmn
       obtain ⟨q, hq⟩ : ∃ q, q = cntV l[k].1 l := ⟨_, rfl⟩
       have hq1 : 1 ≤ q := by rw [hq]; exact cntV_pos hkl
       have HSt : Hid (stayV s l l[k] = !(decide (l[k].2.2.2 ≤ s) && l[k].2.2.1 && (q == 1))) := by show _ = _; unfold stayV; rw [hq]
       rw [List.take_length, ← hq] at hv
       clear hq
       subst hv
       have HNm := hide (HN.out.below HBm.out)
       have HBf : Hid (Below wr.heap.size wr wm) := HBk.out.trans (HBm.out.mono HBk.out.size)
       have P2 := HPk.out.below' hbl' HBm.out
       have d0 := P2.1
       have d1 := P2.2.1
       have d2 := P2.2.2.1
       have d3 := P2.2.2.2
       clear P2
       obtain ⟨g, hg⟩ : ∃ g, l[k].2.2.1 = g := ⟨_, rfl⟩
       rw [hg] at d2 HSt
       cases g
       ·have HEl : Hid (l[k] = (l[k].1, l[k].2.1, false, l[k].2.2.2)) := by show _ = _; rw [← hg]
        clear hg
        have HY : Hid (stayV s l l[k] = true) := by show _ = _; rw [HSt.out]; simp
        go_wp2_with (at_builtin; refine wpAppV rfl _ _ rfl (l[k].1, l[k].2.1, false, l[k].2.2.2) rfl HNm.out rfl hfl HBf.out.size ?_)
        intro v' w' ho' hb'
        have HN3 : Hid (GOwn encV 150 w' wr.heap.size v' ((l.take (k + 1)).filter (stayV s l))) := by
         show GOwn _ _ _ _ _ _
         rw [filter_yes hkl HY.out, HEl.out]; exact ho'
        have HB3 : Hid (Below wr.heap.size wr w') := HBf.out.trans hb'
        clear ho' hb'
        go_wp2
        go_roundw
        case rel => exact ⟨k + 1, by omega, by go_num, HN3, HB3⟩
        case measure => simp [intOf]; omega
       ·have HEl : Hid (l[k] = (l[k].1, l[k].2.1, true, l[k].2.2.2)) := by show _ = _; rw [← hg]
        clear hg
        by_cases hcs : s < l[k].2.2.2
        ·have HY : Hid (stayV s l l[k] = true) := by show _ = _; rw [HSt.out, decide_eq_false (by omega : ¬ l[k].2.2.2 ≤ s)]; rfl
         go_wp2_with (at_builtin; refine wpAppV rfl _ _ rfl (l[k].1, l[k].2.1, true, l[k].2.2.2) rfl HNm.out rfl hfl HBf.out.size ?_)
         intro v' w' ho' hb'
         have HN3 : Hid (GOwn encV 150 w' wr.heap.size v' ((l.take (k + 1)).filter (stayV s l))) := by
          show GOwn _ _ _ _ _ _
          rw [filter_yes hkl HY.out, HEl.out]; exact ho'
         have HB3 : Hid (Below wr.heap.size wr w') := HBf.out.trans hb'
         clear ho' hb'
         go_wp2
         go_roundw
         case rel => exact ⟨k + 1, by omega, by go_num, HN3, HB3⟩
         case measure => simp [intOf]; omega
        ·have hcs' : decide (s < l[k].2.2.2) = false := by simpa using hcs
         by_cases hq2 : q = 1
         ·have HNo : Hid (stayV s l l[k] = false) := by show _ = _; rw [HSt.out, decide_eq_true (by omega : l[k].2.2.2 ≤ s), hq2]; rfl
          have ho2 := HNm.out
          rw [← filter_no hkl HNo.out] at ho2
          have HN3 := hide ho2
          have hq3 : ¬ (1 : Int) < (q : Int) := by omega
          have hq4 : decide ((1 : Int) < (q : Int)) = false := by simpa using hq3
          clear ho2 hq2 hcs
          go_wp2
          go_roundw
          case rel => exact ⟨k + 1, by omega, by go_num, HN3, HBf⟩
          case measure => simp [intOf]; omega
         ·have HY : Hid (stayV s l l[k] = true) := by show _ = _; rw [HSt.out, beq_eq_false_iff_ne.2 hq2]; simp
          have hq3 : (1 : Int) < (q : Int) := by omega
          have hq4 : decide ((1 : Int) < (q : Int)) = true := by simpa using hq3
          go_wp2_with (at_builtin; refine wpAppV rfl _ _ rfl (l[k].1, l[k].2.1, true, l[k].2.2.2) rfl HNm.out rfl hfl HBf.out.size ?_)
          intro v' w' ho' hb'
          have HN3 : Hid (GOwn encV 150 w' wr.heap.size v' ((l.take (k + 1)).filter (stayV s l))) := by
           show GOwn _ _ _ _ _ _
           rw [filter_yes hkl HY.out, HEl.out]; exact ho'
          have HB3 : Hid (Below wr.heap.size wr w') := HBf.out.trans hb'
          clear ho' hb'
          go_wp2
          go_roundw
          case rel => exact ⟨k + 1, by omega, by go_num, HN3, HB3⟩
          case measure => simp [intOf]; omega
    ·have hkl' : ¬ (k : Int) < (l.length : Int) := by omega
     have ho := HN.out
     rw [List.take_of_length_le (by omega), ← HTr.out] at ho
     obtain ⟨a1, c1, rfl, _⟩ := ho.row
     have HO1 : Hid (GOwn encV 150 wk w.heap.size (.slice a1 (trimB s vs).length c1) (trimB s vs)) := ho.mono HB.out.size
     have HB3 : Hid (Below w.heap.size w wk) := HB.out.trans (HBk.out.mono HB.out.size)
     clear ho HN
     go_wp2
     go_ret
     exact ⟨a1, c1, rfl, HO1.out, HB3.out⟩
end Go.Proofs.YtmijppfppigjcaaGreat

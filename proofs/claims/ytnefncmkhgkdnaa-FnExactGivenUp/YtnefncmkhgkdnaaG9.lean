/- The law FnExactGivenUp, walked. -/
import Derived.Test.YtnefncmkhgkdnaaG7
import Derived.Test.YtnefncmkhgkdnaaG8
import Derived.Test.YtnefncmkhgkdnaaOpenB
import Derived.Laws.EntriesVeiled
import Derived.Deep.RegionHeld3
import Derived.Deep.Cut
import Derived.Deep.CutRange
namespace Go.Proofs.Ytnefncmkhgkdnaa
open Go.RowKit
open KM
open VM
attribute [local go_sem ↓] Go.wp_at_zero Go.wp_at_succ

theorem gcon (b : Bb) (nm : ByteArray) (hf : BFit b) : ∃ DD : Bb, BFit DD ∧ (∀ (c : Bb) (W : World), BSame b c → BRows W c → Calls Try.prog 36 #[.agg #[.slice c.va c.vs.length c.vc, .slice c.pa c.ps.length c.pc, .slice c.qa c.qs.length c.qc, .int .i64 c.cs, .int .i64 c.nx], .string nm] W fun e w' => ∃ d : Bb, e = .returned (.agg #[.slice d.va d.vs.length d.vc, .slice d.pa d.ps.length d.pc, .slice d.qa d.qs.length d.qc, .int .i64 d.cs, .int .i64 d.nx]) ∧ BSame DD d ∧ BLie w' W.heap.size w'.heap.size d ∧ Below W.heap.size W w') ∧ (∀ (c : Bb) (lo hi : Nat) (W : World), BSame b c → BLie W lo hi c → Calls Try.prog 34 #[.agg #[.slice c.va c.vs.length c.vc, .slice c.pa c.ps.length c.pc, .slice c.qa c.qs.length c.qc, .int .i64 c.cs, .int .i64 c.nx], .string nm] W fun e w' => ∃ d : Bb, e = .returned (.agg #[.slice d.va d.vs.length d.vc, .slice d.pa d.ps.length d.pc, .slice d.qa d.qs.length d.qc, .int .i64 d.cs, .int .i64 d.nx]) ∧ BSame DD d ∧ BLie w' W.heap.size w'.heap.size d ∧ Below W.heap.size W w') := by
  have ef : txs (b.qs.filter (keepN nm)) = (txs b.qs).filter (fun t : Tx => !(t.nm.toList == nm.toList)) := txs_filter (fun t : Tx => !(t.nm.toList == nm.toList)) b.qs
  refine ⟨⟨b.vs, b.ps, b.qs.filter (keepN nm), b.cs, b.nx, none, 0, none, 0, none, 0⟩, ⟨hf.vl, hf.vf, hf.p, ?_⟩, fun c W h1 h2 => ?_, fun c lo hi W h1 h2 => ?_⟩
  · show LFit (txs (b.qs.filter (keepN nm)))
    rw [ef]
    exact ⟨Nat.le_trans (List.length_filter_le _ _) hf.q.1, fun y hy => hf.q.2 y ((List.mem_filter.1 hy).1)⟩
  · refine (igiven c nm (h1.fit hf) W h2).mono ?_
    rintro e w' ⟨d, he, ⟨q1, q2, q3, q4, q5⟩, hl, hb⟩
    exact ⟨d, he, ⟨q1.trans h1.v, q2.trans h1.p, by rw [q3, h1.q]; exact ef.symm, q4.trans h1.cs, q5.trans h1.nx⟩, hl, hb⟩
  · refine (sgiven c nm lo hi (h1.fit hf) W h2).mono ?_
    rintro e w' ⟨d, he, ⟨q1, q2, q3, q4, q5⟩, hl, hb⟩
    exact ⟨d, he, ⟨q1.trans h1.v, q2.trans h1.p, by rw [q3, h1.q]; exact ef.symm, q4.trans h1.cs, q5.trans h1.nx⟩, hl, hb⟩

set_option maxRecDepth 100000 in
set_option maxHeartbeats 6000000 in
theorem law7 (b : Bb) (nm : ByteArray) (w : World) (hpb : BArg w b) (_hnm : nm.size ≤ maxLen) : Calls Try.prog 7 #[.agg #[.slice b.va b.vs.length b.vc, .slice b.pa b.ps.length b.pc, .slice b.qa b.qs.length b.qc, .int .i64 b.cs, .int .i64 b.nx], .string nm] w fun e w' => e = .returned (.bool true) ∧ Below w.heap.size w w' := by
  have HPb : Hid (BArg w b) := hpb
  clear hpb
  have BA : Hid (Bx (w.alloc (.cells #[.slice b.va b.vs.length b.vc, .slice b.pa b.ps.length b.pc, .slice b.qa b.qs.length b.qc, .int .i64 b.cs, .int .i64 b.nx] 53)) w.heap.size [.slice b.va b.vs.length b.vc, .slice b.pa b.ps.length b.pc, .slice b.qa b.qs.length b.qc, .int .i64 b.cs, .int .i64 b.nx]) := Bx.new w [.slice b.va b.vs.length b.vc, .slice b.pa b.ps.length b.pc, .slice b.qa b.qs.length b.qc, .int .i64 b.cs, .int .i64 b.nx] 53
  have HB : Hid (Below w.heap.size w (w.alloc (.cells #[.slice b.va b.vs.length b.vc, .slice b.pa b.ps.length b.pc, .slice b.qa b.qs.length b.qc, .int .i64 b.cs, .int .i64 b.nx] 53))) := (belowRefl w).alloc (Nat.le_refl _) _
  have AB : Hid (BArg (w.alloc (.cells #[.slice b.va b.vs.length b.vc, .slice b.pa b.ps.length b.pc, .slice b.qa b.qs.length b.qc, .int .i64 b.cs, .int .i64 b.nx] 53)) b) := HPb.out.below HB.out
  by_cases hl : (1048576 : Int) < (nm.size : Int)
  · go_enter Try.func7, Try.ntmps7
    go_wp2
    go_ret
    exact ⟨rfl, HB.out⟩
  go_enter Try.func7, Try.ntmps7
  have x0 := BA.out.c0
  have x1 := BA.out.c1
  have x2 := BA.out.c2
  have x3 := BA.out.c3
  have x4 := BA.out.c4
  go_wp2_with fail
  refine (szB b 1048576 (by omega) (by omega) _ AB.out).mono ?_
  rintro e w1 ⟨hb1, lft, rfl, hut, hrt⟩
  have Z1 : Hid (w.heap.size + 1 ≤ w1.heap.size) := by show _ ≤ _; have h := hb1.size; simpa using h
  replace BA : Hid (Bx w1 w.heap.size [.slice b.va b.vs.length b.vc, .slice b.pa b.ps.length b.pc, .slice b.qa b.qs.length b.qc, .int .i64 b.cs, .int .i64 b.nx]) := BA.out.below hb1
  replace HB : Hid (Below w.heap.size w w1) := HB.out.trans (hb1.mono HB.out.size)
  replace AB : Hid (BArg w1 b) := HPb.out.below HB.out
  clear hb1 x0 x1 x2 x3 x4
  by_cases hneg : lft < 0
  · clear hrt
    go_wp2
    go_ret
    exact ⟨rfl, HB.out⟩
  have hpost : ¬ lft < 0 := hneg
  have HF : Hid (BFit b) := hrt (by omega)
  clear hrt hneg
  obtain ⟨DD, hfd, ci, cs⟩ := gcon b nm HF.out
  have HFD : Hid (BFit DD) := hfd
  have CI := hide ci
  have CS := hide cs
  clear hfd ci cs
  have x0 := BA.out.c0
  have x1 := BA.out.c1
  have x2 := BA.out.c2
  have x3 := BA.out.c3
  have x4 := BA.out.c4
  go_wp2_with fail
  refine (toB b HF.out _ AB.out.rows).mono ?_
  rintro e w2 ⟨c1, rfl, hs, hl, hb2⟩
  have Z2 : Hid (w1.heap.size ≤ w2.heap.size) := by show _ ≤ _; have h := hb2.size; simpa using h
  replace BA : Hid (Bx w2 w.heap.size [.slice b.va b.vs.length b.vc, .slice b.pa b.ps.length b.pc, .slice b.qa b.qs.length b.qc, .int .i64 b.cs, .int .i64 b.nx]) := BA.out.below hb2
  replace HB : Hid (Below w.heap.size w w2) := HB.out.trans (hb2.mono HB.out.size)
  replace AB : Hid (BArg w2 b) := HPb.out.below HB.out
  have C1 : Hid (BSame b c1) := hs
  clear hs
  clear hb2 x0 x1 x2 x3 x4
  have L1 : Hid (BLie w2 (w1.heap.size) w2.heap.size c1) := hl
  clear hl
  go_wp2_with fail
  refine (CS.out c1 _ _ _ C1.out L1.out).mono ?_
  rintro e w3 ⟨d1, rfl, hs, hl, hb3⟩
  have Z3 : Hid (w2.heap.size ≤ w3.heap.size) := by show _ ≤ _; have h := hb3.size; simpa using h
  replace BA : Hid (Bx w3 w.heap.size [.slice b.va b.vs.length b.vc, .slice b.pa b.ps.length b.pc, .slice b.qa b.qs.length b.qc, .int .i64 b.cs, .int .i64 b.nx]) := BA.out.below hb3
  replace HB : Hid (Below w.heap.size w w3) := HB.out.trans (hb3.mono HB.out.size)
  replace AB : Hid (BArg w3 b) := HPb.out.below HB.out
  replace L1 : Hid (BLie w3 (w1.heap.size) w2.heap.size c1) := L1.out.below hb3
  have D1 : Hid (BSame DD d1) := hs
  clear hs
  clear hb3
  have M1 : Hid (BLie w3 (w2.heap.size) w3.heap.size d1) := hl
  clear hl
  clear L1
  have hba : Below w3.heap.size w3 (w3.alloc (.cells #[.slice d1.va d1.vs.length d1.vc, .slice d1.pa d1.ps.length d1.pc, .slice d1.qa d1.qs.length d1.qc, .int .i64 d1.cs, .int .i64 d1.nx] 46)) := (belowRefl _).alloc (Nat.le_refl _) _
  replace BA : Hid (Bx (w3.alloc (.cells #[.slice d1.va d1.vs.length d1.vc, .slice d1.pa d1.ps.length d1.pc, .slice d1.qa d1.qs.length d1.qc, .int .i64 d1.cs, .int .i64 d1.nx] 46)) w.heap.size [.slice b.va b.vs.length b.vc, .slice b.pa b.ps.length b.pc, .slice b.qa b.qs.length b.qc, .int .i64 b.cs, .int .i64 b.nx]) := BA.out.below hba
  replace HB : Hid (Below w.heap.size w (w3.alloc (.cells #[.slice d1.va d1.vs.length d1.vc, .slice d1.pa d1.ps.length d1.pc, .slice d1.qa d1.qs.length d1.qc, .int .i64 d1.cs, .int .i64 d1.nx] 46))) := HB.out.trans (hba.mono HB.out.size)
  replace AB : Hid (BArg (w3.alloc (.cells #[.slice d1.va d1.vs.length d1.vc, .slice d1.pa d1.ps.length d1.pc, .slice d1.qa d1.qs.length d1.qc, .int .i64 d1.cs, .int .i64 d1.nx] 46)) b) := HPb.out.below HB.out
  replace M1 : Hid (BLie (w3.alloc (.cells #[.slice d1.va d1.vs.length d1.vc, .slice d1.pa d1.ps.length d1.pc, .slice d1.qa d1.qs.length d1.qc, .int .i64 d1.cs, .int .i64 d1.nx] 46)) (w2.heap.size) w3.heap.size d1) := M1.out.below hba
  clear hba
  have OB1 : Hid (Bx (w3.alloc (.cells #[.slice d1.va d1.vs.length d1.vc, .slice d1.pa d1.ps.length d1.pc, .slice d1.qa d1.qs.length d1.qc, .int .i64 d1.cs, .int .i64 d1.nx] 46)) (w3.heap.size) [.slice d1.va d1.vs.length d1.vc, .slice d1.pa d1.ps.length d1.pc, .slice d1.qa d1.qs.length d1.qc, .int .i64 d1.cs, .int .i64 d1.nx]) := Bx.new w3 [.slice d1.va d1.vs.length d1.vc, .slice d1.pa d1.ps.length d1.pc, .slice d1.qa d1.qs.length d1.qc, .int .i64 d1.cs, .int .i64 d1.nx] 46
  have x0 := BA.out.c0
  have x1 := BA.out.c1
  have x2 := BA.out.c2
  have x3 := BA.out.c3
  have x4 := BA.out.c4
  go_wp2_with fail
  refine (toB b HF.out _ AB.out.rows).mono ?_
  rintro e w4 ⟨c2, rfl, hs, hl, hb4⟩
  have Z4 : Hid (w3.heap.size + 1 ≤ w4.heap.size) := by show _ ≤ _; have h := hb4.size; simpa using h
  replace BA : Hid (Bx w4 w.heap.size [.slice b.va b.vs.length b.vc, .slice b.pa b.ps.length b.pc, .slice b.qa b.qs.length b.qc, .int .i64 b.cs, .int .i64 b.nx]) := BA.out.below hb4
  replace HB : Hid (Below w.heap.size w w4) := HB.out.trans (hb4.mono HB.out.size)
  replace AB : Hid (BArg w4 b) := HPb.out.below HB.out
  replace M1 : Hid (BLie w4 (w2.heap.size) w3.heap.size d1) := M1.out.below hb4
  replace OB1 : Hid (Bx w4 (w3.heap.size) [.slice d1.va d1.vs.length d1.vc, .slice d1.pa d1.ps.length d1.pc, .slice d1.qa d1.qs.length d1.qc, .int .i64 d1.cs, .int .i64 d1.nx]) := OB1.out.below hb4
  have C2 : Hid (BSame b c2) := hs
  clear hs
  clear hb4 x0 x1 x2 x3 x4
  have L2 : Hid (BLie w4 (w3.heap.size + 1) w4.heap.size c2) := (by show BLie _ _ _ _; simpa using hl)
  clear hl
  have hba : Below w4.heap.size w4 (w4.alloc (.cells #[.slice c2.va c2.vs.length c2.vc, .slice c2.pa c2.ps.length c2.pc, .slice c2.qa c2.qs.length c2.qc, .int .i64 c2.cs, .int .i64 c2.nx] 46)) := (belowRefl _).alloc (Nat.le_refl _) _
  replace BA : Hid (Bx (w4.alloc (.cells #[.slice c2.va c2.vs.length c2.vc, .slice c2.pa c2.ps.length c2.pc, .slice c2.qa c2.qs.length c2.qc, .int .i64 c2.cs, .int .i64 c2.nx] 46)) w.heap.size [.slice b.va b.vs.length b.vc, .slice b.pa b.ps.length b.pc, .slice b.qa b.qs.length b.qc, .int .i64 b.cs, .int .i64 b.nx]) := BA.out.below hba
  replace HB : Hid (Below w.heap.size w (w4.alloc (.cells #[.slice c2.va c2.vs.length c2.vc, .slice c2.pa c2.ps.length c2.pc, .slice c2.qa c2.qs.length c2.qc, .int .i64 c2.cs, .int .i64 c2.nx] 46))) := HB.out.trans (hba.mono HB.out.size)
  replace AB : Hid (BArg (w4.alloc (.cells #[.slice c2.va c2.vs.length c2.vc, .slice c2.pa c2.ps.length c2.pc, .slice c2.qa c2.qs.length c2.qc, .int .i64 c2.cs, .int .i64 c2.nx] 46)) b) := HPb.out.below HB.out
  replace M1 : Hid (BLie (w4.alloc (.cells #[.slice c2.va c2.vs.length c2.vc, .slice c2.pa c2.ps.length c2.pc, .slice c2.qa c2.qs.length c2.qc, .int .i64 c2.cs, .int .i64 c2.nx] 46)) (w2.heap.size) w3.heap.size d1) := M1.out.below hba
  replace OB1 : Hid (Bx (w4.alloc (.cells #[.slice c2.va c2.vs.length c2.vc, .slice c2.pa c2.ps.length c2.pc, .slice c2.qa c2.qs.length c2.qc, .int .i64 c2.cs, .int .i64 c2.nx] 46)) (w3.heap.size) [.slice d1.va d1.vs.length d1.vc, .slice d1.pa d1.ps.length d1.pc, .slice d1.qa d1.qs.length d1.qc, .int .i64 d1.cs, .int .i64 d1.nx]) := OB1.out.below hba
  replace L2 : Hid (BLie (w4.alloc (.cells #[.slice c2.va c2.vs.length c2.vc, .slice c2.pa c2.ps.length c2.pc, .slice c2.qa c2.qs.length c2.qc, .int .i64 c2.cs, .int .i64 c2.nx] 46)) (w3.heap.size + 1) w4.heap.size c2) := L2.out.below hba
  clear hba
  have BX : Hid (Bx (w4.alloc (.cells #[.slice c2.va c2.vs.length c2.vc, .slice c2.pa c2.ps.length c2.pc, .slice c2.qa c2.qs.length c2.qc, .int .i64 c2.cs, .int .i64 c2.nx] 46)) (w4.heap.size) [.slice c2.va c2.vs.length c2.vc, .slice c2.pa c2.ps.length c2.pc, .slice c2.qa c2.qs.length c2.qc, .int .i64 c2.cs, .int .i64 c2.nx]) := Bx.new w4 [.slice c2.va c2.vs.length c2.vc, .slice c2.pa c2.ps.length c2.pc, .slice c2.qa c2.qs.length c2.qc, .int .i64 c2.cs, .int .i64 c2.nx] 46
  have x0 := BX.out.c0
  have x1 := BX.out.c1
  have x2 := BX.out.c2
  have x3 := BX.out.c3
  have x4 := BX.out.c4
  go_wp2_with fail
  refine (CI.out c2 _ C2.out L2.out.rows).mono ?_
  rintro e w5 ⟨d2, rfl, hs, hl, hb5⟩
  have Z5 : Hid (w4.heap.size + 1 ≤ w5.heap.size) := by show _ ≤ _; have h := hb5.size; simpa using h
  replace BA : Hid (Bx w5 w.heap.size [.slice b.va b.vs.length b.vc, .slice b.pa b.ps.length b.pc, .slice b.qa b.qs.length b.qc, .int .i64 b.cs, .int .i64 b.nx]) := BA.out.below hb5
  replace HB : Hid (Below w.heap.size w w5) := HB.out.trans (hb5.mono HB.out.size)
  replace AB : Hid (BArg w5 b) := HPb.out.below HB.out
  replace M1 : Hid (BLie w5 (w2.heap.size) w3.heap.size d1) := M1.out.below hb5
  replace OB1 : Hid (Bx w5 (w3.heap.size) [.slice d1.va d1.vs.length d1.vc, .slice d1.pa d1.ps.length d1.pc, .slice d1.qa d1.qs.length d1.qc, .int .i64 d1.cs, .int .i64 d1.nx]) := OB1.out.below hb5
  replace L2 : Hid (BLie w5 (w3.heap.size + 1) w4.heap.size c2) := L2.out.below hb5
  replace BX : Hid (Bx w5 (w4.heap.size) [.slice c2.va c2.vs.length c2.vc, .slice c2.pa c2.ps.length c2.pc, .slice c2.qa c2.qs.length c2.qc, .int .i64 c2.cs, .int .i64 c2.nx]) := BX.out.below hb5
  have D2 : Hid (BSame DD d2) := hs
  clear hs
  clear hb5 x0 x1 x2 x3 x4
  have M2 : Hid (BLie w5 (w4.heap.size + 1) w5.heap.size d2) := (by show BLie _ _ _ _; simpa using hl)
  clear hl
  have hba : Below w5.heap.size w5 (w5.alloc (.cells #[.slice d2.va d2.vs.length d2.vc, .slice d2.pa d2.ps.length d2.pc, .slice d2.qa d2.qs.length d2.qc, .int .i64 d2.cs, .int .i64 d2.nx] 46)) := (belowRefl _).alloc (Nat.le_refl _) _
  replace BA : Hid (Bx (w5.alloc (.cells #[.slice d2.va d2.vs.length d2.vc, .slice d2.pa d2.ps.length d2.pc, .slice d2.qa d2.qs.length d2.qc, .int .i64 d2.cs, .int .i64 d2.nx] 46)) w.heap.size [.slice b.va b.vs.length b.vc, .slice b.pa b.ps.length b.pc, .slice b.qa b.qs.length b.qc, .int .i64 b.cs, .int .i64 b.nx]) := BA.out.below hba
  replace HB : Hid (Below w.heap.size w (w5.alloc (.cells #[.slice d2.va d2.vs.length d2.vc, .slice d2.pa d2.ps.length d2.pc, .slice d2.qa d2.qs.length d2.qc, .int .i64 d2.cs, .int .i64 d2.nx] 46))) := HB.out.trans (hba.mono HB.out.size)
  replace AB : Hid (BArg (w5.alloc (.cells #[.slice d2.va d2.vs.length d2.vc, .slice d2.pa d2.ps.length d2.pc, .slice d2.qa d2.qs.length d2.qc, .int .i64 d2.cs, .int .i64 d2.nx] 46)) b) := HPb.out.below HB.out
  replace M1 : Hid (BLie (w5.alloc (.cells #[.slice d2.va d2.vs.length d2.vc, .slice d2.pa d2.ps.length d2.pc, .slice d2.qa d2.qs.length d2.qc, .int .i64 d2.cs, .int .i64 d2.nx] 46)) (w2.heap.size) w3.heap.size d1) := M1.out.below hba
  replace OB1 : Hid (Bx (w5.alloc (.cells #[.slice d2.va d2.vs.length d2.vc, .slice d2.pa d2.ps.length d2.pc, .slice d2.qa d2.qs.length d2.qc, .int .i64 d2.cs, .int .i64 d2.nx] 46)) (w3.heap.size) [.slice d1.va d1.vs.length d1.vc, .slice d1.pa d1.ps.length d1.pc, .slice d1.qa d1.qs.length d1.qc, .int .i64 d1.cs, .int .i64 d1.nx]) := OB1.out.below hba
  replace L2 : Hid (BLie (w5.alloc (.cells #[.slice d2.va d2.vs.length d2.vc, .slice d2.pa d2.ps.length d2.pc, .slice d2.qa d2.qs.length d2.qc, .int .i64 d2.cs, .int .i64 d2.nx] 46)) (w3.heap.size + 1) w4.heap.size c2) := L2.out.below hba
  replace BX : Hid (Bx (w5.alloc (.cells #[.slice d2.va d2.vs.length d2.vc, .slice d2.pa d2.ps.length d2.pc, .slice d2.qa d2.qs.length d2.qc, .int .i64 d2.cs, .int .i64 d2.nx] 46)) (w4.heap.size) [.slice c2.va c2.vs.length c2.vc, .slice c2.pa c2.ps.length c2.pc, .slice c2.qa c2.qs.length c2.qc, .int .i64 c2.cs, .int .i64 c2.nx]) := BX.out.below hba
  replace M2 : Hid (BLie (w5.alloc (.cells #[.slice d2.va d2.vs.length d2.vc, .slice d2.pa d2.ps.length d2.pc, .slice d2.qa d2.qs.length d2.qc, .int .i64 d2.cs, .int .i64 d2.nx] 46)) (w4.heap.size + 1) w5.heap.size d2) := M2.out.below hba
  clear hba
  have OB2 : Hid (Bx (w5.alloc (.cells #[.slice d2.va d2.vs.length d2.vc, .slice d2.pa d2.ps.length d2.pc, .slice d2.qa d2.qs.length d2.qc, .int .i64 d2.cs, .int .i64 d2.nx] 46)) (w5.heap.size) [.slice d2.va d2.vs.length d2.vc, .slice d2.pa d2.ps.length d2.pc, .slice d2.qa d2.qs.length d2.qc, .int .i64 d2.cs, .int .i64 d2.nx]) := Bx.new w5 [.slice d2.va d2.vs.length d2.vc, .slice d2.pa d2.ps.length d2.pc, .slice d2.qa d2.qs.length d2.qc, .int .i64 d2.cs, .int .i64 d2.nx] 46
  have x0 := OB2.out.c0
  have x1 := OB2.out.c1
  have x2 := OB2.out.c2
  have x3 := OB2.out.c3
  have x4 := OB2.out.c4
  have y0 := OB1.out.c0
  have y1 := OB1.out.c1
  have y2 := OB1.out.c2
  have y3 := OB1.out.c3
  have y4 := OB1.out.c4
  go_wp2_with fail
  refine (eqB d2 d1 (D2.out.symm.trans D1.out) (D2.out.fit HFD.out) _ M2.out.rows M1.out.rows).mono ?_
  rintro e w6 ⟨rfl, hb6⟩
  have Z6 : Hid (w5.heap.size + 1 ≤ w6.heap.size) := by show _ ≤ _; have h := hb6.size; simpa using h
  replace BA : Hid (Bx w6 w.heap.size [.slice b.va b.vs.length b.vc, .slice b.pa b.ps.length b.pc, .slice b.qa b.qs.length b.qc, .int .i64 b.cs, .int .i64 b.nx]) := BA.out.below hb6
  replace HB : Hid (Below w.heap.size w w6) := HB.out.trans (hb6.mono HB.out.size)
  replace AB : Hid (BArg w6 b) := HPb.out.below HB.out
  replace M1 : Hid (BLie w6 (w2.heap.size) w3.heap.size d1) := M1.out.below hb6
  replace OB1 : Hid (Bx w6 (w3.heap.size) [.slice d1.va d1.vs.length d1.vc, .slice d1.pa d1.ps.length d1.pc, .slice d1.qa d1.qs.length d1.qc, .int .i64 d1.cs, .int .i64 d1.nx]) := OB1.out.below hb6
  replace L2 : Hid (BLie w6 (w3.heap.size + 1) w4.heap.size c2) := L2.out.below hb6
  replace BX : Hid (Bx w6 (w4.heap.size) [.slice c2.va c2.vs.length c2.vc, .slice c2.pa c2.ps.length c2.pc, .slice c2.qa c2.qs.length c2.qc, .int .i64 c2.cs, .int .i64 c2.nx]) := BX.out.below hb6
  replace M2 : Hid (BLie w6 (w4.heap.size + 1) w5.heap.size d2) := M2.out.below hb6
  replace OB2 : Hid (Bx w6 (w5.heap.size) [.slice d2.va d2.vs.length d2.vc, .slice d2.pa d2.ps.length d2.pc, .slice d2.qa d2.qs.length d2.qc, .int .i64 d2.cs, .int .i64 d2.nx]) := OB2.out.below hb6
  clear hb6 x0 x1 x2 x3 x4 y0 y1 y2 y3 y4
  go_wp2
  refine wp_region_held_drew (S := fun w' => w'.cell? ⟨w4.heap.size, 0, none⟩ = some (.slice c2.va c2.vs.length c2.vc) ∧ w'.cell? ⟨w4.heap.size, 1, none⟩ = some (.slice c2.pa c2.ps.length c2.pc) ∧ w'.cell? ⟨w4.heap.size, 2, none⟩ = some (.slice c2.qa c2.qs.length c2.qc) ∧ w'.cell? ⟨w4.heap.size, 3, none⟩ = some (.int .i64 c2.cs) ∧ w'.cell? ⟨w4.heap.size, 4, none⟩ = some (.int .i64 c2.nx) ∧ w'.cell? ⟨w.heap.size, 0, none⟩ = some (.slice b.va b.vs.length b.vc) ∧ w'.cell? ⟨w.heap.size, 1, none⟩ = some (.slice b.pa b.ps.length b.pc) ∧ w'.cell? ⟨w.heap.size, 2, none⟩ = some (.slice b.qa b.qs.length b.qc) ∧ w'.cell? ⟨w.heap.size, 3, none⟩ = some (.int .i64 b.cs) ∧ w'.cell? ⟨w.heap.size, 4, none⟩ = some (.int .i64 b.nx)) (by kernel_rfl) ⟨BX.out.c0, BX.out.c1, BX.out.c2, BX.out.c3, BX.out.c4, BA.out.c0, BA.out.c1, BA.out.c2, BA.out.c3, BA.out.c4⟩ (fun hHeld => ?_)
  (refine wpAnyH_take (i := 0) (v := ?_) rfl (by kernel_rfl) (by kernel_rfl) (by kernel_rfl) (fun _ _ _ h => h) (Or.inl ⟨by rfl, ?_⟩) (by assumption) ?_; rotate_left; (focus (intro w hSw; (try dsimp only at hSw); go_simp; (try with_reducible rfl); done)); simp only [Act.put, List.getElem_toArray, List.getElem_cons_zero, List.setIfInBounds_toArray, List.set_cons_zero, List.set_cons_succ])
  (refine wpAnyH_take (i := 1) (v := ?_) rfl (by kernel_rfl) (by kernel_rfl) (by kernel_rfl) (fun _ _ _ h => h) (Or.inl ⟨by rfl, ?_⟩) (by assumption) ?_; rotate_left; (focus (intro w hSw; (try dsimp only at hSw); go_simp; (try with_reducible rfl); done)); simp only [Act.put, List.getElem_toArray, List.getElem_cons_zero, List.getElem_cons_succ, List.setIfInBounds_toArray, List.set_cons_zero, List.set_cons_succ])
  refine wpAnyH_ready (rs := [2]) (by kernel_rfl) (by simp) ?_
  refine AllReadyH.cons rfl (fun K hK => ?_) AllReadyH.nil
  go_simp
  go_wp2_with fail
  refine (toB b HF.out _ AB.out.rows.drewB).mono ?_
  rintro e w7 ⟨c3, rfl, hs3, hl3, hb7⟩
  have hbu7 := undrew hb7
  have Z7 : Hid (w6.heap.size ≤ w7.heap.size) := by show _ ≤ _; have h := hbu7.size; simpa using h
  replace BA : Hid (Bx w7 w.heap.size [.slice b.va b.vs.length b.vc, .slice b.pa b.ps.length b.pc, .slice b.qa b.qs.length b.qc, .int .i64 b.cs, .int .i64 b.nx]) := BA.out.below hbu7
  replace HB : Hid (Below w.heap.size w w7) := HB.out.trans (hbu7.mono HB.out.size)
  replace AB : Hid (BArg w7 b) := HPb.out.below HB.out
  replace M1 : Hid (BLie w7 (w2.heap.size) w3.heap.size d1) := M1.out.below hbu7
  replace OB1 : Hid (Bx w7 (w3.heap.size) [.slice d1.va d1.vs.length d1.vc, .slice d1.pa d1.ps.length d1.pc, .slice d1.qa d1.qs.length d1.qc, .int .i64 d1.cs, .int .i64 d1.nx]) := OB1.out.below hbu7
  replace L2 : Hid (BLie w7 (w3.heap.size + 1) w4.heap.size c2) := L2.out.below hbu7
  replace BX : Hid (Bx w7 (w4.heap.size) [.slice c2.va c2.vs.length c2.vc, .slice c2.pa c2.ps.length c2.pc, .slice c2.qa c2.qs.length c2.qc, .int .i64 c2.cs, .int .i64 c2.nx]) := BX.out.below hbu7
  replace M2 : Hid (BLie w7 (w4.heap.size + 1) w5.heap.size d2) := M2.out.below hbu7
  replace OB2 : Hid (Bx w7 (w5.heap.size) [.slice d2.va d2.vs.length d2.vc, .slice d2.pa d2.ps.length d2.pc, .slice d2.qa d2.qs.length d2.qc, .int .i64 d2.cs, .int .i64 d2.nx]) := OB2.out.below hbu7
  have U := hide hl3.rows
  clear hl3
  go_wp2_with fail
  refine hK.out _ _ ⟨BX.out.c0, BX.out.c1, BX.out.c2, BX.out.c3, BX.out.c4, BA.out.c0, BA.out.c1, BA.out.c2, BA.out.c3, BA.out.c4⟩ (fun hHeld7 => ?_)
  clear hK K hb7 hbu7
  refine wpAnyH_ready (rs := [3]) (by kernel_rfl) (by simp) ?_
  refine AllReadyH.cons rfl (fun K hK => ?_) AllReadyH.nil
  go_simp
  go_wp2_with fail
  refine (eqB c2 c3 (C2.out.symm.trans hs3) (C2.out.fit HF.out) _ L2.out.rows U.out).mono ?_
  rintro e w8 ⟨rfl, hb8⟩
  have Z8 : Hid (w7.heap.size ≤ w8.heap.size) := by show _ ≤ _; have h := hb8.size; simpa using h
  replace BA : Hid (Bx w8 w.heap.size [.slice b.va b.vs.length b.vc, .slice b.pa b.ps.length b.pc, .slice b.qa b.qs.length b.qc, .int .i64 b.cs, .int .i64 b.nx]) := BA.out.below hb8
  replace HB : Hid (Below w.heap.size w w8) := HB.out.trans (hb8.mono HB.out.size)
  replace AB : Hid (BArg w8 b) := HPb.out.below HB.out
  replace M1 : Hid (BLie w8 (w2.heap.size) w3.heap.size d1) := M1.out.below hb8
  replace OB1 : Hid (Bx w8 (w3.heap.size) [.slice d1.va d1.vs.length d1.vc, .slice d1.pa d1.ps.length d1.pc, .slice d1.qa d1.qs.length d1.qc, .int .i64 d1.cs, .int .i64 d1.nx]) := OB1.out.below hb8
  replace L2 : Hid (BLie w8 (w3.heap.size + 1) w4.heap.size c2) := L2.out.below hb8
  replace BX : Hid (Bx w8 (w4.heap.size) [.slice c2.va c2.vs.length c2.vc, .slice c2.pa c2.ps.length c2.pc, .slice c2.qa c2.qs.length c2.qc, .int .i64 c2.cs, .int .i64 c2.nx]) := BX.out.below hb8
  replace M2 : Hid (BLie w8 (w4.heap.size + 1) w5.heap.size d2) := M2.out.below hb8
  replace OB2 : Hid (Bx w8 (w5.heap.size) [.slice d2.va d2.vs.length d2.vc, .slice d2.pa d2.ps.length d2.pc, .slice d2.qa d2.qs.length d2.qc, .int .i64 d2.cs, .int .i64 d2.nx]) := OB2.out.below hb8
  replace U : Hid (BRows w8 c3) := U.out.below hb8
  go_wp2_with fail
  refine hK.out _ _ ⟨BX.out.c0, BX.out.c1, BX.out.c2, BX.out.c3, BX.out.c4, BA.out.c0, BA.out.c1, BA.out.c2, BA.out.c3, BA.out.c4⟩ (fun hHeld8 => ?_)
  clear hK K hb8
  (refine wpAnyH_take (i := 4) (v := ?_) rfl (by kernel_rfl) (by kernel_rfl) (by kernel_rfl) (fun _ _ _ h => h) (Or.inl ⟨by rfl, ?_⟩) (by assumption) ?_; rotate_left; (focus (intro w hSw; (try dsimp only at hSw); go_simp; (try with_reducible rfl); done)); simp only [Act.put, List.getElem_toArray, List.getElem_cons_zero, List.getElem_cons_succ, List.setIfInBounds_toArray, List.set_cons_zero, List.set_cons_succ])
  refine wpAnyH_done (by kernel_rfl) ?_ _
  clear U
  clear hs3
  have x0 := BX.out.c0
  have x1 := BX.out.c1
  have x2 := BX.out.c2
  have x3 := BX.out.c3
  have x4 := BX.out.c4
  go_wp2_with fail
  refine (markB c2 (w3.heap.size + 1) (w4.heap.size) (C2.out.fit HF.out) _ (by have := Z1.out; have := Z2.out; have := Z3.out; have := Z4.out; have := Z5.out; have := Z6.out; have := Z7.out; have := Z8.out; omega) L2.out).mono ?_
  rintro e w9 ⟨q1, m1, rfl, _, hz9, _⟩
  have Z9 : Hid (w8.heap.size ≤ w9.heap.size) := hz9.size
  replace BA : Hid (Bx w9 w.heap.size [.slice b.va b.vs.length b.vc, .slice b.pa b.ps.length b.pc, .slice b.qa b.qs.length b.qc, .int .i64 b.cs, .int .i64 b.nx]) := BA.out.zn hz9 (by have := Z1.out; have := Z2.out; have := Z3.out; have := Z4.out; have := Z5.out; have := Z6.out; have := Z7.out; have := Z8.out; omega)
  replace HB : Hid (Below w.heap.size w w9) := HB.out.trans (hz9.below (by have := Z1.out; have := Z2.out; have := Z3.out; have := Z4.out; have := Z5.out; have := Z6.out; have := Z7.out; have := Z8.out; omega) HB.out.size)
  replace AB : Hid (BArg w9 b) := HPb.out.below HB.out
  replace M1 : Hid (BLie w9 (w2.heap.size) w3.heap.size d1) := M1.out.zn hz9 (by have := Z1.out; have := Z2.out; have := Z3.out; have := Z4.out; have := Z5.out; have := Z6.out; have := Z7.out; have := Z8.out; omega)
  replace OB1 : Hid (Bx w9 (w3.heap.size) [.slice d1.va d1.vs.length d1.vc, .slice d1.pa d1.ps.length d1.pc, .slice d1.qa d1.qs.length d1.qc, .int .i64 d1.cs, .int .i64 d1.nx]) := OB1.out.zn hz9 (by have := Z1.out; have := Z2.out; have := Z3.out; have := Z4.out; have := Z5.out; have := Z6.out; have := Z7.out; have := Z8.out; omega)
  replace BX : Hid (Bx w9 (w4.heap.size) [.slice c2.va c2.vs.length c2.vc, .slice c2.pa c2.ps.length c2.pc, .slice c2.qa c2.qs.length c2.qc, .int .i64 c2.cs, .int .i64 c2.nx]) := BX.out.zn hz9 (by have := Z1.out; have := Z2.out; have := Z3.out; have := Z4.out; have := Z5.out; have := Z6.out; have := Z7.out; have := Z8.out; omega)
  replace M2 : Hid (BLie w9 (w4.heap.size + 1) w5.heap.size d2) := M2.out.zn hz9 (by have := Z1.out; have := Z2.out; have := Z3.out; have := Z4.out; have := Z5.out; have := Z6.out; have := Z7.out; have := Z8.out; omega)
  replace OB2 : Hid (Bx w9 (w5.heap.size) [.slice d2.va d2.vs.length d2.vc, .slice d2.pa d2.ps.length d2.pc, .slice d2.qa d2.qs.length d2.qc, .int .i64 d2.cs, .int .i64 d2.nx]) := OB2.out.zn hz9 (by have := Z1.out; have := Z2.out; have := Z3.out; have := Z4.out; have := Z5.out; have := Z6.out; have := Z7.out; have := Z8.out; omega)
  clear hz9 x0 x1 x2 x3 x4 L2
  have hK1a : ¬ (q1 : Int) < 0 := by omega
  have hK1b : decide ((q1 : Int) < 0) = false := by simp
  have x0 := OB2.out.c0
  have x1 := OB2.out.c1
  have x2 := OB2.out.c2
  have x3 := OB2.out.c3
  have x4 := OB2.out.c4
  have y0 := OB1.out.c0
  have y1 := OB1.out.c1
  have y2 := OB1.out.c2
  have y3 := OB1.out.c3
  have y4 := OB1.out.c4
  go_wp2_with fail
  refine (eqB d2 d1 (D2.out.symm.trans D1.out) (D2.out.fit HFD.out) _ M2.out.rows M1.out.rows).mono ?_
  rintro e w10 ⟨rfl, hb10⟩
  have Z10 : Hid (w9.heap.size ≤ w10.heap.size) := by show _ ≤ _; have h := hb10.size; simpa using h
  replace BA : Hid (Bx w10 w.heap.size [.slice b.va b.vs.length b.vc, .slice b.pa b.ps.length b.pc, .slice b.qa b.qs.length b.qc, .int .i64 b.cs, .int .i64 b.nx]) := BA.out.below hb10
  replace HB : Hid (Below w.heap.size w w10) := HB.out.trans (hb10.mono HB.out.size)
  replace AB : Hid (BArg w10 b) := HPb.out.below HB.out
  replace M1 : Hid (BLie w10 (w2.heap.size) w3.heap.size d1) := M1.out.below hb10
  replace OB1 : Hid (Bx w10 (w3.heap.size) [.slice d1.va d1.vs.length d1.vc, .slice d1.pa d1.ps.length d1.pc, .slice d1.qa d1.qs.length d1.qc, .int .i64 d1.cs, .int .i64 d1.nx]) := OB1.out.below hb10
  replace BX : Hid (Bx w10 (w4.heap.size) [.slice c2.va c2.vs.length c2.vc, .slice c2.pa c2.ps.length c2.pc, .slice c2.qa c2.qs.length c2.qc, .int .i64 c2.cs, .int .i64 c2.nx]) := BX.out.below hb10
  replace M2 : Hid (BLie w10 (w4.heap.size + 1) w5.heap.size d2) := M2.out.below hb10
  replace OB2 : Hid (Bx w10 (w5.heap.size) [.slice d2.va d2.vs.length d2.vc, .slice d2.pa d2.ps.length d2.pc, .slice d2.qa d2.qs.length d2.qc, .int .i64 d2.cs, .int .i64 d2.nx]) := OB2.out.below hb10
  clear hb10 x0 x1 x2 x3 x4 y0 y1 y2 y3 y4
  have x0 := OB2.out.c0
  have x1 := OB2.out.c1
  have x2 := OB2.out.c2
  have x3 := OB2.out.c3
  have x4 := OB2.out.c4
  go_wp2_with fail
  refine (markB d2 (w4.heap.size + 1) (w5.heap.size) (D2.out.fit HFD.out) _ (by have := Z1.out; have := Z2.out; have := Z3.out; have := Z4.out; have := Z5.out; have := Z6.out; have := Z7.out; have := Z8.out; have := Z9.out; have := Z10.out; omega) M2.out).mono ?_
  rintro e w11 ⟨q3, mm, rfl, hm, hz11, hh⟩
  have Z11 : Hid (w10.heap.size ≤ w11.heap.size) := hz11.size
  replace BA : Hid (Bx w11 w.heap.size [.slice b.va b.vs.length b.vc, .slice b.pa b.ps.length b.pc, .slice b.qa b.qs.length b.qc, .int .i64 b.cs, .int .i64 b.nx]) := BA.out.zn hz11 (by have := Z1.out; have := Z2.out; have := Z3.out; have := Z4.out; have := Z5.out; have := Z6.out; have := Z7.out; have := Z8.out; have := Z9.out; have := Z10.out; omega)
  replace HB : Hid (Below w.heap.size w w11) := HB.out.trans (hz11.below (by have := Z1.out; have := Z2.out; have := Z3.out; have := Z4.out; have := Z5.out; have := Z6.out; have := Z7.out; have := Z8.out; have := Z9.out; have := Z10.out; omega) HB.out.size)
  replace AB : Hid (BArg w11 b) := HPb.out.below HB.out
  replace M1 : Hid (BLie w11 (w2.heap.size) w3.heap.size d1) := M1.out.zn hz11 (by have := Z1.out; have := Z2.out; have := Z3.out; have := Z4.out; have := Z5.out; have := Z6.out; have := Z7.out; have := Z8.out; have := Z9.out; have := Z10.out; omega)
  replace OB1 : Hid (Bx w11 (w3.heap.size) [.slice d1.va d1.vs.length d1.vc, .slice d1.pa d1.ps.length d1.pc, .slice d1.qa d1.qs.length d1.qc, .int .i64 d1.cs, .int .i64 d1.nx]) := OB1.out.zn hz11 (by have := Z1.out; have := Z2.out; have := Z3.out; have := Z4.out; have := Z5.out; have := Z6.out; have := Z7.out; have := Z8.out; have := Z9.out; have := Z10.out; omega)
  replace BX : Hid (Bx w11 (w4.heap.size) [.slice c2.va c2.vs.length c2.vc, .slice c2.pa c2.ps.length c2.pc, .slice c2.qa c2.qs.length c2.qc, .int .i64 c2.cs, .int .i64 c2.nx]) := BX.out.zn hz11 (by have := Z1.out; have := Z2.out; have := Z3.out; have := Z4.out; have := Z5.out; have := Z6.out; have := Z7.out; have := Z8.out; have := Z9.out; have := Z10.out; omega)
  replace OB2 : Hid (Bx w11 (w5.heap.size) [.slice d2.va d2.vs.length d2.vc, .slice d2.pa d2.ps.length d2.pc, .slice d2.qa d2.qs.length d2.qc, .int .i64 d2.cs, .int .i64 d2.nx]) := OB2.out.zn hz11 (by have := Z1.out; have := Z2.out; have := Z3.out; have := Z4.out; have := Z5.out; have := Z6.out; have := Z7.out; have := Z8.out; have := Z9.out; have := Z10.out; omega)
  have MM : Hid (BLie w11 (w4.heap.size + 1) (w5.heap.size) mm) := hm
  have HH := hide hh
  clear hm hh
  clear hz11 x0 x1 x2 x3 x4 M2
  have hK3a : ¬ (q3 : Int) < 0 := by omega
  have hK3b := ne_self_int (q3 : Int)
  have x0 := OB2.out.c0
  have x1 := OB2.out.c1
  have x2 := OB2.out.c2
  have x3 := OB2.out.c3
  have x4 := OB2.out.c4
  go_wp2_with fail
  refine (HH.out _ MM.out.rows).mono ?_
  rintro e w12 ⟨rfl, hb12⟩
  have Z12 : Hid (w11.heap.size ≤ w12.heap.size) := by show _ ≤ _; have h := hb12.size; simpa using h
  replace BA : Hid (Bx w12 w.heap.size [.slice b.va b.vs.length b.vc, .slice b.pa b.ps.length b.pc, .slice b.qa b.qs.length b.qc, .int .i64 b.cs, .int .i64 b.nx]) := BA.out.below hb12
  replace HB : Hid (Below w.heap.size w w12) := HB.out.trans (hb12.mono HB.out.size)
  replace AB : Hid (BArg w12 b) := HPb.out.below HB.out
  replace M1 : Hid (BLie w12 (w2.heap.size) w3.heap.size d1) := M1.out.below hb12
  replace OB1 : Hid (Bx w12 (w3.heap.size) [.slice d1.va d1.vs.length d1.vc, .slice d1.pa d1.ps.length d1.pc, .slice d1.qa d1.qs.length d1.qc, .int .i64 d1.cs, .int .i64 d1.nx]) := OB1.out.below hb12
  replace BX : Hid (Bx w12 (w4.heap.size) [.slice c2.va c2.vs.length c2.vc, .slice c2.pa c2.ps.length c2.pc, .slice c2.qa c2.qs.length c2.qc, .int .i64 c2.cs, .int .i64 c2.nx]) := BX.out.below hb12
  replace OB2 : Hid (Bx w12 (w5.heap.size) [.slice d2.va d2.vs.length d2.vc, .slice d2.pa d2.ps.length d2.pc, .slice d2.qa d2.qs.length d2.qc, .int .i64 d2.cs, .int .i64 d2.nx]) := OB2.out.below hb12
  replace MM : Hid (BLie w12 (w4.heap.size + 1) (w5.heap.size) mm) := MM.out.below hb12
  clear hb12 x0 x1 x2 x3 x4
  have x0 := BA.out.c0
  have x1 := BA.out.c1
  have x2 := BA.out.c2
  have x3 := BA.out.c3
  have x4 := BA.out.c4
  go_wp2_with fail
  refine (toB b HF.out _ AB.out.rows).mono ?_
  rintro e w13 ⟨c4, rfl, hs, hl, hb13⟩
  have Z13 : Hid (w12.heap.size ≤ w13.heap.size) := by show _ ≤ _; have h := hb13.size; simpa using h
  replace BA : Hid (Bx w13 w.heap.size [.slice b.va b.vs.length b.vc, .slice b.pa b.ps.length b.pc, .slice b.qa b.qs.length b.qc, .int .i64 b.cs, .int .i64 b.nx]) := BA.out.below hb13
  replace HB : Hid (Below w.heap.size w w13) := HB.out.trans (hb13.mono HB.out.size)
  replace AB : Hid (BArg w13 b) := HPb.out.below HB.out
  replace M1 : Hid (BLie w13 (w2.heap.size) w3.heap.size d1) := M1.out.below hb13
  replace OB1 : Hid (Bx w13 (w3.heap.size) [.slice d1.va d1.vs.length d1.vc, .slice d1.pa d1.ps.length d1.pc, .slice d1.qa d1.qs.length d1.qc, .int .i64 d1.cs, .int .i64 d1.nx]) := OB1.out.below hb13
  replace BX : Hid (Bx w13 (w4.heap.size) [.slice c2.va c2.vs.length c2.vc, .slice c2.pa c2.ps.length c2.pc, .slice c2.qa c2.qs.length c2.qc, .int .i64 c2.cs, .int .i64 c2.nx]) := BX.out.below hb13
  replace OB2 : Hid (Bx w13 (w5.heap.size) [.slice d2.va d2.vs.length d2.vc, .slice d2.pa d2.ps.length d2.pc, .slice d2.qa d2.qs.length d2.qc, .int .i64 d2.cs, .int .i64 d2.nx]) := OB2.out.below hb13
  replace MM : Hid (BLie w13 (w4.heap.size + 1) (w5.heap.size) mm) := MM.out.below hb13
  have C4 : Hid (BSame b c4) := hs
  clear hs
  clear hb13 x0 x1 x2 x3 x4
  have L4 : Hid (BLie w13 (w12.heap.size) w13.heap.size c4) := hl
  clear hl
  go_wp2_with fail
  refine (CI.out c4 _ C4.out L4.out.rows).mono ?_
  rintro e w14 ⟨d4, rfl, hs, hl, hb14⟩
  have Z14 : Hid (w13.heap.size ≤ w14.heap.size) := by show _ ≤ _; have h := hb14.size; simpa using h
  replace BA : Hid (Bx w14 w.heap.size [.slice b.va b.vs.length b.vc, .slice b.pa b.ps.length b.pc, .slice b.qa b.qs.length b.qc, .int .i64 b.cs, .int .i64 b.nx]) := BA.out.below hb14
  replace HB : Hid (Below w.heap.size w w14) := HB.out.trans (hb14.mono HB.out.size)
  replace AB : Hid (BArg w14 b) := HPb.out.below HB.out
  replace M1 : Hid (BLie w14 (w2.heap.size) w3.heap.size d1) := M1.out.below hb14
  replace OB1 : Hid (Bx w14 (w3.heap.size) [.slice d1.va d1.vs.length d1.vc, .slice d1.pa d1.ps.length d1.pc, .slice d1.qa d1.qs.length d1.qc, .int .i64 d1.cs, .int .i64 d1.nx]) := OB1.out.below hb14
  replace BX : Hid (Bx w14 (w4.heap.size) [.slice c2.va c2.vs.length c2.vc, .slice c2.pa c2.ps.length c2.pc, .slice c2.qa c2.qs.length c2.qc, .int .i64 c2.cs, .int .i64 c2.nx]) := BX.out.below hb14
  replace OB2 : Hid (Bx w14 (w5.heap.size) [.slice d2.va d2.vs.length d2.vc, .slice d2.pa d2.ps.length d2.pc, .slice d2.qa d2.qs.length d2.qc, .int .i64 d2.cs, .int .i64 d2.nx]) := OB2.out.below hb14
  replace MM : Hid (BLie w14 (w4.heap.size + 1) (w5.heap.size) mm) := MM.out.below hb14
  replace L4 : Hid (BLie w14 (w12.heap.size) w13.heap.size c4) := L4.out.below hb14
  have D4 : Hid (BSame DD d4) := hs
  clear hs
  clear hb14
  have M4 : Hid (BLie w14 (w13.heap.size) w14.heap.size d4) := hl
  clear hl
  clear L4
  have hba : Below w14.heap.size w14 (w14.alloc (.cells #[.slice d4.va d4.vs.length d4.vc, .slice d4.pa d4.ps.length d4.pc, .slice d4.qa d4.qs.length d4.qc, .int .i64 d4.cs, .int .i64 d4.nx] 46)) := (belowRefl _).alloc (Nat.le_refl _) _
  replace BA : Hid (Bx (w14.alloc (.cells #[.slice d4.va d4.vs.length d4.vc, .slice d4.pa d4.ps.length d4.pc, .slice d4.qa d4.qs.length d4.qc, .int .i64 d4.cs, .int .i64 d4.nx] 46)) w.heap.size [.slice b.va b.vs.length b.vc, .slice b.pa b.ps.length b.pc, .slice b.qa b.qs.length b.qc, .int .i64 b.cs, .int .i64 b.nx]) := BA.out.below hba
  replace HB : Hid (Below w.heap.size w (w14.alloc (.cells #[.slice d4.va d4.vs.length d4.vc, .slice d4.pa d4.ps.length d4.pc, .slice d4.qa d4.qs.length d4.qc, .int .i64 d4.cs, .int .i64 d4.nx] 46))) := HB.out.trans (hba.mono HB.out.size)
  replace AB : Hid (BArg (w14.alloc (.cells #[.slice d4.va d4.vs.length d4.vc, .slice d4.pa d4.ps.length d4.pc, .slice d4.qa d4.qs.length d4.qc, .int .i64 d4.cs, .int .i64 d4.nx] 46)) b) := HPb.out.below HB.out
  replace M1 : Hid (BLie (w14.alloc (.cells #[.slice d4.va d4.vs.length d4.vc, .slice d4.pa d4.ps.length d4.pc, .slice d4.qa d4.qs.length d4.qc, .int .i64 d4.cs, .int .i64 d4.nx] 46)) (w2.heap.size) w3.heap.size d1) := M1.out.below hba
  replace OB1 : Hid (Bx (w14.alloc (.cells #[.slice d4.va d4.vs.length d4.vc, .slice d4.pa d4.ps.length d4.pc, .slice d4.qa d4.qs.length d4.qc, .int .i64 d4.cs, .int .i64 d4.nx] 46)) (w3.heap.size) [.slice d1.va d1.vs.length d1.vc, .slice d1.pa d1.ps.length d1.pc, .slice d1.qa d1.qs.length d1.qc, .int .i64 d1.cs, .int .i64 d1.nx]) := OB1.out.below hba
  replace BX : Hid (Bx (w14.alloc (.cells #[.slice d4.va d4.vs.length d4.vc, .slice d4.pa d4.ps.length d4.pc, .slice d4.qa d4.qs.length d4.qc, .int .i64 d4.cs, .int .i64 d4.nx] 46)) (w4.heap.size) [.slice c2.va c2.vs.length c2.vc, .slice c2.pa c2.ps.length c2.pc, .slice c2.qa c2.qs.length c2.qc, .int .i64 c2.cs, .int .i64 c2.nx]) := BX.out.below hba
  replace OB2 : Hid (Bx (w14.alloc (.cells #[.slice d4.va d4.vs.length d4.vc, .slice d4.pa d4.ps.length d4.pc, .slice d4.qa d4.qs.length d4.qc, .int .i64 d4.cs, .int .i64 d4.nx] 46)) (w5.heap.size) [.slice d2.va d2.vs.length d2.vc, .slice d2.pa d2.ps.length d2.pc, .slice d2.qa d2.qs.length d2.qc, .int .i64 d2.cs, .int .i64 d2.nx]) := OB2.out.below hba
  replace MM : Hid (BLie (w14.alloc (.cells #[.slice d4.va d4.vs.length d4.vc, .slice d4.pa d4.ps.length d4.pc, .slice d4.qa d4.qs.length d4.qc, .int .i64 d4.cs, .int .i64 d4.nx] 46)) (w4.heap.size + 1) (w5.heap.size) mm) := MM.out.below hba
  replace M4 : Hid (BLie (w14.alloc (.cells #[.slice d4.va d4.vs.length d4.vc, .slice d4.pa d4.ps.length d4.pc, .slice d4.qa d4.qs.length d4.qc, .int .i64 d4.cs, .int .i64 d4.nx] 46)) (w13.heap.size) w14.heap.size d4) := M4.out.below hba
  clear hba
  have OB4 : Hid (Bx (w14.alloc (.cells #[.slice d4.va d4.vs.length d4.vc, .slice d4.pa d4.ps.length d4.pc, .slice d4.qa d4.qs.length d4.qc, .int .i64 d4.cs, .int .i64 d4.nx] 46)) (w14.heap.size) [.slice d4.va d4.vs.length d4.vc, .slice d4.pa d4.ps.length d4.pc, .slice d4.qa d4.qs.length d4.qc, .int .i64 d4.cs, .int .i64 d4.nx]) := Bx.new w14 [.slice d4.va d4.vs.length d4.vc, .slice d4.pa d4.ps.length d4.pc, .slice d4.qa d4.qs.length d4.qc, .int .i64 d4.cs, .int .i64 d4.nx] 46
  have x0 := OB4.out.c0
  have x1 := OB4.out.c1
  have x2 := OB4.out.c2
  have x3 := OB4.out.c3
  have x4 := OB4.out.c4
  have y0 := OB1.out.c0
  have y1 := OB1.out.c1
  have y2 := OB1.out.c2
  have y3 := OB1.out.c3
  have y4 := OB1.out.c4
  go_wp2_with fail
  refine (eqB d4 d1 (D4.out.symm.trans D1.out) (D4.out.fit HFD.out) _ M4.out.rows M1.out.rows).mono ?_
  rintro e w15 ⟨rfl, hb15⟩
  have Z15 : Hid (w14.heap.size + 1 ≤ w15.heap.size) := by show _ ≤ _; have h := hb15.size; simpa using h
  replace BA : Hid (Bx w15 w.heap.size [.slice b.va b.vs.length b.vc, .slice b.pa b.ps.length b.pc, .slice b.qa b.qs.length b.qc, .int .i64 b.cs, .int .i64 b.nx]) := BA.out.below hb15
  replace HB : Hid (Below w.heap.size w w15) := HB.out.trans (hb15.mono HB.out.size)
  replace AB : Hid (BArg w15 b) := HPb.out.below HB.out
  replace M1 : Hid (BLie w15 (w2.heap.size) w3.heap.size d1) := M1.out.below hb15
  replace OB1 : Hid (Bx w15 (w3.heap.size) [.slice d1.va d1.vs.length d1.vc, .slice d1.pa d1.ps.length d1.pc, .slice d1.qa d1.qs.length d1.qc, .int .i64 d1.cs, .int .i64 d1.nx]) := OB1.out.below hb15
  replace BX : Hid (Bx w15 (w4.heap.size) [.slice c2.va c2.vs.length c2.vc, .slice c2.pa c2.ps.length c2.pc, .slice c2.qa c2.qs.length c2.qc, .int .i64 c2.cs, .int .i64 c2.nx]) := BX.out.below hb15
  replace OB2 : Hid (Bx w15 (w5.heap.size) [.slice d2.va d2.vs.length d2.vc, .slice d2.pa d2.ps.length d2.pc, .slice d2.qa d2.qs.length d2.qc, .int .i64 d2.cs, .int .i64 d2.nx]) := OB2.out.below hb15
  replace MM : Hid (BLie w15 (w4.heap.size + 1) (w5.heap.size) mm) := MM.out.below hb15
  replace M4 : Hid (BLie w15 (w13.heap.size) w14.heap.size d4) := M4.out.below hb15
  replace OB4 : Hid (Bx w15 (w14.heap.size) [.slice d4.va d4.vs.length d4.vc, .slice d4.pa d4.ps.length d4.pc, .slice d4.qa d4.qs.length d4.qc, .int .i64 d4.cs, .int .i64 d4.nx]) := OB4.out.below hb15
  clear hb15 x0 x1 x2 x3 x4 y0 y1 y2 y3 y4
  have x0 := OB2.out.c0
  have x1 := OB2.out.c1
  have x2 := OB2.out.c2
  have x3 := OB2.out.c3
  have x4 := OB2.out.c4
  go_wp2_with fail
  refine (HH.out _ MM.out.rows).mono ?_
  rintro e w16 ⟨rfl, hb16⟩
  have Z16 : Hid (w15.heap.size ≤ w16.heap.size) := by show _ ≤ _; have h := hb16.size; simpa using h
  replace BA : Hid (Bx w16 w.heap.size [.slice b.va b.vs.length b.vc, .slice b.pa b.ps.length b.pc, .slice b.qa b.qs.length b.qc, .int .i64 b.cs, .int .i64 b.nx]) := BA.out.below hb16
  replace HB : Hid (Below w.heap.size w w16) := HB.out.trans (hb16.mono HB.out.size)
  replace AB : Hid (BArg w16 b) := HPb.out.below HB.out
  replace M1 : Hid (BLie w16 (w2.heap.size) w3.heap.size d1) := M1.out.below hb16
  replace OB1 : Hid (Bx w16 (w3.heap.size) [.slice d1.va d1.vs.length d1.vc, .slice d1.pa d1.ps.length d1.pc, .slice d1.qa d1.qs.length d1.qc, .int .i64 d1.cs, .int .i64 d1.nx]) := OB1.out.below hb16
  replace BX : Hid (Bx w16 (w4.heap.size) [.slice c2.va c2.vs.length c2.vc, .slice c2.pa c2.ps.length c2.pc, .slice c2.qa c2.qs.length c2.qc, .int .i64 c2.cs, .int .i64 c2.nx]) := BX.out.below hb16
  replace OB2 : Hid (Bx w16 (w5.heap.size) [.slice d2.va d2.vs.length d2.vc, .slice d2.pa d2.ps.length d2.pc, .slice d2.qa d2.qs.length d2.qc, .int .i64 d2.cs, .int .i64 d2.nx]) := OB2.out.below hb16
  replace MM : Hid (BLie w16 (w4.heap.size + 1) (w5.heap.size) mm) := MM.out.below hb16
  replace M4 : Hid (BLie w16 (w13.heap.size) w14.heap.size d4) := M4.out.below hb16
  replace OB4 : Hid (Bx w16 (w14.heap.size) [.slice d4.va d4.vs.length d4.vc, .slice d4.pa d4.ps.length d4.pc, .slice d4.qa d4.qs.length d4.qc, .int .i64 d4.cs, .int .i64 d4.nx]) := OB4.out.below hb16
  clear hb16 x0 x1 x2 x3 x4
  go_wp2
  go_ret
  exact ⟨rfl, HB.out⟩

end Go.Proofs.Ytnefncmkhgkdnaa

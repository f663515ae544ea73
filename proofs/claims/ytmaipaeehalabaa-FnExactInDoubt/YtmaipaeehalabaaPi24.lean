/- The law FnExactInDoubt, walked. -/
import Derived.Test.YtmaipaeehalabaaPi01
import Derived.Test.YtmaipaeehalabaaPi19
import Derived.Test.YtmaipaeehalabaaPi22
import Derived.Test.YtmaipaeehalabaaPi23
import Derived.Deep.RegionHeld3
import Derived.Deep.Cut
import Derived.Deep.CutRange
namespace Go.Proofs.Ytmaipaeehalabaa
open Go.RowKit
open KM
attribute [local go_sem ↓] Go.wp_at_zero Go.wp_at_succ

theorem encS_scs : ∀ ss : List ByteArray, encS.cells ss = scs ss
  | [] => rfl
  | x :: r => by
    have h := encS_scs r
    unfold Enc.cells scs at *
    rw [List.flatMap_cons, List.map_cons, h]
    rfl
theorem GOwn.sown {w : World} {base : Nat} {v : Value} {l : List ByteArray} (h : GOwn encS 9 w base v l) : SOwn w base v l := by
  unfold GOwn at h
  unfold SOwn
  rw [← encS_scs]
  exact h
structure NLie (w : World) (lo hi : Nat) (a : Option Addr) (c L : Nat) (NN : List ByteArray) : Prop where
  s : SOwn w lo (.slice a L c) NN
  u : ∀ g, (Value.slice a L c).ownBlock = some g → g < hi
theorem NLie.of {w : World} {lo : Nat} {a : Option Addr} {c L : Nat} {NN : List ByteArray} (h : SOwn w lo (.slice a L c) NN) : NLie w lo w.heap.size a c L NN := ⟨h, fun g hg => (own_lo h g hg).2⟩
theorem NLie.below {w w' : World} {lo hi : Nat} {a : Option Addr} {c L : Nat} {NN : List ByteArray} (h : NLie w lo hi a c L NN) (hb : Below w.heap.size w w') : NLie w' lo hi a c L NN := ⟨h.s.below hb, h.u⟩
theorem NLie.zn {w w' : World} {lo hi l k : Nat} {a : Option Addr} {c L : Nat} {NN : List ByteArray} (h : NLie w lo hi a c L NN) (hz : Zn l k w w') (hne : hi ≤ l ∨ k ≤ lo) : NLie w' lo hi a c L NN :=
  ⟨ownsZn h.s hz (fun g hg => by have := h.u g hg; have := own_lo h.s g hg; omega), h.u⟩
theorem NLie.row {w : World} {lo hi : Nat} {a : Option Addr} {c L : Nat} {NN : List ByteArray} (h : NLie w lo hi a c L NN) (hL : NN.length = L) : SRow w a NN := by
  have k := h.s
  rw [← hL] at k
  exact k.srow
theorem eqN (NN : List ByteArray) (L lo1 hi1 lo2 hi2 : Nat) (a1 a2 : Option Addr) (c1 c2 : Nat) (hL : NN.length = L) (hl : L ≤ 1048576) (w : World) (h1 : NLie w lo1 hi1 a1 c1 L NN) (h2 : NLie w lo2 hi2 a2 c2 L NN) :
    Calls Try.prog 14 #[.slice a1 L c1, .slice a2 L c2] w fun e w' => e = .returned (.bool true) ∧ Below w.heap.size w w' := by
  have k := eq72 a1 a2 c1 c2 NN (by omega) w (h1.row hL) (h2.row hL)
  rw [hL] at k
  exact k
theorem markN (NN : List ByteArray) (L lo hi : Nat) (a : Option Addr) (c : Nat) (hL : NN.length = L) (hl : L ≤ 1048576) (w : World) (h : NLie w lo hi a c L NN) :
    Calls Try.prog 15 #[.slice a L c, .int .i64 1] w fun e w' => e = .returned (.int .i64 ((1 + L : Nat) : Int)) ∧ NLie w' lo hi a c L (marks 1 L) ∧ Zn lo hi w w' := by
  have k := mark74 L 1 a c lo (scs NN) (by omega) (by omega) (by omega) w (by have q := h.s; unfold SOwn at q; rw [hL] at q; exact q)
  refine k.mono ?_
  rintro e w' ⟨he, ho, hg⟩
  exact ⟨he, ⟨ho, h.u⟩, Zn.ofGrown hg (fun g q => ⟨(own_lo h.s g q).1, h.u g q⟩)⟩
theorem heldN (L lo hi : Nat) (a : Option Addr) (c : Nat) (hl : L ≤ 1048576) (w : World) (h : NLie w lo hi a c L (marks 1 L)) :
    Calls Try.prog 16 #[.slice a L c, .int .i64 1] w fun e w' => e = .returned (.int .i64 ((1 + L : Nat) : Int)) ∧ Below w.heap.size w w' :=
  held76 L 1 a c (by omega) (by omega) (by omega) w (h.row (marks_len 1 L))
theorem dcon (s : St) (hf : StFit s) : ∃ (L : Nat) (NN : List ByteArray), NN.length = L ∧ L ≤ 1048576 ∧ (∀ (c : St) (W : World), StSame s c → StRows W c → Calls Try.prog 13 #[.agg #[.slice c.e.b.va c.e.b.vs.length c.e.b.vc, .slice c.e.b.pa c.e.b.ps.length c.e.b.pc, .slice c.e.b.qa c.e.b.qs.length c.e.b.qc, .int .i64 c.e.b.cs, .int .i64 c.e.b.nx, .slice c.e.oa c.e.os.length c.e.oc, .slice c.d.sa c.d.ss.length c.d.sc, .slice c.d.pa c.d.ps.length c.d.pc]] W fun ex w' => ∃ (a1 : Option Addr) (c1 : Nat), ex = .returned (.slice a1 L c1) ∧ NLie w' W.heap.size w'.heap.size a1 c1 L NN ∧ Below W.heap.size W w') ∧ (∀ (c : St) (W : World), StSame s c → StRows W c → Calls Try.prog 11 #[.agg #[.slice c.e.b.va c.e.b.vs.length c.e.b.vc, .slice c.e.b.pa c.e.b.ps.length c.e.b.pc, .slice c.e.b.qa c.e.b.qs.length c.e.b.qc, .int .i64 c.e.b.cs, .int .i64 c.e.b.nx, .slice c.e.oa c.e.os.length c.e.oc, .slice c.d.sa c.d.ss.length c.d.sc, .slice c.d.pa c.d.ps.length c.d.pc]] W fun ex w' => ∃ (a1 : Option Addr) (c1 : Nat), ex = .returned (.slice a1 L c1) ∧ NLie w' W.heap.size w'.heap.size a1 c1 L NN ∧ Below W.heap.size W w') := by
  have key : ∀ c : St, StSame s c → nms c.e.b.qs = nms s.e.b.qs ∧ c.e.b.qs.length = s.e.b.qs.length := fun c h => by
    refine ⟨by rw [nms_txs, nms_txs, h.e.b.q], h.e.b.ql⟩
  have fitn : ∀ c : St, StSame s c → ∀ x ∈ c.e.b.qs, x.t.nm.size ≤ 1048576 := fun c h x hx => ((h.fit hf).e.b.q.2 _ (List.mem_map.2 ⟨x, hx, rfl⟩)).2.2.2.2
  have hl : s.e.b.qs.length ≤ 1048576 := hf.e.b.ql
  refine ⟨s.e.b.qs.length, nms s.e.b.qs, nms_len _, hl, fun c W h1 h2 => ?_, fun c W h1 h2 => ?_⟩
  · have k := iindoubt c c.e.b.qs.length rfl (by rw [(key c h1).2]; omega) (fitn c h1) W h2.e.b.q
    refine k.mono ?_
    rintro ex w' ⟨a1, c1, he, ho, hb⟩
    rw [(key c h1).2] at he ho
    rw [(key c h1).1] at ho
    exact ⟨a1, c1, he, NLie.of ho.sown, hb⟩
  · have k := sindoubt c c.e.b.qs.length rfl (by rw [(key c h1).2]; omega) W h2.e.b.q
    refine k.mono ?_
    rintro ex w' ⟨a1, c1, he, ho, hb⟩
    rw [(key c h1).2] at he ho
    rw [(key c h1).1] at ho
    exact ⟨a1, c1, he, NLie.of ho.sown, hb⟩

set_option maxRecDepth 100000 in
set_option maxHeartbeats 8000000 in
theorem law4 (s : St) (w : World) (hpe : StArg w s) : Calls Try.prog 4 #[.agg #[.slice s.e.b.va s.e.b.vs.length s.e.b.vc, .slice s.e.b.pa s.e.b.ps.length s.e.b.pc, .slice s.e.b.qa s.e.b.qs.length s.e.b.qc, .int .i64 s.e.b.cs, .int .i64 s.e.b.nx, .slice s.e.oa s.e.os.length s.e.oc, .slice s.d.sa s.d.ss.length s.d.sc, .slice s.d.pa s.d.ps.length s.d.pc]] w fun ex w' => ex = .returned (.bool true) ∧ Below w.heap.size w w' := by
  have HPe : Hid (StArg w s) := hpe
  clear hpe
  have BA : Hid (Bx (w.alloc (.cells #[.slice s.e.b.va s.e.b.vs.length s.e.b.vc, .slice s.e.b.pa s.e.b.ps.length s.e.b.pc, .slice s.e.b.qa s.e.b.qs.length s.e.b.qc, .int .i64 s.e.b.cs, .int .i64 s.e.b.nx, .slice s.e.oa s.e.os.length s.e.oc, .slice s.d.sa s.d.ss.length s.d.sc, .slice s.d.pa s.d.ps.length s.d.pc] 48)) w.heap.size [.slice s.e.b.va s.e.b.vs.length s.e.b.vc, .slice s.e.b.pa s.e.b.ps.length s.e.b.pc, .slice s.e.b.qa s.e.b.qs.length s.e.b.qc, .int .i64 s.e.b.cs, .int .i64 s.e.b.nx, .slice s.e.oa s.e.os.length s.e.oc, .slice s.d.sa s.d.ss.length s.d.sc, .slice s.d.pa s.d.ps.length s.d.pc]) := Bx.new w [.slice s.e.b.va s.e.b.vs.length s.e.b.vc, .slice s.e.b.pa s.e.b.ps.length s.e.b.pc, .slice s.e.b.qa s.e.b.qs.length s.e.b.qc, .int .i64 s.e.b.cs, .int .i64 s.e.b.nx, .slice s.e.oa s.e.os.length s.e.oc, .slice s.d.sa s.d.ss.length s.d.sc, .slice s.d.pa s.d.ps.length s.d.pc] 48
  have HB : Hid (Below w.heap.size w (w.alloc (.cells #[.slice s.e.b.va s.e.b.vs.length s.e.b.vc, .slice s.e.b.pa s.e.b.ps.length s.e.b.pc, .slice s.e.b.qa s.e.b.qs.length s.e.b.qc, .int .i64 s.e.b.cs, .int .i64 s.e.b.nx, .slice s.e.oa s.e.os.length s.e.oc, .slice s.d.sa s.d.ss.length s.d.sc, .slice s.d.pa s.d.ps.length s.d.pc] 48))) := (belowRefl w).alloc (Nat.le_refl _) _
  have AB : Hid (StArg (w.alloc (.cells #[.slice s.e.b.va s.e.b.vs.length s.e.b.vc, .slice s.e.b.pa s.e.b.ps.length s.e.b.pc, .slice s.e.b.qa s.e.b.qs.length s.e.b.qc, .int .i64 s.e.b.cs, .int .i64 s.e.b.nx, .slice s.e.oa s.e.os.length s.e.oc, .slice s.d.sa s.d.ss.length s.d.sc, .slice s.d.pa s.d.ps.length s.d.pc] 48)) s) := HPe.out.below HB.out
  go_enter Try.func4, Try.ntmps4
  have x0 := BA.out.c0
  have x1 := BA.out.c1
  have x2 := BA.out.c2
  have x3 := BA.out.c3
  have x4 := BA.out.c4
  have x5 := BA.out.c5
  have x6 := BA.out.c6
  have x7 := BA.out.c7
  go_wp2_with fail
  refine (szS s 1048576 (by omega) (by omega) _ AB.out).mono ?_
  rintro e w1 ⟨hb1, lft, rfl, hrt⟩
  have Z1 : Hid (w.heap.size + 1 ≤ w1.heap.size) := by show _ ≤ _; have h := hb1.size; simpa using h
  replace BA : Hid (Bx w1 w.heap.size [.slice s.e.b.va s.e.b.vs.length s.e.b.vc, .slice s.e.b.pa s.e.b.ps.length s.e.b.pc, .slice s.e.b.qa s.e.b.qs.length s.e.b.qc, .int .i64 s.e.b.cs, .int .i64 s.e.b.nx, .slice s.e.oa s.e.os.length s.e.oc, .slice s.d.sa s.d.ss.length s.d.sc, .slice s.d.pa s.d.ps.length s.d.pc]) := BA.out.below hb1
  replace HB : Hid (Below w.heap.size w w1) := HB.out.trans (hb1.mono HB.out.size)
  replace AB : Hid (StArg w1 s) := HPe.out.below HB.out
  clear hb1 x0 x1 x2 x3 x4 x5 x6 x7
  by_cases hneg : lft < 0
  · clear hrt
    go_wp2
    go_ret
    exact ⟨rfl, HB.out⟩
  have hpost : ¬ lft < 0 := hneg
  have HF : Hid (StFit s) := hrt (by omega)
  clear hrt hneg
  obtain ⟨L, NN, hL, hl, ci, cs⟩ := dcon s HF.out
  have HL := hide hL
  have HLL := hide hl
  have CI := hide ci
  have CS := hide cs
  clear hL hl ci cs
  have x0 := BA.out.c0
  have x1 := BA.out.c1
  have x2 := BA.out.c2
  have x3 := BA.out.c3
  have x4 := BA.out.c4
  have x5 := BA.out.c5
  have x6 := BA.out.c6
  have x7 := BA.out.c7
  go_wp2_with fail
  refine (toS s HF.out _ AB.out.rows).mono ?_
  rintro e w2 ⟨c1, rfl, hs, hl, hb2⟩
  have Z2 : Hid (w1.heap.size ≤ w2.heap.size) := by show _ ≤ _; have h := hb2.size; simpa using h
  replace BA : Hid (Bx w2 w.heap.size [.slice s.e.b.va s.e.b.vs.length s.e.b.vc, .slice s.e.b.pa s.e.b.ps.length s.e.b.pc, .slice s.e.b.qa s.e.b.qs.length s.e.b.qc, .int .i64 s.e.b.cs, .int .i64 s.e.b.nx, .slice s.e.oa s.e.os.length s.e.oc, .slice s.d.sa s.d.ss.length s.d.sc, .slice s.d.pa s.d.ps.length s.d.pc]) := BA.out.below hb2
  replace HB : Hid (Below w.heap.size w w2) := HB.out.trans (hb2.mono HB.out.size)
  replace AB : Hid (StArg w2 s) := HPe.out.below HB.out
  have C1 : Hid (StSame s c1) := hs
  clear hs
  clear hb2 x0 x1 x2 x3 x4 x5 x6 x7
  have L1 : Hid (StLie w2 (w1.heap.size) w2.heap.size c1) := hl
  clear hl
  go_wp2_with fail
  refine (CS.out c1 _ C1.out L1.out.rows).mono ?_
  rintro e w3 ⟨a1, k1, rfl, hl, hb3⟩
  have Z3 : Hid (w2.heap.size ≤ w3.heap.size) := by show _ ≤ _; have h := hb3.size; simpa using h
  replace BA : Hid (Bx w3 w.heap.size [.slice s.e.b.va s.e.b.vs.length s.e.b.vc, .slice s.e.b.pa s.e.b.ps.length s.e.b.pc, .slice s.e.b.qa s.e.b.qs.length s.e.b.qc, .int .i64 s.e.b.cs, .int .i64 s.e.b.nx, .slice s.e.oa s.e.os.length s.e.oc, .slice s.d.sa s.d.ss.length s.d.sc, .slice s.d.pa s.d.ps.length s.d.pc]) := BA.out.below hb3
  replace HB : Hid (Below w.heap.size w w3) := HB.out.trans (hb3.mono HB.out.size)
  replace AB : Hid (StArg w3 s) := HPe.out.below HB.out
  replace L1 : Hid (StLie w3 (w1.heap.size) w2.heap.size c1) := L1.out.below hb3
  clear hb3
  have M1 : Hid (NLie w3 (w2.heap.size) w3.heap.size a1 k1 L NN) := hl
  clear hl
  clear L1
  have x0 := BA.out.c0
  have x1 := BA.out.c1
  have x2 := BA.out.c2
  have x3 := BA.out.c3
  have x4 := BA.out.c4
  have x5 := BA.out.c5
  have x6 := BA.out.c6
  have x7 := BA.out.c7
  go_wp2_with fail
  refine (toS s HF.out _ AB.out.rows).mono ?_
  rintro e w4 ⟨c2, rfl, hs, hl, hb4⟩
  have Z4 : Hid (w3.heap.size ≤ w4.heap.size) := by show _ ≤ _; have h := hb4.size; simpa using h
  replace BA : Hid (Bx w4 w.heap.size [.slice s.e.b.va s.e.b.vs.length s.e.b.vc, .slice s.e.b.pa s.e.b.ps.length s.e.b.pc, .slice s.e.b.qa s.e.b.qs.length s.e.b.qc, .int .i64 s.e.b.cs, .int .i64 s.e.b.nx, .slice s.e.oa s.e.os.length s.e.oc, .slice s.d.sa s.d.ss.length s.d.sc, .slice s.d.pa s.d.ps.length s.d.pc]) := BA.out.below hb4
  replace HB : Hid (Below w.heap.size w w4) := HB.out.trans (hb4.mono HB.out.size)
  replace AB : Hid (StArg w4 s) := HPe.out.below HB.out
  replace M1 : Hid (NLie w4 (w2.heap.size) w3.heap.size a1 k1 L NN) := M1.out.below hb4
  have C2 : Hid (StSame s c2) := hs
  clear hs
  clear hb4 x0 x1 x2 x3 x4 x5 x6 x7
  have L2 : Hid (StLie w4 (w3.heap.size) w4.heap.size c2) := hl
  clear hl
  have hba : Below w4.heap.size w4 (w4.alloc (.cells #[.slice c2.e.b.va c2.e.b.vs.length c2.e.b.vc, .slice c2.e.b.pa c2.e.b.ps.length c2.e.b.pc, .slice c2.e.b.qa c2.e.b.qs.length c2.e.b.qc, .int .i64 c2.e.b.cs, .int .i64 c2.e.b.nx, .slice c2.e.oa c2.e.os.length c2.e.oc, .slice c2.d.sa c2.d.ss.length c2.d.sc, .slice c2.d.pa c2.d.ps.length c2.d.pc] 33)) := (belowRefl _).alloc (Nat.le_refl _) _
  replace BA : Hid (Bx (w4.alloc (.cells #[.slice c2.e.b.va c2.e.b.vs.length c2.e.b.vc, .slice c2.e.b.pa c2.e.b.ps.length c2.e.b.pc, .slice c2.e.b.qa c2.e.b.qs.length c2.e.b.qc, .int .i64 c2.e.b.cs, .int .i64 c2.e.b.nx, .slice c2.e.oa c2.e.os.length c2.e.oc, .slice c2.d.sa c2.d.ss.length c2.d.sc, .slice c2.d.pa c2.d.ps.length c2.d.pc] 33)) w.heap.size [.slice s.e.b.va s.e.b.vs.length s.e.b.vc, .slice s.e.b.pa s.e.b.ps.length s.e.b.pc, .slice s.e.b.qa s.e.b.qs.length s.e.b.qc, .int .i64 s.e.b.cs, .int .i64 s.e.b.nx, .slice s.e.oa s.e.os.length s.e.oc, .slice s.d.sa s.d.ss.length s.d.sc, .slice s.d.pa s.d.ps.length s.d.pc]) := BA.out.below hba
  replace HB : Hid (Below w.heap.size w (w4.alloc (.cells #[.slice c2.e.b.va c2.e.b.vs.length c2.e.b.vc, .slice c2.e.b.pa c2.e.b.ps.length c2.e.b.pc, .slice c2.e.b.qa c2.e.b.qs.length c2.e.b.qc, .int .i64 c2.e.b.cs, .int .i64 c2.e.b.nx, .slice c2.e.oa c2.e.os.length c2.e.oc, .slice c2.d.sa c2.d.ss.length c2.d.sc, .slice c2.d.pa c2.d.ps.length c2.d.pc] 33))) := HB.out.trans (hba.mono HB.out.size)
  replace AB : Hid (StArg (w4.alloc (.cells #[.slice c2.e.b.va c2.e.b.vs.length c2.e.b.vc, .slice c2.e.b.pa c2.e.b.ps.length c2.e.b.pc, .slice c2.e.b.qa c2.e.b.qs.length c2.e.b.qc, .int .i64 c2.e.b.cs, .int .i64 c2.e.b.nx, .slice c2.e.oa c2.e.os.length c2.e.oc, .slice c2.d.sa c2.d.ss.length c2.d.sc, .slice c2.d.pa c2.d.ps.length c2.d.pc] 33)) s) := HPe.out.below HB.out
  replace M1 : Hid (NLie (w4.alloc (.cells #[.slice c2.e.b.va c2.e.b.vs.length c2.e.b.vc, .slice c2.e.b.pa c2.e.b.ps.length c2.e.b.pc, .slice c2.e.b.qa c2.e.b.qs.length c2.e.b.qc, .int .i64 c2.e.b.cs, .int .i64 c2.e.b.nx, .slice c2.e.oa c2.e.os.length c2.e.oc, .slice c2.d.sa c2.d.ss.length c2.d.sc, .slice c2.d.pa c2.d.ps.length c2.d.pc] 33)) (w2.heap.size) w3.heap.size a1 k1 L NN) := M1.out.below hba
  replace L2 : Hid (StLie (w4.alloc (.cells #[.slice c2.e.b.va c2.e.b.vs.length c2.e.b.vc, .slice c2.e.b.pa c2.e.b.ps.length c2.e.b.pc, .slice c2.e.b.qa c2.e.b.qs.length c2.e.b.qc, .int .i64 c2.e.b.cs, .int .i64 c2.e.b.nx, .slice c2.e.oa c2.e.os.length c2.e.oc, .slice c2.d.sa c2.d.ss.length c2.d.sc, .slice c2.d.pa c2.d.ps.length c2.d.pc] 33)) (w3.heap.size) w4.heap.size c2) := L2.out.below hba
  clear hba
  have BX : Hid (Bx (w4.alloc (.cells #[.slice c2.e.b.va c2.e.b.vs.length c2.e.b.vc, .slice c2.e.b.pa c2.e.b.ps.length c2.e.b.pc, .slice c2.e.b.qa c2.e.b.qs.length c2.e.b.qc, .int .i64 c2.e.b.cs, .int .i64 c2.e.b.nx, .slice c2.e.oa c2.e.os.length c2.e.oc, .slice c2.d.sa c2.d.ss.length c2.d.sc, .slice c2.d.pa c2.d.ps.length c2.d.pc] 33)) (w4.heap.size) [.slice c2.e.b.va c2.e.b.vs.length c2.e.b.vc, .slice c2.e.b.pa c2.e.b.ps.length c2.e.b.pc, .slice c2.e.b.qa c2.e.b.qs.length c2.e.b.qc, .int .i64 c2.e.b.cs, .int .i64 c2.e.b.nx, .slice c2.e.oa c2.e.os.length c2.e.oc, .slice c2.d.sa c2.d.ss.length c2.d.sc, .slice c2.d.pa c2.d.ps.length c2.d.pc]) := Bx.new w4 [.slice c2.e.b.va c2.e.b.vs.length c2.e.b.vc, .slice c2.e.b.pa c2.e.b.ps.length c2.e.b.pc, .slice c2.e.b.qa c2.e.b.qs.length c2.e.b.qc, .int .i64 c2.e.b.cs, .int .i64 c2.e.b.nx, .slice c2.e.oa c2.e.os.length c2.e.oc, .slice c2.d.sa c2.d.ss.length c2.d.sc, .slice c2.d.pa c2.d.ps.length c2.d.pc] 33
  have x0 := BX.out.c0
  have x1 := BX.out.c1
  have x2 := BX.out.c2
  have x3 := BX.out.c3
  have x4 := BX.out.c4
  have x5 := BX.out.c5
  have x6 := BX.out.c6
  have x7 := BX.out.c7
  go_wp2_with fail
  refine (CI.out c2 _ C2.out L2.out.rows).mono ?_
  rintro e w5 ⟨a2, k2, rfl, hl, hb5⟩
  have Z5 : Hid (w4.heap.size + 1 ≤ w5.heap.size) := by show _ ≤ _; have h := hb5.size; simpa using h
  replace BA : Hid (Bx w5 w.heap.size [.slice s.e.b.va s.e.b.vs.length s.e.b.vc, .slice s.e.b.pa s.e.b.ps.length s.e.b.pc, .slice s.e.b.qa s.e.b.qs.length s.e.b.qc, .int .i64 s.e.b.cs, .int .i64 s.e.b.nx, .slice s.e.oa s.e.os.length s.e.oc, .slice s.d.sa s.d.ss.length s.d.sc, .slice s.d.pa s.d.ps.length s.d.pc]) := BA.out.below hb5
  replace HB : Hid (Below w.heap.size w w5) := HB.out.trans (hb5.mono HB.out.size)
  replace AB : Hid (StArg w5 s) := HPe.out.below HB.out
  replace M1 : Hid (NLie w5 (w2.heap.size) w3.heap.size a1 k1 L NN) := M1.out.below hb5
  replace L2 : Hid (StLie w5 (w3.heap.size) w4.heap.size c2) := L2.out.below hb5
  replace BX : Hid (Bx w5 (w4.heap.size) [.slice c2.e.b.va c2.e.b.vs.length c2.e.b.vc, .slice c2.e.b.pa c2.e.b.ps.length c2.e.b.pc, .slice c2.e.b.qa c2.e.b.qs.length c2.e.b.qc, .int .i64 c2.e.b.cs, .int .i64 c2.e.b.nx, .slice c2.e.oa c2.e.os.length c2.e.oc, .slice c2.d.sa c2.d.ss.length c2.d.sc, .slice c2.d.pa c2.d.ps.length c2.d.pc]) := BX.out.below hb5
  clear hb5 x0 x1 x2 x3 x4 x5 x6 x7
  have M2 : Hid (NLie w5 (w4.heap.size + 1) w5.heap.size a2 k2 L NN) := (by show NLie _ _ _ _ _ _ _; simpa using hl)
  clear hl
  go_wp2_with fail
  refine (eqN NN L _ _ _ _ a2 a1 k2 k1 HL.out HLL.out _ M2.out M1.out).mono ?_
  rintro e w6 ⟨rfl, hb6⟩
  have Z6 : Hid (w5.heap.size ≤ w6.heap.size) := by show _ ≤ _; have h := hb6.size; simpa using h
  replace BA : Hid (Bx w6 w.heap.size [.slice s.e.b.va s.e.b.vs.length s.e.b.vc, .slice s.e.b.pa s.e.b.ps.length s.e.b.pc, .slice s.e.b.qa s.e.b.qs.length s.e.b.qc, .int .i64 s.e.b.cs, .int .i64 s.e.b.nx, .slice s.e.oa s.e.os.length s.e.oc, .slice s.d.sa s.d.ss.length s.d.sc, .slice s.d.pa s.d.ps.length s.d.pc]) := BA.out.below hb6
  replace HB : Hid (Below w.heap.size w w6) := HB.out.trans (hb6.mono HB.out.size)
  replace AB : Hid (StArg w6 s) := HPe.out.below HB.out
  replace M1 : Hid (NLie w6 (w2.heap.size) w3.heap.size a1 k1 L NN) := M1.out.below hb6
  replace L2 : Hid (StLie w6 (w3.heap.size) w4.heap.size c2) := L2.out.below hb6
  replace BX : Hid (Bx w6 (w4.heap.size) [.slice c2.e.b.va c2.e.b.vs.length c2.e.b.vc, .slice c2.e.b.pa c2.e.b.ps.length c2.e.b.pc, .slice c2.e.b.qa c2.e.b.qs.length c2.e.b.qc, .int .i64 c2.e.b.cs, .int .i64 c2.e.b.nx, .slice c2.e.oa c2.e.os.length c2.e.oc, .slice c2.d.sa c2.d.ss.length c2.d.sc, .slice c2.d.pa c2.d.ps.length c2.d.pc]) := BX.out.below hb6
  replace M2 : Hid (NLie w6 (w4.heap.size + 1) w5.heap.size a2 k2 L NN) := M2.out.below hb6
  clear hb6
  go_wp2
  refine wp_region_held_drew (S := fun w' => w'.cell? ⟨w4.heap.size, 0, none⟩ = some (.slice c2.e.b.va c2.e.b.vs.length c2.e.b.vc) ∧ w'.cell? ⟨w4.heap.size, 1, none⟩ = some (.slice c2.e.b.pa c2.e.b.ps.length c2.e.b.pc) ∧ w'.cell? ⟨w4.heap.size, 2, none⟩ = some (.slice c2.e.b.qa c2.e.b.qs.length c2.e.b.qc) ∧ w'.cell? ⟨w4.heap.size, 3, none⟩ = some (.int .i64 c2.e.b.cs) ∧ w'.cell? ⟨w4.heap.size, 4, none⟩ = some (.int .i64 c2.e.b.nx) ∧ w'.cell? ⟨w4.heap.size, 5, none⟩ = some (.slice c2.e.oa c2.e.os.length c2.e.oc) ∧ w'.cell? ⟨w4.heap.size, 6, none⟩ = some (.slice c2.d.sa c2.d.ss.length c2.d.sc) ∧ w'.cell? ⟨w4.heap.size, 7, none⟩ = some (.slice c2.d.pa c2.d.ps.length c2.d.pc) ∧ w'.cell? ⟨w.heap.size, 0, none⟩ = some (.slice s.e.b.va s.e.b.vs.length s.e.b.vc) ∧ w'.cell? ⟨w.heap.size, 1, none⟩ = some (.slice s.e.b.pa s.e.b.ps.length s.e.b.pc) ∧ w'.cell? ⟨w.heap.size, 2, none⟩ = some (.slice s.e.b.qa s.e.b.qs.length s.e.b.qc) ∧ w'.cell? ⟨w.heap.size, 3, none⟩ = some (.int .i64 s.e.b.cs) ∧ w'.cell? ⟨w.heap.size, 4, none⟩ = some (.int .i64 s.e.b.nx) ∧ w'.cell? ⟨w.heap.size, 5, none⟩ = some (.slice s.e.oa s.e.os.length s.e.oc) ∧ w'.cell? ⟨w.heap.size, 6, none⟩ = some (.slice s.d.sa s.d.ss.length s.d.sc) ∧ w'.cell? ⟨w.heap.size, 7, none⟩ = some (.slice s.d.pa s.d.ps.length s.d.pc)) (by kernel_rfl) ⟨BX.out.c0, BX.out.c1, BX.out.c2, BX.out.c3, BX.out.c4, BX.out.c5, BX.out.c6, BX.out.c7, BA.out.c0, BA.out.c1, BA.out.c2, BA.out.c3, BA.out.c4, BA.out.c5, BA.out.c6, BA.out.c7⟩ (fun hHeld => ?_)
  (refine tk 0 ?_ rfl (Or.inl ⟨by rfl, ?_⟩) ?_; rotate_left; (focus (intro w h; (try dsimp only at h); go_simp; (try with_reducible rfl))); simp only [Act.put, tA, tB, tD, tE, tF])
  (refine tk 1 ?_ rfl (Or.inl ⟨by rfl, ?_⟩) ?_; rotate_left; (focus (intro w h; (try dsimp only at h); go_simp; (try with_reducible rfl))); simp only [Act.put, tA, tB, tC, tD, tE, tF])
  refine wpAnyH_ready (rs := [2]) (by kernel_rfl) (by simp) ?_
  refine AllReadyH.cons rfl (fun K hK => ?_) AllReadyH.nil
  go_simp
  go_wp2_with fail
  refine (toS s HF.out _ AB.out.rows.drewS).mono ?_
  rintro e w7 ⟨c3, rfl, hs3, hl3, hb7⟩
  have hbu7 := undrew hb7
  have Z7 : Hid (w6.heap.size ≤ w7.heap.size) := by show _ ≤ _; have h := hbu7.size; simpa using h
  replace BA : Hid (Bx w7 w.heap.size [.slice s.e.b.va s.e.b.vs.length s.e.b.vc, .slice s.e.b.pa s.e.b.ps.length s.e.b.pc, .slice s.e.b.qa s.e.b.qs.length s.e.b.qc, .int .i64 s.e.b.cs, .int .i64 s.e.b.nx, .slice s.e.oa s.e.os.length s.e.oc, .slice s.d.sa s.d.ss.length s.d.sc, .slice s.d.pa s.d.ps.length s.d.pc]) := BA.out.below hbu7
  replace HB : Hid (Below w.heap.size w w7) := HB.out.trans (hbu7.mono HB.out.size)
  replace AB : Hid (StArg w7 s) := HPe.out.below HB.out
  replace M1 : Hid (NLie w7 (w2.heap.size) w3.heap.size a1 k1 L NN) := M1.out.below hbu7
  replace L2 : Hid (StLie w7 (w3.heap.size) w4.heap.size c2) := L2.out.below hbu7
  replace BX : Hid (Bx w7 (w4.heap.size) [.slice c2.e.b.va c2.e.b.vs.length c2.e.b.vc, .slice c2.e.b.pa c2.e.b.ps.length c2.e.b.pc, .slice c2.e.b.qa c2.e.b.qs.length c2.e.b.qc, .int .i64 c2.e.b.cs, .int .i64 c2.e.b.nx, .slice c2.e.oa c2.e.os.length c2.e.oc, .slice c2.d.sa c2.d.ss.length c2.d.sc, .slice c2.d.pa c2.d.ps.length c2.d.pc]) := BX.out.below hbu7
  replace M2 : Hid (NLie w7 (w4.heap.size + 1) w5.heap.size a2 k2 L NN) := M2.out.below hbu7
  have U := hide hl3.rows
  clear hl3
  go_wp2_with fail
  refine hK.out _ _ ⟨BX.out.c0, BX.out.c1, BX.out.c2, BX.out.c3, BX.out.c4, BX.out.c5, BX.out.c6, BX.out.c7, BA.out.c0, BA.out.c1, BA.out.c2, BA.out.c3, BA.out.c4, BA.out.c5, BA.out.c6, BA.out.c7⟩ (fun hHeld7 => ?_)
  clear hK K hb7 hbu7
  refine wpAnyH_ready (rs := [3]) (by kernel_rfl) (by simp) ?_
  refine AllReadyH.cons rfl (fun K hK => ?_) AllReadyH.nil
  go_simp
  go_wp2_with fail
  refine (eqS c2 c3 (C2.out.symm.trans hs3) (C2.out.fit HF.out) _ L2.out.rows U.out).mono ?_
  rintro e w8 ⟨rfl, hb8⟩
  have Z8 : Hid (w7.heap.size ≤ w8.heap.size) := by show _ ≤ _; have h := hb8.size; simpa using h
  replace BA : Hid (Bx w8 w.heap.size [.slice s.e.b.va s.e.b.vs.length s.e.b.vc, .slice s.e.b.pa s.e.b.ps.length s.e.b.pc, .slice s.e.b.qa s.e.b.qs.length s.e.b.qc, .int .i64 s.e.b.cs, .int .i64 s.e.b.nx, .slice s.e.oa s.e.os.length s.e.oc, .slice s.d.sa s.d.ss.length s.d.sc, .slice s.d.pa s.d.ps.length s.d.pc]) := BA.out.below hb8
  replace HB : Hid (Below w.heap.size w w8) := HB.out.trans (hb8.mono HB.out.size)
  replace AB : Hid (StArg w8 s) := HPe.out.below HB.out
  replace M1 : Hid (NLie w8 (w2.heap.size) w3.heap.size a1 k1 L NN) := M1.out.below hb8
  replace L2 : Hid (StLie w8 (w3.heap.size) w4.heap.size c2) := L2.out.below hb8
  replace BX : Hid (Bx w8 (w4.heap.size) [.slice c2.e.b.va c2.e.b.vs.length c2.e.b.vc, .slice c2.e.b.pa c2.e.b.ps.length c2.e.b.pc, .slice c2.e.b.qa c2.e.b.qs.length c2.e.b.qc, .int .i64 c2.e.b.cs, .int .i64 c2.e.b.nx, .slice c2.e.oa c2.e.os.length c2.e.oc, .slice c2.d.sa c2.d.ss.length c2.d.sc, .slice c2.d.pa c2.d.ps.length c2.d.pc]) := BX.out.below hb8
  replace M2 : Hid (NLie w8 (w4.heap.size + 1) w5.heap.size a2 k2 L NN) := M2.out.below hb8
  replace U : Hid (StRows w8 c3) := U.out.below hb8
  go_wp2_with fail
  refine hK.out _ _ ⟨BX.out.c0, BX.out.c1, BX.out.c2, BX.out.c3, BX.out.c4, BX.out.c5, BX.out.c6, BX.out.c7, BA.out.c0, BA.out.c1, BA.out.c2, BA.out.c3, BA.out.c4, BA.out.c5, BA.out.c6, BA.out.c7⟩ (fun hHeld8 => ?_)
  clear hK K hb8
  (refine tk 4 ?_ rfl (Or.inl ⟨by rfl, ?_⟩) ?_; rotate_left; (focus (intro w h; (try dsimp only at h); go_simp; (try with_reducible rfl))); simp only [Act.put, tA, tB, tC, tD, tE, tF])
  refine wpAnyH_done (by kernel_rfl) ?_ _
  clear U
  clear hs3
  have x0 := BX.out.c0
  have x1 := BX.out.c1
  have x2 := BX.out.c2
  have x3 := BX.out.c3
  have x4 := BX.out.c4
  have x5 := BX.out.c5
  have x6 := BX.out.c6
  have x7 := BX.out.c7
  go_wp2_with fail
  refine (markS c2 (w3.heap.size) (w4.heap.size) (C2.out.fit HF.out) _ (by have := Z1.out; have := Z2.out; have := Z3.out; have := Z4.out; have := Z5.out; have := Z6.out; have := Z7.out; have := Z8.out; omega) L2.out).mono ?_
  rintro e w9 ⟨q1, m1, rfl, _, hz9, _⟩
  have Z9 : Hid (w8.heap.size ≤ w9.heap.size) := hz9.size
  replace BA : Hid (Bx w9 w.heap.size [.slice s.e.b.va s.e.b.vs.length s.e.b.vc, .slice s.e.b.pa s.e.b.ps.length s.e.b.pc, .slice s.e.b.qa s.e.b.qs.length s.e.b.qc, .int .i64 s.e.b.cs, .int .i64 s.e.b.nx, .slice s.e.oa s.e.os.length s.e.oc, .slice s.d.sa s.d.ss.length s.d.sc, .slice s.d.pa s.d.ps.length s.d.pc]) := BA.out.zn hz9 (by have := Z1.out; have := Z2.out; have := Z3.out; have := Z4.out; have := Z5.out; have := Z6.out; have := Z7.out; have := Z8.out; omega)
  replace HB : Hid (Below w.heap.size w w9) := HB.out.trans (hz9.below (by have := Z1.out; have := Z2.out; have := Z3.out; have := Z4.out; have := Z5.out; have := Z6.out; have := Z7.out; have := Z8.out; omega) HB.out.size)
  replace AB : Hid (StArg w9 s) := HPe.out.below HB.out
  replace M1 : Hid (NLie w9 (w2.heap.size) w3.heap.size a1 k1 L NN) := M1.out.zn hz9 (by have := Z1.out; have := Z2.out; have := Z3.out; have := Z4.out; have := Z5.out; have := Z6.out; have := Z7.out; have := Z8.out; omega)
  replace BX : Hid (Bx w9 (w4.heap.size) [.slice c2.e.b.va c2.e.b.vs.length c2.e.b.vc, .slice c2.e.b.pa c2.e.b.ps.length c2.e.b.pc, .slice c2.e.b.qa c2.e.b.qs.length c2.e.b.qc, .int .i64 c2.e.b.cs, .int .i64 c2.e.b.nx, .slice c2.e.oa c2.e.os.length c2.e.oc, .slice c2.d.sa c2.d.ss.length c2.d.sc, .slice c2.d.pa c2.d.ps.length c2.d.pc]) := BX.out.zn hz9 (by have := Z1.out; have := Z2.out; have := Z3.out; have := Z4.out; have := Z5.out; have := Z6.out; have := Z7.out; have := Z8.out; omega)
  replace M2 : Hid (NLie w9 (w4.heap.size + 1) w5.heap.size a2 k2 L NN) := M2.out.zn hz9 (by have := Z1.out; have := Z2.out; have := Z3.out; have := Z4.out; have := Z5.out; have := Z6.out; have := Z7.out; have := Z8.out; omega)
  clear hz9 x0 x1 x2 x3 x4 x5 x6 x7 L2
  have hK1a : ¬ (q1 : Int) < 0 := by omega
  have hK1b : decide ((q1 : Int) < 0) = false := by simp
  go_wp2_with fail
  refine (eqN NN L _ _ _ _ a2 a1 k2 k1 HL.out HLL.out _ M2.out M1.out).mono ?_
  rintro e w10 ⟨rfl, hb10⟩
  have Z10 : Hid (w9.heap.size ≤ w10.heap.size) := by show _ ≤ _; have h := hb10.size; simpa using h
  replace BA : Hid (Bx w10 w.heap.size [.slice s.e.b.va s.e.b.vs.length s.e.b.vc, .slice s.e.b.pa s.e.b.ps.length s.e.b.pc, .slice s.e.b.qa s.e.b.qs.length s.e.b.qc, .int .i64 s.e.b.cs, .int .i64 s.e.b.nx, .slice s.e.oa s.e.os.length s.e.oc, .slice s.d.sa s.d.ss.length s.d.sc, .slice s.d.pa s.d.ps.length s.d.pc]) := BA.out.below hb10
  replace HB : Hid (Below w.heap.size w w10) := HB.out.trans (hb10.mono HB.out.size)
  replace AB : Hid (StArg w10 s) := HPe.out.below HB.out
  replace M1 : Hid (NLie w10 (w2.heap.size) w3.heap.size a1 k1 L NN) := M1.out.below hb10
  replace BX : Hid (Bx w10 (w4.heap.size) [.slice c2.e.b.va c2.e.b.vs.length c2.e.b.vc, .slice c2.e.b.pa c2.e.b.ps.length c2.e.b.pc, .slice c2.e.b.qa c2.e.b.qs.length c2.e.b.qc, .int .i64 c2.e.b.cs, .int .i64 c2.e.b.nx, .slice c2.e.oa c2.e.os.length c2.e.oc, .slice c2.d.sa c2.d.ss.length c2.d.sc, .slice c2.d.pa c2.d.ps.length c2.d.pc]) := BX.out.below hb10
  replace M2 : Hid (NLie w10 (w4.heap.size + 1) w5.heap.size a2 k2 L NN) := M2.out.below hb10
  clear hb10
  go_wp2_with fail
  refine (markN NN L (w4.heap.size + 1) (w5.heap.size) a2 k2 HL.out HLL.out _ M2.out).mono ?_
  rintro e w11 ⟨rfl, hm, hz11⟩
  have Z11 : Hid (w10.heap.size ≤ w11.heap.size) := hz11.size
  replace BA : Hid (Bx w11 w.heap.size [.slice s.e.b.va s.e.b.vs.length s.e.b.vc, .slice s.e.b.pa s.e.b.ps.length s.e.b.pc, .slice s.e.b.qa s.e.b.qs.length s.e.b.qc, .int .i64 s.e.b.cs, .int .i64 s.e.b.nx, .slice s.e.oa s.e.os.length s.e.oc, .slice s.d.sa s.d.ss.length s.d.sc, .slice s.d.pa s.d.ps.length s.d.pc]) := BA.out.zn hz11 (by have := Z1.out; have := Z2.out; have := Z3.out; have := Z4.out; have := Z5.out; have := Z6.out; have := Z7.out; have := Z8.out; have := Z9.out; have := Z10.out; omega)
  replace HB : Hid (Below w.heap.size w w11) := HB.out.trans (hz11.below (by have := Z1.out; have := Z2.out; have := Z3.out; have := Z4.out; have := Z5.out; have := Z6.out; have := Z7.out; have := Z8.out; have := Z9.out; have := Z10.out; omega) HB.out.size)
  replace AB : Hid (StArg w11 s) := HPe.out.below HB.out
  replace M1 : Hid (NLie w11 (w2.heap.size) w3.heap.size a1 k1 L NN) := M1.out.zn hz11 (by have := Z1.out; have := Z2.out; have := Z3.out; have := Z4.out; have := Z5.out; have := Z6.out; have := Z7.out; have := Z8.out; have := Z9.out; have := Z10.out; omega)
  replace BX : Hid (Bx w11 (w4.heap.size) [.slice c2.e.b.va c2.e.b.vs.length c2.e.b.vc, .slice c2.e.b.pa c2.e.b.ps.length c2.e.b.pc, .slice c2.e.b.qa c2.e.b.qs.length c2.e.b.qc, .int .i64 c2.e.b.cs, .int .i64 c2.e.b.nx, .slice c2.e.oa c2.e.os.length c2.e.oc, .slice c2.d.sa c2.d.ss.length c2.d.sc, .slice c2.d.pa c2.d.ps.length c2.d.pc]) := BX.out.zn hz11 (by have := Z1.out; have := Z2.out; have := Z3.out; have := Z4.out; have := Z5.out; have := Z6.out; have := Z7.out; have := Z8.out; have := Z9.out; have := Z10.out; omega)
  have MM : Hid (NLie w11 (w4.heap.size + 1) (w5.heap.size) a2 k2 L (marks 1 L)) := hm
  clear hm
  clear hz11 M2
  have HHN : Hid (∀ W : World, NLie W (w4.heap.size + 1) (w5.heap.size) a2 k2 L (marks 1 L) → Calls Try.prog 16 #[.slice a2 L k2, .int .i64 1] W fun e w' => e = .returned (.int .i64 ((1 + L : Nat) : Int)) ∧ Below W.heap.size W w') := fun W h => heldN L _ _ a2 k2 HLL.out W h
  obtain ⟨q3, hq3⟩ : ∃ q3, q3 = 1 + L := ⟨_, rfl⟩
  rw [← hq3] at HHN ⊢
  clear hq3
  have hK3a : ¬ (q3 : Int) < 0 := by omega
  have hK3b := ne_self_int (q3 : Int)
  go_wp2_with fail
  refine (HHN.out _ MM.out).mono ?_
  rintro e w12 ⟨rfl, hb12⟩
  have Z12 : Hid (w11.heap.size ≤ w12.heap.size) := by show _ ≤ _; have h := hb12.size; simpa using h
  replace BA : Hid (Bx w12 w.heap.size [.slice s.e.b.va s.e.b.vs.length s.e.b.vc, .slice s.e.b.pa s.e.b.ps.length s.e.b.pc, .slice s.e.b.qa s.e.b.qs.length s.e.b.qc, .int .i64 s.e.b.cs, .int .i64 s.e.b.nx, .slice s.e.oa s.e.os.length s.e.oc, .slice s.d.sa s.d.ss.length s.d.sc, .slice s.d.pa s.d.ps.length s.d.pc]) := BA.out.below hb12
  replace HB : Hid (Below w.heap.size w w12) := HB.out.trans (hb12.mono HB.out.size)
  replace AB : Hid (StArg w12 s) := HPe.out.below HB.out
  replace M1 : Hid (NLie w12 (w2.heap.size) w3.heap.size a1 k1 L NN) := M1.out.below hb12
  replace BX : Hid (Bx w12 (w4.heap.size) [.slice c2.e.b.va c2.e.b.vs.length c2.e.b.vc, .slice c2.e.b.pa c2.e.b.ps.length c2.e.b.pc, .slice c2.e.b.qa c2.e.b.qs.length c2.e.b.qc, .int .i64 c2.e.b.cs, .int .i64 c2.e.b.nx, .slice c2.e.oa c2.e.os.length c2.e.oc, .slice c2.d.sa c2.d.ss.length c2.d.sc, .slice c2.d.pa c2.d.ps.length c2.d.pc]) := BX.out.below hb12
  replace MM : Hid (NLie w12 (w4.heap.size + 1) (w5.heap.size) a2 k2 L (marks 1 L)) := MM.out.below hb12
  clear hb12
  have x0 := BA.out.c0
  have x1 := BA.out.c1
  have x2 := BA.out.c2
  have x3 := BA.out.c3
  have x4 := BA.out.c4
  have x5 := BA.out.c5
  have x6 := BA.out.c6
  have x7 := BA.out.c7
  go_wp2_with fail
  refine (toS s HF.out _ AB.out.rows).mono ?_
  rintro e w13 ⟨c4, rfl, hs, hl, hb13⟩
  have Z13 : Hid (w12.heap.size ≤ w13.heap.size) := by show _ ≤ _; have h := hb13.size; simpa using h
  replace BA : Hid (Bx w13 w.heap.size [.slice s.e.b.va s.e.b.vs.length s.e.b.vc, .slice s.e.b.pa s.e.b.ps.length s.e.b.pc, .slice s.e.b.qa s.e.b.qs.length s.e.b.qc, .int .i64 s.e.b.cs, .int .i64 s.e.b.nx, .slice s.e.oa s.e.os.length s.e.oc, .slice s.d.sa s.d.ss.length s.d.sc, .slice s.d.pa s.d.ps.length s.d.pc]) := BA.out.below hb13
  replace HB : Hid (Below w.heap.size w w13) := HB.out.trans (hb13.mono HB.out.size)
  replace AB : Hid (StArg w13 s) := HPe.out.below HB.out
  replace M1 : Hid (NLie w13 (w2.heap.size) w3.heap.size a1 k1 L NN) := M1.out.below hb13
  replace BX : Hid (Bx w13 (w4.heap.size) [.slice c2.e.b.va c2.e.b.vs.length c2.e.b.vc, .slice c2.e.b.pa c2.e.b.ps.length c2.e.b.pc, .slice c2.e.b.qa c2.e.b.qs.length c2.e.b.qc, .int .i64 c2.e.b.cs, .int .i64 c2.e.b.nx, .slice c2.e.oa c2.e.os.length c2.e.oc, .slice c2.d.sa c2.d.ss.length c2.d.sc, .slice c2.d.pa c2.d.ps.length c2.d.pc]) := BX.out.below hb13
  replace MM : Hid (NLie w13 (w4.heap.size + 1) (w5.heap.size) a2 k2 L (marks 1 L)) := MM.out.below hb13
  have C4 : Hid (StSame s c4) := hs
  clear hs
  clear hb13 x0 x1 x2 x3 x4 x5 x6 x7
  have L4 : Hid (StLie w13 (w12.heap.size) w13.heap.size c4) := hl
  clear hl
  go_wp2_with fail
  refine (CI.out c4 _ C4.out L4.out.rows).mono ?_
  rintro e w14 ⟨a4, k4, rfl, hl, hb14⟩
  have Z14 : Hid (w13.heap.size ≤ w14.heap.size) := by show _ ≤ _; have h := hb14.size; simpa using h
  replace BA : Hid (Bx w14 w.heap.size [.slice s.e.b.va s.e.b.vs.length s.e.b.vc, .slice s.e.b.pa s.e.b.ps.length s.e.b.pc, .slice s.e.b.qa s.e.b.qs.length s.e.b.qc, .int .i64 s.e.b.cs, .int .i64 s.e.b.nx, .slice s.e.oa s.e.os.length s.e.oc, .slice s.d.sa s.d.ss.length s.d.sc, .slice s.d.pa s.d.ps.length s.d.pc]) := BA.out.below hb14
  replace HB : Hid (Below w.heap.size w w14) := HB.out.trans (hb14.mono HB.out.size)
  replace AB : Hid (StArg w14 s) := HPe.out.below HB.out
  replace M1 : Hid (NLie w14 (w2.heap.size) w3.heap.size a1 k1 L NN) := M1.out.below hb14
  replace BX : Hid (Bx w14 (w4.heap.size) [.slice c2.e.b.va c2.e.b.vs.length c2.e.b.vc, .slice c2.e.b.pa c2.e.b.ps.length c2.e.b.pc, .slice c2.e.b.qa c2.e.b.qs.length c2.e.b.qc, .int .i64 c2.e.b.cs, .int .i64 c2.e.b.nx, .slice c2.e.oa c2.e.os.length c2.e.oc, .slice c2.d.sa c2.d.ss.length c2.d.sc, .slice c2.d.pa c2.d.ps.length c2.d.pc]) := BX.out.below hb14
  replace MM : Hid (NLie w14 (w4.heap.size + 1) (w5.heap.size) a2 k2 L (marks 1 L)) := MM.out.below hb14
  replace L4 : Hid (StLie w14 (w12.heap.size) w13.heap.size c4) := L4.out.below hb14
  clear hb14
  have M4 : Hid (NLie w14 (w13.heap.size) w14.heap.size a4 k4 L NN) := hl
  clear hl
  clear L4
  go_wp2_with fail
  refine (eqN NN L _ _ _ _ a4 a1 k4 k1 HL.out HLL.out _ M4.out M1.out).mono ?_
  rintro e w15 ⟨rfl, hb15⟩
  have Z15 : Hid (w14.heap.size ≤ w15.heap.size) := by show _ ≤ _; have h := hb15.size; simpa using h
  replace BA : Hid (Bx w15 w.heap.size [.slice s.e.b.va s.e.b.vs.length s.e.b.vc, .slice s.e.b.pa s.e.b.ps.length s.e.b.pc, .slice s.e.b.qa s.e.b.qs.length s.e.b.qc, .int .i64 s.e.b.cs, .int .i64 s.e.b.nx, .slice s.e.oa s.e.os.length s.e.oc, .slice s.d.sa s.d.ss.length s.d.sc, .slice s.d.pa s.d.ps.length s.d.pc]) := BA.out.below hb15
  replace HB : Hid (Below w.heap.size w w15) := HB.out.trans (hb15.mono HB.out.size)
  replace AB : Hid (StArg w15 s) := HPe.out.below HB.out
  replace M1 : Hid (NLie w15 (w2.heap.size) w3.heap.size a1 k1 L NN) := M1.out.below hb15
  replace BX : Hid (Bx w15 (w4.heap.size) [.slice c2.e.b.va c2.e.b.vs.length c2.e.b.vc, .slice c2.e.b.pa c2.e.b.ps.length c2.e.b.pc, .slice c2.e.b.qa c2.e.b.qs.length c2.e.b.qc, .int .i64 c2.e.b.cs, .int .i64 c2.e.b.nx, .slice c2.e.oa c2.e.os.length c2.e.oc, .slice c2.d.sa c2.d.ss.length c2.d.sc, .slice c2.d.pa c2.d.ps.length c2.d.pc]) := BX.out.below hb15
  replace MM : Hid (NLie w15 (w4.heap.size + 1) (w5.heap.size) a2 k2 L (marks 1 L)) := MM.out.below hb15
  replace M4 : Hid (NLie w15 (w13.heap.size) w14.heap.size a4 k4 L NN) := M4.out.below hb15
  clear hb15
  go_wp2_with fail
  refine (HHN.out _ MM.out).mono ?_
  rintro e w16 ⟨rfl, hb16⟩
  have Z16 : Hid (w15.heap.size ≤ w16.heap.size) := by show _ ≤ _; have h := hb16.size; simpa using h
  replace BA : Hid (Bx w16 w.heap.size [.slice s.e.b.va s.e.b.vs.length s.e.b.vc, .slice s.e.b.pa s.e.b.ps.length s.e.b.pc, .slice s.e.b.qa s.e.b.qs.length s.e.b.qc, .int .i64 s.e.b.cs, .int .i64 s.e.b.nx, .slice s.e.oa s.e.os.length s.e.oc, .slice s.d.sa s.d.ss.length s.d.sc, .slice s.d.pa s.d.ps.length s.d.pc]) := BA.out.below hb16
  replace HB : Hid (Below w.heap.size w w16) := HB.out.trans (hb16.mono HB.out.size)
  replace AB : Hid (StArg w16 s) := HPe.out.below HB.out
  replace M1 : Hid (NLie w16 (w2.heap.size) w3.heap.size a1 k1 L NN) := M1.out.below hb16
  replace BX : Hid (Bx w16 (w4.heap.size) [.slice c2.e.b.va c2.e.b.vs.length c2.e.b.vc, .slice c2.e.b.pa c2.e.b.ps.length c2.e.b.pc, .slice c2.e.b.qa c2.e.b.qs.length c2.e.b.qc, .int .i64 c2.e.b.cs, .int .i64 c2.e.b.nx, .slice c2.e.oa c2.e.os.length c2.e.oc, .slice c2.d.sa c2.d.ss.length c2.d.sc, .slice c2.d.pa c2.d.ps.length c2.d.pc]) := BX.out.below hb16
  replace MM : Hid (NLie w16 (w4.heap.size + 1) (w5.heap.size) a2 k2 L (marks 1 L)) := MM.out.below hb16
  replace M4 : Hid (NLie w16 (w13.heap.size) w14.heap.size a4 k4 L NN) := M4.out.below hb16
  clear hb16
  go_wp2
  go_ret
  exact ⟨rfl, HB.out⟩

end Go.Proofs.Ytmaipaeehalabaa

/- Marks of stores. -/
import Derived.Test.YtmaipaeehalabaaPi17
import Derived.Test.YtmaipaeehalabaaPi21
import Derived.Deep.RegionHeld3
import Derived.Deep.Cut
import Derived.Deep.CutRange
namespace Go.Proofs.Ytmaipaeehalabaa
open Go.RowKit
open KM
attribute [local go_sem ↓] Go.wp_at_zero Go.wp_at_succ

set_option maxRecDepth 100000 in
set_option maxHeartbeats 2000000 in
theorem heldS (s : St) (hf : StFit s) (me : En) (q1 q : Nat) (hq1 : 0 < q1 ∧ q1 ≤ 100000000000000000) (hq : q = q1 + s.d.ss.length + 2 * s.d.ps.length) (hh : ∀ W : World, EnRows W me → Calls Try.prog 25 #[.agg #[.slice s.e.b.va s.e.b.vs.length s.e.b.vc, .slice s.e.b.pa s.e.b.ps.length s.e.b.pc, .slice s.e.b.qa s.e.b.qs.length s.e.b.qc, .int .i64 s.e.b.cs, .int .i64 s.e.b.nx, .slice s.e.oa s.e.os.length s.e.oc], .int .i64 1] W fun ex w' => ex = .returned (.int .i64 (q1 : Int)) ∧ Below W.heap.size W w') (w : World) (hp : StRows w ⟨me, ⟨marks q1 s.d.ss.length, pmarks (q1 + s.d.ss.length) s.d.ps.length, s.d.sa, s.d.sc, s.d.pa, s.d.pc⟩⟩) :
    Calls Try.prog 9 #[.agg #[.slice s.e.b.va s.e.b.vs.length s.e.b.vc, .slice s.e.b.pa s.e.b.ps.length s.e.b.pc, .slice s.e.b.qa s.e.b.qs.length s.e.b.qc, .int .i64 s.e.b.cs, .int .i64 s.e.b.nx, .slice s.e.oa s.e.os.length s.e.oc, .slice s.d.sa s.d.ss.length s.d.sc, .slice s.d.pa s.d.ps.length s.d.pc], .int .i64 1] w fun ex w' => ex = .returned (.int .i64 (q : Int)) ∧ Below w.heap.size w w' := by
  have BA0 : Hid (Bx (w.alloc (.cells #[.slice s.e.b.va s.e.b.vs.length s.e.b.vc, .slice s.e.b.pa s.e.b.ps.length s.e.b.pc, .slice s.e.b.qa s.e.b.qs.length s.e.b.qc, .int .i64 s.e.b.cs, .int .i64 s.e.b.nx, .slice s.e.oa s.e.os.length s.e.oc, .slice s.d.sa s.d.ss.length s.d.sc, .slice s.d.pa s.d.ps.length s.d.pc] 33)) w.heap.size [.slice s.e.b.va s.e.b.vs.length s.e.b.vc, .slice s.e.b.pa s.e.b.ps.length s.e.b.pc, .slice s.e.b.qa s.e.b.qs.length s.e.b.qc, .int .i64 s.e.b.cs, .int .i64 s.e.b.nx, .slice s.e.oa s.e.os.length s.e.oc, .slice s.d.sa s.d.ss.length s.d.sc, .slice s.d.pa s.d.ps.length s.d.pc]) := Bx.new w [.slice s.e.b.va s.e.b.vs.length s.e.b.vc, .slice s.e.b.pa s.e.b.ps.length s.e.b.pc, .slice s.e.b.qa s.e.b.qs.length s.e.b.qc, .int .i64 s.e.b.cs, .int .i64 s.e.b.nx, .slice s.e.oa s.e.os.length s.e.oc, .slice s.d.sa s.d.ss.length s.d.sc, .slice s.d.pa s.d.ps.length s.d.pc] 33
  have HB0 : Hid (Below w.heap.size w (w.alloc (.cells #[.slice s.e.b.va s.e.b.vs.length s.e.b.vc, .slice s.e.b.pa s.e.b.ps.length s.e.b.pc, .slice s.e.b.qa s.e.b.qs.length s.e.b.qc, .int .i64 s.e.b.cs, .int .i64 s.e.b.nx, .slice s.e.oa s.e.os.length s.e.oc, .slice s.d.sa s.d.ss.length s.d.sc, .slice s.d.pa s.d.ps.length s.d.pc] 33))) := (belowRefl w).alloc (Nat.le_refl _) _
  have HP : Hid (StRows w ⟨me, ⟨marks q1 s.d.ss.length, pmarks (q1 + s.d.ss.length) s.d.ps.length, s.d.sa, s.d.sc, s.d.pa, s.d.pc⟩⟩) := hp
  have C1 : Hid (∀ W : World, Below w.heap.size w W → Calls Try.prog 25 #[.agg #[.slice s.e.b.va s.e.b.vs.length s.e.b.vc, .slice s.e.b.pa s.e.b.ps.length s.e.b.pc, .slice s.e.b.qa s.e.b.qs.length s.e.b.qc, .int .i64 s.e.b.cs, .int .i64 s.e.b.nx, .slice s.e.oa s.e.os.length s.e.oc], .int .i64 1] W fun ex w' => ex = .returned (.int .i64 (q1 : Int)) ∧ Below W.heap.size W w') := fun W h => hh W (HP.out.below h).e
  have C2 : Hid (∀ W : World, Below w.heap.size w W → Calls Try.prog 26 #[.agg #[.slice s.d.sa s.d.ss.length s.d.sc, .slice s.d.pa s.d.ps.length s.d.pc], .int .i64 (q1 : Int)] W fun ex w' => ex = .returned (.int .i64 (q : Int)) ∧ Below W.heap.size W w') := fun W h => by
    have k := held42 s.d.ss.length s.d.ps.length q1 s.d.sa s.d.pa s.d.sc s.d.pc (Nat.le_trans hf.d.1 (by omega)) (Nat.le_trans hf.d.2.1 (by omega)) hq1.1 hq1.2 W (HP.out.below h).d.s (HP.out.below h).d.p
    rw [← hq] at k
    exact k
  have hn1 : ¬ (q1 : Int) < 0 := by omega
  have hn2 : ¬ (q : Int) < 0 := by omega
  clear hp hf hh hq HP hq1
  go_enter Try.func9, Try.ntmps9
  have x0 := BA0.out.c0
  have x1 := BA0.out.c1
  have x2 := BA0.out.c2
  have x3 := BA0.out.c3
  have x4 := BA0.out.c4
  have x5 := BA0.out.c5
  go_wp2_with fail
  refine (C1.out _ HB0.out).mono ?_
  rintro ex w1 ⟨rfl, hb⟩
  have HB1 : Hid (Below w.heap.size w w1) := HB0.out.trans (hb.mono HB0.out.size)
  have BA1 : Hid (Bx w1 w.heap.size [.slice s.e.b.va s.e.b.vs.length s.e.b.vc, .slice s.e.b.pa s.e.b.ps.length s.e.b.pc, .slice s.e.b.qa s.e.b.qs.length s.e.b.qc, .int .i64 s.e.b.cs, .int .i64 s.e.b.nx, .slice s.e.oa s.e.os.length s.e.oc, .slice s.d.sa s.d.ss.length s.d.sc, .slice s.d.pa s.d.ps.length s.d.pc]) := BA0.out.below hb
  clear hb HB0 BA0
  clear x0 x1 x2 x3 x4 x5
  have x6 := BA1.out.c6
  have x7 := BA1.out.c7
  go_wp2_with fail
  refine (C2.out _ HB1.out).mono ?_
  rintro ex w2 ⟨rfl, hb⟩
  have HB2 : Hid (Below w.heap.size w w2) := HB1.out.trans (hb.mono HB1.out.size)
  clear hb HB1 BA1 x6 x7
  go_wp2
  go_ret
  exact ⟨rfl, HB2.out⟩

set_option maxRecDepth 100000 in
set_option maxHeartbeats 2000000 in
theorem markS (s : St) (lo hi : Nat) (hf : StFit s) (w : World) (hz : hi ≤ w.heap.size) (h : StLie w lo hi s) :
    Calls Try.prog 8 #[.agg #[.slice s.e.b.va s.e.b.vs.length s.e.b.vc, .slice s.e.b.pa s.e.b.ps.length s.e.b.pc, .slice s.e.b.qa s.e.b.qs.length s.e.b.qc, .int .i64 s.e.b.cs, .int .i64 s.e.b.nx, .slice s.e.oa s.e.os.length s.e.oc, .slice s.d.sa s.d.ss.length s.d.sc, .slice s.d.pa s.d.ps.length s.d.pc], .int .i64 1] w fun ex w' => ∃ (q : Nat) (m : St), ex = .returned (.int .i64 (q : Int)) ∧ StLie w' lo hi m ∧ Zn lo hi w w' ∧ (∀ W : World, StRows W m → Calls Try.prog 9 #[.agg #[.slice s.e.b.va s.e.b.vs.length s.e.b.vc, .slice s.e.b.pa s.e.b.ps.length s.e.b.pc, .slice s.e.b.qa s.e.b.qs.length s.e.b.qc, .int .i64 s.e.b.cs, .int .i64 s.e.b.nx, .slice s.e.oa s.e.os.length s.e.oc, .slice s.d.sa s.d.ss.length s.d.sc, .slice s.d.pa s.d.ps.length s.d.pc], .int .i64 1] W fun ex w' => ex = .returned (.int .i64 (q : Int)) ∧ Below W.heap.size W w') := by
  have BA0 : Hid (Bx (w.alloc (.cells #[.slice s.e.b.va s.e.b.vs.length s.e.b.vc, .slice s.e.b.pa s.e.b.ps.length s.e.b.pc, .slice s.e.b.qa s.e.b.qs.length s.e.b.qc, .int .i64 s.e.b.cs, .int .i64 s.e.b.nx, .slice s.e.oa s.e.os.length s.e.oc, .slice s.d.sa s.d.ss.length s.d.sc, .slice s.d.pa s.d.ps.length s.d.pc] 33)) w.heap.size [.slice s.e.b.va s.e.b.vs.length s.e.b.vc, .slice s.e.b.pa s.e.b.ps.length s.e.b.pc, .slice s.e.b.qa s.e.b.qs.length s.e.b.qc, .int .i64 s.e.b.cs, .int .i64 s.e.b.nx, .slice s.e.oa s.e.os.length s.e.oc, .slice s.d.sa s.d.ss.length s.d.sc, .slice s.d.pa s.d.ps.length s.d.pc]) := Bx.new w [.slice s.e.b.va s.e.b.vs.length s.e.b.vc, .slice s.e.b.pa s.e.b.ps.length s.e.b.pc, .slice s.e.b.qa s.e.b.qs.length s.e.b.qc, .int .i64 s.e.b.cs, .int .i64 s.e.b.nx, .slice s.e.oa s.e.os.length s.e.oc, .slice s.d.sa s.d.ss.length s.d.sc, .slice s.d.pa s.d.ps.length s.d.pc] 33
  have hb0 : Below w.heap.size w (w.alloc (.cells #[.slice s.e.b.va s.e.b.vs.length s.e.b.vc, .slice s.e.b.pa s.e.b.ps.length s.e.b.pc, .slice s.e.b.qa s.e.b.qs.length s.e.b.qc, .int .i64 s.e.b.cs, .int .i64 s.e.b.nx, .slice s.e.oa s.e.os.length s.e.oc, .slice s.d.sa s.d.ss.length s.d.sc, .slice s.d.pa s.d.ps.length s.d.pc] 33)) := (belowRefl w).alloc (Nat.le_refl _) _
  have ZW0 : Hid (Zn lo hi w (w.alloc (.cells #[.slice s.e.b.va s.e.b.vs.length s.e.b.vc, .slice s.e.b.pa s.e.b.ps.length s.e.b.pc, .slice s.e.b.qa s.e.b.qs.length s.e.b.qc, .int .i64 s.e.b.cs, .int .i64 s.e.b.nx, .slice s.e.oa s.e.os.length s.e.oc, .slice s.d.sa s.d.ss.length s.d.sc, .slice s.d.pa s.d.ps.length s.d.pc] 33))) := Zn.ofBelow lo hi hb0
  obtain ⟨m, k1, k2, hB, hO⟩ := h.ex
  have RB0 : Hid (EnLie (w.alloc (.cells #[.slice s.e.b.va s.e.b.vs.length s.e.b.vc, .slice s.e.b.pa s.e.b.ps.length s.e.b.pc, .slice s.e.b.qa s.e.b.qs.length s.e.b.qc, .int .i64 s.e.b.cs, .int .i64 s.e.b.nx, .slice s.e.oa s.e.os.length s.e.oc, .slice s.d.sa s.d.ss.length s.d.sc, .slice s.d.pa s.d.ps.length s.d.pc] 33)) lo m s.e) := hB.below hb0
  have RO0 : Hid (DLie (w.alloc (.cells #[.slice s.e.b.va s.e.b.vs.length s.e.b.vc, .slice s.e.b.pa s.e.b.ps.length s.e.b.pc, .slice s.e.b.qa s.e.b.qs.length s.e.b.qc, .int .i64 s.e.b.cs, .int .i64 s.e.b.nx, .slice s.e.oa s.e.os.length s.e.oc, .slice s.d.sa s.d.ss.length s.d.sc, .slice s.d.pa s.d.ps.length s.d.pc] 33)) m hi s.d) := hO.below hb0
  have S0 : Hid (hi ≤ (w.alloc (.cells #[.slice s.e.b.va s.e.b.vs.length s.e.b.vc, .slice s.e.b.pa s.e.b.ps.length s.e.b.pc, .slice s.e.b.qa s.e.b.qs.length s.e.b.qc, .int .i64 s.e.b.cs, .int .i64 s.e.b.nx, .slice s.e.oa s.e.os.length s.e.oc, .slice s.d.sa s.d.ss.length s.d.sc, .slice s.d.pa s.d.ps.length s.d.pc] 33)).heap.size) := Nat.le_trans hz hb0.size
  have HF : Hid (StFit s) := hf
  clear h hB hO hb0 hf
  go_enter Try.func8, Try.ntmps8
  go_upto_region 1 with fail
  generalize (w.alloc (.cells #[.slice s.e.b.va s.e.b.vs.length s.e.b.vc, .slice s.e.b.pa s.e.b.ps.length s.e.b.pc, .slice s.e.b.qa s.e.b.qs.length s.e.b.qc, .int .i64 s.e.b.cs, .int .i64 s.e.b.nx, .slice s.e.oa s.e.os.length s.e.oc, .slice s.d.sa s.d.ss.length s.d.sc, .slice s.d.pa s.d.ps.length s.d.pc] 33)) = w0 at *
  have x0 := BA0.out.c0
  have x1 := BA0.out.c1
  have x2 := BA0.out.c2
  have x3 := BA0.out.c3
  have x4 := BA0.out.c4
  have x5 := BA0.out.c5
  go_wp2_with fail
  refine (markE s.e lo m HF.out.e _ (Nat.le_trans k2 S0.out) RB0.out).mono ?_
  rintro ex w1 ⟨q1, me, rfl, hq1, hmb, hz1, hh⟩
  have BA1 : Hid (Bx w1 w.heap.size [.slice s.e.b.va s.e.b.vs.length s.e.b.vc, .slice s.e.b.pa s.e.b.ps.length s.e.b.pc, .slice s.e.b.qa s.e.b.qs.length s.e.b.qc, .int .i64 s.e.b.cs, .int .i64 s.e.b.nx, .slice s.e.oa s.e.os.length s.e.oc, .slice s.d.sa s.d.ss.length s.d.sc, .slice s.d.pa s.d.ps.length s.d.pc]) := BA0.out.zn hz1 (by omega)
  have RB1 : Hid (EnLie w1 lo m me) := hmb
  have RO1 : Hid (DLie w1 m hi s.d) := RO0.out.zn hz1 (by omega)
  have ZW1 : Hid (Zn lo hi w w1) := ZW0.out.trans (hz1.mono (Nat.le_refl _) k2)
  have HH := hide hh
  have HQ1 := hide hq1
  clear hmb hz1 hh hq1 BA0 RB0 RO0 ZW0
  clear x0 x1 x2 x3 x4 x5
  have x6 := BA1.out.c6
  have x7 := BA1.out.c7
  obtain ⟨q, hq⟩ : ∃ q, q = q1 + s.d.ss.length + 2 * s.d.ps.length := ⟨_, rfl⟩
  have CL : Hid (Calls Try.prog 24 #[.agg #[.slice s.d.sa s.d.ss.length s.d.sc, .slice s.d.pa s.d.ps.length s.d.pc], .int .i64 (q1 : Int)] w1 fun ex w' => ex = .returned (.int .i64 (q : Int)) ∧ DLie w' m hi ⟨marks q1 s.d.ss.length, pmarks (q1 + s.d.ss.length) s.d.ps.length, s.d.sa, s.d.sc, s.d.pa, s.d.pc⟩ ∧ Zn m hi w1 w') := by
    have k := mark41 s.d.ss.length s.d.ps.length q1 s.d.sa s.d.pa s.d.sc s.d.pc m _ _ (Nat.le_trans HF.out.d.1 (by omega)) (Nat.le_trans HF.out.d.2.1 (by omega)) HQ1.out.1 HQ1.out.2 w1 RO1.out.s RO1.out.p
    rw [← hq] at k
    refine k.mono ?_
    rintro ex w' ⟨he, hs', hp', hk⟩
    refine ⟨he, ⟨?_, ?_, ?_, ?_⟩, hk.os, hk.tape, hk.output, hk.size, fun g hg hn => hk.block g hg (fun e => ?_) (fun e => ?_)⟩
    · show SOwn w' m (.slice s.d.sa (marks q1 s.d.ss.length).length s.d.sc) _; rw [marks_len]; exact hs'
    · show POwn w' m (.slice s.d.pa (pmarks (q1 + s.d.ss.length) s.d.ps.length).length s.d.pc) _; rw [pmarks_len]; exact hp'
    · intro g hg; rw [marks_len] at hg; exact RO1.out.su g hg
    · intro g hg; rw [pmarks_len] at hg; exact RO1.out.pu g hg
    · have := RO1.out.su g e.symm; have := own_lo RO1.out.s g e.symm; omega
    · have := RO1.out.pu g e.symm; have := own_lo RO1.out.p g e.symm; omega
  have HQ := hide hq
  clear hq
  go_wp2_with fail
  refine CL.out.mono ?_
  rintro ex w2 ⟨rfl, hml, hz2⟩
  have RB2 : Hid (EnLie w2 lo m me) := RB1.out.zn hz2 (by omega)
  have ZW2 : Hid (Zn lo hi w w2) := ZW1.out.trans (hz2.mono k1 (Nat.le_refl _))
  have RO2 : Hid (DLie w2 m hi ⟨marks q1 s.d.ss.length, pmarks (q1 + s.d.ss.length) s.d.ps.length, s.d.sa, s.d.sc, s.d.pa, s.d.pc⟩) := hml
  clear hml hz2 BA1 RB1 RO1 ZW1 x6 x7 CL
  go_wp2
  go_ret
  exact ⟨q, ⟨me, ⟨marks q1 s.d.ss.length, pmarks (q1 + s.d.ss.length) s.d.ps.length, s.d.sa, s.d.sc, s.d.pa, s.d.pc⟩⟩, rfl, ⟨m, k1, k2, RB2.out, RO2.out⟩, ZW2.out, fun W hW => heldS s HF.out me q1 q HQ1.out HQ.out HH.out W hW⟩

end Go.Proofs.Ytmaipaeehalabaa

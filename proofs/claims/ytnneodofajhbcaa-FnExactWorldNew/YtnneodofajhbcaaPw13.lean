/- Marks of stores. -/
import Derived.Test.YtnneodofajhbcaaPw10
import Derived.Test.YtnneodofajhbcaaPw12
import Derived.Deep.RegionHeld3
import Derived.Deep.Cut
import Derived.Deep.CutRange
import Derived.Test.YtnneodofajhbcaaPw02
import Derived.Test.YtnneodofajhbcaaPw03
import Derived.Test.YtnneodofajhbcaaProg
import Derived.WalkKit
import Derived.Test.YtnneodofajhbcaaPw01
import Derived.WalkSpells
import Derived.WalkLawsBesides
import Derived.Deep.QuietTactic
import Derived.BigQuiet
import Derived.Deep.DrawnRows
import Derived.Deep.AppendLies
import Derived.Test.YtnneodofajhbcaaPw06
import Derived.Deep.RegionLaw
namespace Go.Proofs.Ytnneodofajhbcaa
open Go.RowKit
open KM
attribute [local go_sem ↓] Go.wp_at_zero Go.wp_at_succ

set_option maxRecDepth 100000 in
set_option maxHeartbeats 2000000 in
theorem heldS (s : St) (hf : StFit s) (me : En) (q1 q : Nat) (hq1 : 0 < q1 ∧ q1 ≤ 100000000000000000) (hq : q = q1 + s.d.ss.length + 2 * s.d.ps.length) (hh : ∀ W : World, EnRows W me → Calls Try.prog 44 #[.agg #[.slice s.e.b.va s.e.b.vs.length s.e.b.vc, .slice s.e.b.pa s.e.b.ps.length s.e.b.pc, .slice s.e.b.qa s.e.b.qs.length s.e.b.qc, .int .i64 s.e.b.cs, .int .i64 s.e.b.nx, .slice s.e.oa s.e.os.length s.e.oc], .int .i64 1] W fun ex w' => ex = .returned (.int .i64 (q1 : Int)) ∧ Below W.heap.size W w') (w : World) (hp : StRows w ⟨me, ⟨marks q1 s.d.ss.length, pmarks (q1 + s.d.ss.length) s.d.ps.length, s.d.sa, s.d.sc, s.d.pa, s.d.pc⟩⟩) :
    Calls Try.prog 28 #[.agg #[.slice s.e.b.va s.e.b.vs.length s.e.b.vc, .slice s.e.b.pa s.e.b.ps.length s.e.b.pc, .slice s.e.b.qa s.e.b.qs.length s.e.b.qc, .int .i64 s.e.b.cs, .int .i64 s.e.b.nx, .slice s.e.oa s.e.os.length s.e.oc, .slice s.d.sa s.d.ss.length s.d.sc, .slice s.d.pa s.d.ps.length s.d.pc], .int .i64 1] w fun ex w' => ex = .returned (.int .i64 (q : Int)) ∧ Below w.heap.size w w' := by
  have BA0 : Hid (Bx (w.alloc (.cells #[.slice s.e.b.va s.e.b.vs.length s.e.b.vc, .slice s.e.b.pa s.e.b.ps.length s.e.b.pc, .slice s.e.b.qa s.e.b.qs.length s.e.b.qc, .int .i64 s.e.b.cs, .int .i64 s.e.b.nx, .slice s.e.oa s.e.os.length s.e.oc, .slice s.d.sa s.d.ss.length s.d.sc, .slice s.d.pa s.d.ps.length s.d.pc] 42)) w.heap.size [.slice s.e.b.va s.e.b.vs.length s.e.b.vc, .slice s.e.b.pa s.e.b.ps.length s.e.b.pc, .slice s.e.b.qa s.e.b.qs.length s.e.b.qc, .int .i64 s.e.b.cs, .int .i64 s.e.b.nx, .slice s.e.oa s.e.os.length s.e.oc, .slice s.d.sa s.d.ss.length s.d.sc, .slice s.d.pa s.d.ps.length s.d.pc]) := Bx.new w [.slice s.e.b.va s.e.b.vs.length s.e.b.vc, .slice s.e.b.pa s.e.b.ps.length s.e.b.pc, .slice s.e.b.qa s.e.b.qs.length s.e.b.qc, .int .i64 s.e.b.cs, .int .i64 s.e.b.nx, .slice s.e.oa s.e.os.length s.e.oc, .slice s.d.sa s.d.ss.length s.d.sc, .slice s.d.pa s.d.ps.length s.d.pc] 42
  have HB0 : Hid (Below w.heap.size w (w.alloc (.cells #[.slice s.e.b.va s.e.b.vs.length s.e.b.vc, .slice s.e.b.pa s.e.b.ps.length s.e.b.pc, .slice s.e.b.qa s.e.b.qs.length s.e.b.qc, .int .i64 s.e.b.cs, .int .i64 s.e.b.nx, .slice s.e.oa s.e.os.length s.e.oc, .slice s.d.sa s.d.ss.length s.d.sc, .slice s.d.pa s.d.ps.length s.d.pc] 42))) := (belowRefl w).alloc (Nat.le_refl _) _
  have HP : Hid (StRows w ⟨me, ⟨marks q1 s.d.ss.length, pmarks (q1 + s.d.ss.length) s.d.ps.length, s.d.sa, s.d.sc, s.d.pa, s.d.pc⟩⟩) := hp
  have C1 : Hid (∀ W : World, Below w.heap.size w W → Calls Try.prog 44 #[.agg #[.slice s.e.b.va s.e.b.vs.length s.e.b.vc, .slice s.e.b.pa s.e.b.ps.length s.e.b.pc, .slice s.e.b.qa s.e.b.qs.length s.e.b.qc, .int .i64 s.e.b.cs, .int .i64 s.e.b.nx, .slice s.e.oa s.e.os.length s.e.oc], .int .i64 1] W fun ex w' => ex = .returned (.int .i64 (q1 : Int)) ∧ Below W.heap.size W w') := fun W h => hh W (HP.out.below h).e
  have C2 : Hid (∀ W : World, Below w.heap.size w W → Calls Try.prog 45 #[.agg #[.slice s.d.sa s.d.ss.length s.d.sc, .slice s.d.pa s.d.ps.length s.d.pc], .int .i64 (q1 : Int)] W fun ex w' => ex = .returned (.int .i64 (q : Int)) ∧ Below W.heap.size W w') := fun W h => by
    have k := held42 s.d.ss.length s.d.ps.length q1 s.d.sa s.d.pa s.d.sc s.d.pc (Nat.le_trans hf.d.1 (by omega)) (Nat.le_trans hf.d.2.1 (by omega)) hq1.1 hq1.2 W (HP.out.below h).d.s (HP.out.below h).d.p
    rw [← hq] at k
    exact k
  have hn1 : ¬ (q1 : Int) < 0 := by omega
  have hn2 : ¬ (q : Int) < 0 := by omega
  clear hp hf hh hq HP hq1
  go_enter Try.func28, Try.ntmps28
  have x0 := BA0.out.c0
  have x1 := BA0.out.c1
  have x2 := BA0.out.c2
  have x3 := BA0.out.c3
  have x4 := BA0.out.c4
  have x5 := BA0.out.c5
  go_wp2_with fail
  refine (C1.out _ HB0.out).mono ?_
  rintro ex w1 ⟨rfl, hb⟩
  have HB1 : Hid (Below w.heap.size w w1) := HB0.out.trans (hb.mono HB0.out.size)
  have BA1 : Hid (Bx w1 w.heap.size [.slice s.e.b.va s.e.b.vs.length s.e.b.vc, .slice s.e.b.pa s.e.b.ps.length s.e.b.pc, .slice s.e.b.qa s.e.b.qs.length s.e.b.qc, .int .i64 s.e.b.cs, .int .i64 s.e.b.nx, .slice s.e.oa s.e.os.length s.e.oc, .slice s.d.sa s.d.ss.length s.d.sc, .slice s.d.pa s.d.ps.length s.d.pc]) := BA0.out.below hb
  clear hb HB0 BA0
  clear x0 x1 x2 x3 x4 x5
  have x6 := BA1.out.c6
  have x7 := BA1.out.c7
  go_wp2_with fail
  refine (C2.out _ HB1.out).mono ?_
  rintro ex w2 ⟨rfl, hb⟩
  have HB2 : Hid (Below w.heap.size w w2) := HB1.out.trans (hb.mono HB1.out.size)
  clear hb HB1 BA1 x6 x7
  go_wp2
  go_ret
  exact ⟨rfl, HB2.out⟩

set_option maxRecDepth 100000 in
set_option maxHeartbeats 2000000 in
theorem markS (s : St) (lo hi : Nat) (hf : StFit s) (w : World) (hz : hi ≤ w.heap.size) (h : StLie w lo hi s) :
    Calls Try.prog 24 #[.agg #[.slice s.e.b.va s.e.b.vs.length s.e.b.vc, .slice s.e.b.pa s.e.b.ps.length s.e.b.pc, .slice s.e.b.qa s.e.b.qs.length s.e.b.qc, .int .i64 s.e.b.cs, .int .i64 s.e.b.nx, .slice s.e.oa s.e.os.length s.e.oc, .slice s.d.sa s.d.ss.length s.d.sc, .slice s.d.pa s.d.ps.length s.d.pc], .int .i64 1] w fun ex w' => ∃ (q : Nat) (m : St), ex = .returned (.int .i64 (q : Int)) ∧ StLie w' lo hi m ∧ Zn lo hi w w' ∧ (∀ W : World, StRows W m → Calls Try.prog 28 #[.agg #[.slice s.e.b.va s.e.b.vs.length s.e.b.vc, .slice s.e.b.pa s.e.b.ps.length s.e.b.pc, .slice s.e.b.qa s.e.b.qs.length s.e.b.qc, .int .i64 s.e.b.cs, .int .i64 s.e.b.nx, .slice s.e.oa s.e.os.length s.e.oc, .slice s.d.sa s.d.ss.length s.d.sc, .slice s.d.pa s.d.ps.length s.d.pc], .int .i64 1] W fun ex w' => ex = .returned (.int .i64 (q : Int)) ∧ Below W.heap.size W w') := by
  have BA0 : Hid (Bx (w.alloc (.cells #[.slice s.e.b.va s.e.b.vs.length s.e.b.vc, .slice s.e.b.pa s.e.b.ps.length s.e.b.pc, .slice s.e.b.qa s.e.b.qs.length s.e.b.qc, .int .i64 s.e.b.cs, .int .i64 s.e.b.nx, .slice s.e.oa s.e.os.length s.e.oc, .slice s.d.sa s.d.ss.length s.d.sc, .slice s.d.pa s.d.ps.length s.d.pc] 42)) w.heap.size [.slice s.e.b.va s.e.b.vs.length s.e.b.vc, .slice s.e.b.pa s.e.b.ps.length s.e.b.pc, .slice s.e.b.qa s.e.b.qs.length s.e.b.qc, .int .i64 s.e.b.cs, .int .i64 s.e.b.nx, .slice s.e.oa s.e.os.length s.e.oc, .slice s.d.sa s.d.ss.length s.d.sc, .slice s.d.pa s.d.ps.length s.d.pc]) := Bx.new w [.slice s.e.b.va s.e.b.vs.length s.e.b.vc, .slice s.e.b.pa s.e.b.ps.length s.e.b.pc, .slice s.e.b.qa s.e.b.qs.length s.e.b.qc, .int .i64 s.e.b.cs, .int .i64 s.e.b.nx, .slice s.e.oa s.e.os.length s.e.oc, .slice s.d.sa s.d.ss.length s.d.sc, .slice s.d.pa s.d.ps.length s.d.pc] 42
  have hb0 : Below w.heap.size w (w.alloc (.cells #[.slice s.e.b.va s.e.b.vs.length s.e.b.vc, .slice s.e.b.pa s.e.b.ps.length s.e.b.pc, .slice s.e.b.qa s.e.b.qs.length s.e.b.qc, .int .i64 s.e.b.cs, .int .i64 s.e.b.nx, .slice s.e.oa s.e.os.length s.e.oc, .slice s.d.sa s.d.ss.length s.d.sc, .slice s.d.pa s.d.ps.length s.d.pc] 42)) := (belowRefl w).alloc (Nat.le_refl _) _
  have ZW0 : Hid (Zn lo hi w (w.alloc (.cells #[.slice s.e.b.va s.e.b.vs.length s.e.b.vc, .slice s.e.b.pa s.e.b.ps.length s.e.b.pc, .slice s.e.b.qa s.e.b.qs.length s.e.b.qc, .int .i64 s.e.b.cs, .int .i64 s.e.b.nx, .slice s.e.oa s.e.os.length s.e.oc, .slice s.d.sa s.d.ss.length s.d.sc, .slice s.d.pa s.d.ps.length s.d.pc] 42))) := Zn.ofBelow lo hi hb0
  obtain ⟨m, k1, k2, hB, hO⟩ := h.ex
  have RB0 : Hid (EnLie (w.alloc (.cells #[.slice s.e.b.va s.e.b.vs.length s.e.b.vc, .slice s.e.b.pa s.e.b.ps.length s.e.b.pc, .slice s.e.b.qa s.e.b.qs.length s.e.b.qc, .int .i64 s.e.b.cs, .int .i64 s.e.b.nx, .slice s.e.oa s.e.os.length s.e.oc, .slice s.d.sa s.d.ss.length s.d.sc, .slice s.d.pa s.d.ps.length s.d.pc] 42)) lo m s.e) := hB.below hb0
  have RO0 : Hid (DLie (w.alloc (.cells #[.slice s.e.b.va s.e.b.vs.length s.e.b.vc, .slice s.e.b.pa s.e.b.ps.length s.e.b.pc, .slice s.e.b.qa s.e.b.qs.length s.e.b.qc, .int .i64 s.e.b.cs, .int .i64 s.e.b.nx, .slice s.e.oa s.e.os.length s.e.oc, .slice s.d.sa s.d.ss.length s.d.sc, .slice s.d.pa s.d.ps.length s.d.pc] 42)) m hi s.d) := hO.below hb0
  have S0 : Hid (hi ≤ (w.alloc (.cells #[.slice s.e.b.va s.e.b.vs.length s.e.b.vc, .slice s.e.b.pa s.e.b.ps.length s.e.b.pc, .slice s.e.b.qa s.e.b.qs.length s.e.b.qc, .int .i64 s.e.b.cs, .int .i64 s.e.b.nx, .slice s.e.oa s.e.os.length s.e.oc, .slice s.d.sa s.d.ss.length s.d.sc, .slice s.d.pa s.d.ps.length s.d.pc] 42)).heap.size) := Nat.le_trans hz hb0.size
  have HF : Hid (StFit s) := hf
  clear h hB hO hb0 hf
  go_enter Try.func24, Try.ntmps24
  go_upto_region 1 with fail
  generalize (w.alloc (.cells #[.slice s.e.b.va s.e.b.vs.length s.e.b.vc, .slice s.e.b.pa s.e.b.ps.length s.e.b.pc, .slice s.e.b.qa s.e.b.qs.length s.e.b.qc, .int .i64 s.e.b.cs, .int .i64 s.e.b.nx, .slice s.e.oa s.e.os.length s.e.oc, .slice s.d.sa s.d.ss.length s.d.sc, .slice s.d.pa s.d.ps.length s.d.pc] 42)) = w0 at *
  have x0 := BA0.out.c0
  have x1 := BA0.out.c1
  have x2 := BA0.out.c2
  have x3 := BA0.out.c3
  have x4 := BA0.out.c4
  have x5 := BA0.out.c5
  go_wp2_with fail
  refine (markE s.e lo m HF.out.e _ (Nat.le_trans k2 S0.out) RB0.out).mono ?_
  rintro ex w1 ⟨q1, me, rfl, hq1, hmb, hz1, hh⟩
  have BA1 : Hid (Bx w1 w.heap.size [.slice s.e.b.va s.e.b.vs.length s.e.b.vc, .slice s.e.b.pa s.e.b.ps.length s.e.b.pc, .slice s.e.b.qa s.e.b.qs.length s.e.b.qc, .int .i64 s.e.b.cs, .int .i64 s.e.b.nx, .slice s.e.oa s.e.os.length s.e.oc, .slice s.d.sa s.d.ss.length s.d.sc, .slice s.d.pa s.d.ps.length s.d.pc]) := BA0.out.zn hz1 (by omega)
  have RB1 : Hid (EnLie w1 lo m me) := hmb
  have RO1 : Hid (DLie w1 m hi s.d) := RO0.out.zn hz1 (by omega)
  have ZW1 : Hid (Zn lo hi w w1) := ZW0.out.trans (hz1.mono (Nat.le_refl _) k2)
  have HH := hide hh
  have HQ1 := hide hq1
  clear hmb hz1 hh hq1 BA0 RB0 RO0 ZW0
  clear x0 x1 x2 x3 x4 x5
  have x6 := BA1.out.c6
  have x7 := BA1.out.c7
  obtain ⟨q, hq⟩ : ∃ q, q = q1 + s.d.ss.length + 2 * s.d.ps.length := ⟨_, rfl⟩
  have CL : Hid (Calls Try.prog 40 #[.agg #[.slice s.d.sa s.d.ss.length s.d.sc, .slice s.d.pa s.d.ps.length s.d.pc], .int .i64 (q1 : Int)] w1 fun ex w' => ex = .returned (.int .i64 (q : Int)) ∧ DLie w' m hi ⟨marks q1 s.d.ss.length, pmarks (q1 + s.d.ss.length) s.d.ps.length, s.d.sa, s.d.sc, s.d.pa, s.d.pc⟩ ∧ Zn m hi w1 w') := by
    have k := mark41 s.d.ss.length s.d.ps.length q1 s.d.sa s.d.pa s.d.sc s.d.pc m _ _ (Nat.le_trans HF.out.d.1 (by omega)) (Nat.le_trans HF.out.d.2.1 (by omega)) HQ1.out.1 HQ1.out.2 w1 RO1.out.s RO1.out.p
    rw [← hq] at k
    refine k.mono ?_
    rintro ex w' ⟨he, hs', hp', hk⟩
    refine ⟨he, ⟨?_, ?_, ?_, ?_⟩, hk.os, hk.tape, hk.output, hk.size, fun g hg hn => hk.block g hg (fun e => ?_) (fun e => ?_)⟩
    · show SOwn w' m (.slice s.d.sa (marks q1 s.d.ss.length).length s.d.sc) _; rw [marks_len]; exact hs'
    · show POwn w' m (.slice s.d.pa (pmarks (q1 + s.d.ss.length) s.d.ps.length).length s.d.pc) _; rw [pmarks_len]; exact hp'
    · intro g hg; rw [marks_len] at hg; exact RO1.out.su g hg
    · intro g hg; rw [pmarks_len] at hg; exact RO1.out.pu g hg
    · have := RO1.out.su g e.symm; have := own_lo RO1.out.s g e.symm; omega
    · have := RO1.out.pu g e.symm; have := own_lo RO1.out.p g e.symm; omega
  have HQ := hide hq
  clear hq
  go_wp2_with fail
  refine CL.out.mono ?_
  rintro ex w2 ⟨rfl, hml, hz2⟩
  have RB2 : Hid (EnLie w2 lo m me) := RB1.out.zn hz2 (by omega)
  have ZW2 : Hid (Zn lo hi w w2) := ZW1.out.trans (hz2.mono k1 (Nat.le_refl _))
  have RO2 : Hid (DLie w2 m hi ⟨marks q1 s.d.ss.length, pmarks (q1 + s.d.ss.length) s.d.ps.length, s.d.sa, s.d.sc, s.d.pa, s.d.pc⟩) := hml
  clear hml hz2 BA1 RB1 RO1 ZW1 x6 x7 CL
  go_wp2
  go_ret
  exact ⟨q, ⟨me, ⟨marks q1 s.d.ss.length, pmarks (q1 + s.d.ss.length) s.d.ps.length, s.d.sa, s.d.sc, s.d.pa, s.d.pc⟩⟩, rfl, ⟨m, k1, k2, RB2.out, RO2.out⟩, ZW2.out, fun W hW => heldS s HF.out me q1 q HQ1.out HQ.out HH.out W hW⟩

end Go.Proofs.Ytnneodofajhbcaa

namespace Go.Proofs.Ytnneodofajhbcaa
open Go.RowKit
open KM
attribute [local go_sem ↓] Go.wp_at_zero Go.wp_at_succ

def LFw (ts : List Tx) : Prop := True ∧ ∀ t ∈ ts, TFit t
theorem LFit.w {ts : List Tx} (h : LFit ts) : LFw ts := ⟨trivial, h.2⟩
end Go.Proofs.Ytnneodofajhbcaa

namespace Go.Proofs.Ytnneodofajhbcaa
open Go.RowKit
open KM
attribute [local go_sem ↓] Go.wp_at_zero Go.wp_at_succ

set_option maxRecDepth 100000 in
set_option maxHeartbeats 2000000 in
theorem bnew28 (w : World) : Calls Try.prog 48 #[] w fun e w' => e = .returned (.agg #[.slice none 0 0, .slice none 0 0, .slice none 0 0, .int .i64 0, .int .i64 1]) ∧ Below w.heap.size w w' := by
  go_enter Try.func48, Try.ntmps48
  go_wp2
  refine bodyPost_ret (v := .agg #[.slice none 0 0, .slice none 0 0, .slice none 0 0, .int .i64 0, .int .i64 1]) (by simp [results, Try.results48, go_sem]) rfl ⟨rfl, ?_⟩
  exact (belowRefl w).alloc (Nat.le_refl _) _

set_option maxRecDepth 100000 in
set_option maxHeartbeats 2000000 in
theorem bnew29 (w : World) : Calls Try.prog 51 #[] w fun e w' => e = .returned (.agg #[.slice none 0 0, .slice none 0 0, .slice none 0 0, .int .i64 0, .int .i64 1]) ∧ Below w.heap.size w w' := by
  go_enter Try.func51, Try.ntmps51
  go_wp2
  refine bodyPost_ret (v := .agg #[.slice none 0 0, .slice none 0 0, .slice none 0 0, .int .i64 0, .int .i64 1]) (by simp [results, Try.results51, go_sem]) rfl ⟨rfl, ?_⟩
  exact (belowRefl w).alloc (Nat.le_refl _) _

def noBb : Bb := ⟨[], [], [], 0, 1, none, 0, none, 0, none, 0⟩
end Go.Proofs.Ytnneodofajhbcaa

namespace Go.Proofs.Ytnneodofajhbcaa
open Go.RowKit
open DM
attribute [local go_sem ↓] Go.wp_at_zero Go.wp_at_succ

theorem stepAppH {ops : Array Oper} {o : Oper} {a : Act} {K : Act → World → Prop} {Q : Exit → Act → World → Prop} {E : Prop} (T e size bytes : Nat) (z : Value) (hT : Try.prog.underlying T = some (.slice e))
    (hinfo : (Try.prog.info? e).map (fun i => (i.zero, i.size, i.bytes)) = some (some z, size, bytes)) (hzs : z.cells.size = size) (hsz : 0 < size) (hby : bytes ≤ 64)
    (hgd : o.guard = none) (s x : Operand) (ho : o.op = .call { callee := .builtin .append, args := #[s, x], argTypes := #[T, T] })
    {W : World} {base g n : Nat} {v : Value} {xs : List Value} (news : List Value)
    (hs : a.eval s = v) (hown : W.ownsRow base e size v n xs) (hx : a.eval x = .slice (some ⟨g, 0, none⟩) 1 1) (hblk : W.heap[g]? = some (.cells news.toArray e (0, 0)))
    (hl : news.length = size) (h1 : ∀ u ∈ news, u.oneCell' = true) (hlen : n ≤ 100000000) (hB : base ≤ W.heap.size)
    (h : ∀ g' cap w', w'.ownsRow base e size (.slice (some ⟨g', 0, none⟩) (n + 1) cap) (n + 1) (xs ++ news) → Below base W w' → W.grownBy w' v.ownBlock → K (a.put o.dst (.slice (some ⟨g', 0, none⟩) (n + 1) cap)) w') :
    if Region.wanted o (yielded ops a.tmps) = true then Oper.wp Try.prog o a W K Q else E := by
  obtain ⟨i0, hi, hz0, hz1, hz2⟩ := info_parts hinfo
  refine step_append_lies _ hgd s x T ho base e i0 z size bytes hT hi hz0 hz1 hz2 hzs hsz v n xs hs hown ⟨g, 0, none⟩ 1 1 news hx (by omega) ?_ h1 (by omega) (by unfold maxLen; omega) ?_ hB _ rfl ?_
  · intro j u hj
    rw [Addr.add_lit, Nat.zero_add, World.cell?, hblk]
    simpa using hj
  · calc (n + 1) * bytes ≤ 100000001 * 64 := Nat.mul_le_mul (by omega) hby
      _ ≤ _ := by omega
  · intro g' cap w' h1 h2 _ _
    exact h g' cap w' h1 ((Below.refl _ _).grown h2 hB (fun j hj => (World.ownsRow.lt hown j hj).1)) h2
structure Bd (w : World) (b : Nat) (x y : Value) : Prop where
  c0 : w.cell? ⟨b, 0, none⟩ = some x
  c1 : w.cell? ⟨b, 1, none⟩ = some y
  fz : ∀ j, w.frozen? ⟨b, j, none⟩ = false
  lt : b < w.heap.size
theorem Bd.keep {w w' : World} {b B : Nat} {x y : Value} (h : Bd w b x y) (hb : Below B w w') (hB : b < B) : Bd w' b x y :=
  ⟨(hb.cell (p := ⟨b, 0, none⟩) hB).trans h.c0, (hb.cell (p := ⟨b, 1, none⟩) hB).trans h.c1, fun j => (hb.frozen (p := ⟨b, j, none⟩) hB).trans (h.fz j), Nat.lt_of_lt_of_le h.lt hb.size⟩
theorem Bd.set0 {w : World} {b : Nat} {x y : Value} (h : Bd w b x y) (u : Value) : Bd (w.setCell ⟨b, 0, none⟩ u) b u y :=
  ⟨World.cell?_setCell_same _ _ _ h.c0, (World.cell?_setCell_other _ _ _ _ (fun e => by cases e)).trans h.c1, fun j => (World.frozen?_setCell _ _ _ _).trans (h.fz j), by simpa [World.setCell] using h.lt⟩
theorem Bd.set1 {w : World} {b : Nat} {x y : Value} (h : Bd w b x y) (u : Value) : Bd (w.setCell ⟨b, 1, none⟩ u) b x u :=
  ⟨(World.cell?_setCell_other _ _ _ _ (fun e => by cases e)).trans h.c0, World.cell?_setCell_same _ _ _ h.c1, fun j => (World.frozen?_setCell _ _ _ _).trans (h.fz j), by simpa [World.setCell] using h.lt⟩
theorem Bd.setO {w : World} {b : Nat} {x y : Value} (h : Bd w b x y) {a : Addr} (hne : a.block ≠ b) (u : Value) : Bd (w.setCell a u) b x y :=
  ⟨(World.cell?_setCell_other _ _ _ _ (fun e => hne (by rw [e]))).trans h.c0, (World.cell?_setCell_other _ _ _ _ (fun e => hne (by rw [e]))).trans h.c1, fun j => (World.frozen?_setCell _ _ _ _).trans (h.fz j), by simpa [World.setCell] using h.lt⟩
theorem Bd.new (w : World) (x y : Value) (t : TypeId) : Bd (w.alloc (.cells #[x, y] t)) w.heap.size x y :=
  ⟨by simp [go_sem], by simp [go_sem], fun j => by simp [go_sem], by simp⟩
theorem Bd.alloc {w : World} {b : Nat} {x y : Value} (h : Bd w b x y) (o : Obj) : Bd (w.alloc o) b x y := h.keep ((belowRefl w).alloc (Nat.le_refl _) o) h.lt
theorem Bd.drew {w : World} {b : Nat} {x y : Value} (h : Bd w b x y) : Bd w.drew b x y := ⟨h.c0, h.c1, h.fz, h.lt⟩

theorem take_succ_p (ps : List Wr) (k : Nat) (h : k < ps.length) : ps.take (k + 1) = ps.take k ++ [ps[k]] := by
  rw [List.take_succ_eq_append_getElem h]
theorem take_succ_b (ss : List ByteArray) (k : Nat) (h : k < ss.length) : ss.take (k + 1) = ss.take k ++ [ss[k]] := by
  rw [List.take_succ_eq_append_getElem h]

end Go.Proofs.Ytnneodofajhbcaa

namespace Go.Proofs.Ytnneodofajhbcaa
open Go.RowKit
open DM
attribute [local go_sem ↓] Go.wp_at_zero Go.wp_at_succ

theorem hblk_new {W : World} {g : Nat} {o : Obj} (hg : g = W.heap.size) : (W.alloc o).heap[g]? = some o := by subst hg; exact heap_alloc_new W o
theorem hblk_drew {W : World} {g : Nat} {o : Obj} (h : W.heap[g]? = some o) : W.drew.heap[g]? = some o := h

def CS (w : World) (x y : Value) (W : World) : Prop :=
  W.cell? ⟨w.heap.size, 0, none⟩ = some x ∧ W.cell? ⟨w.heap.size, 1, none⟩ = some y ∧ Below w.heap.size w W ∧ w.heap.size + 1 + 1 ≤ W.heap.size ∧ ∃ p q, Bd W (w.heap.size + 1) p q
theorem CS.b {w : World} {x y : Value} {W : World} (h : CS w x y W) : Below w.heap.size w W := h.2.2.1
theorem CS.alloc {w : World} {x y : Value} {W : World} (h : CS w x y W) (o : Obj) : CS w x y (W.alloc o) := by
  obtain ⟨h0, h1, h2, h3, p, q, h4⟩ := h
  have b : Below W.heap.size W (W.alloc o) := (belowRefl W).alloc (Nat.le_refl _) o
  exact ⟨(b.cell (p := ⟨w.heap.size, 0, none⟩) (by show w.heap.size < W.heap.size; omega)).trans h0, (b.cell (p := ⟨w.heap.size, 1, none⟩) (by show w.heap.size < W.heap.size; omega)).trans h1, h2.alloc h2.size o, by simp; omega, p, q, h4.alloc o⟩
theorem CS.set0 {w : World} {x y : Value} {W : World} (h : CS w x y W) (u : Value) : CS w x y (W.setCell ⟨w.heap.size + 1, 0, none⟩ u) := by
  obtain ⟨h0, h1, h2, h3, p, q, h4⟩ := h
  exact ⟨(World.cell?_setCell_other _ _ _ _ (fun e => by simp at e)).trans h0, (World.cell?_setCell_other _ _ _ _ (fun e => by simp at e)).trans h1, h2.setCell (by show _ ≤ _ + 1; omega) u, by simpa [World.setCell] using h3, u, q, h4.set0 u⟩
theorem CS.set1 {w : World} {x y : Value} {W : World} (h : CS w x y W) (u : Value) : CS w x y (W.setCell ⟨w.heap.size + 1, 1, none⟩ u) := by
  obtain ⟨h0, h1, h2, h3, p, q, h4⟩ := h
  exact ⟨(World.cell?_setCell_other _ _ _ _ (fun e => by simp at e)).trans h0, (World.cell?_setCell_other _ _ _ _ (fun e => by simp at e)).trans h1, h2.setCell (by show _ ≤ _ + 1; omega) u, by simpa [World.setCell] using h3, p, u, h4.set1 u⟩
theorem CS.set {w : World} {x y : Value} {W : World} (h : CS w x y W) (u v : Value) : CS w x y ((W.setCell ⟨w.heap.size + 1, 0, none⟩ u).setCell ⟨w.heap.size + 1, 1, none⟩ v) := (h.set0 u).set1 v

end Go.Proofs.Ytnneodofajhbcaa

namespace Go.Proofs.Ytnneodofajhbcaa
open Go.RowKit
open DM
attribute [local go_sem ↓] Go.wp_at_zero Go.wp_at_succ

theorem Bd.keepG {w w' : World} {b : Nat} {x y : Value} {row : Option Nat} (h : Bd w b x y) (hg : w.grownBy w' row) (hne : some b ≠ row) : Bd w' b x y := by
  have e := hg.block b h.lt hne
  exact ⟨(World.cell?_of_block (w := w) (a := ⟨b, 0, none⟩) e).trans h.c0, (World.cell?_of_block (w := w) (a := ⟨b, 1, none⟩) e).trans h.c1, fun j => (World.frozen?_of_block (w := w) (a := ⟨b, j, none⟩) e).trans (h.fz j), Nat.lt_of_lt_of_le h.lt hg.size⟩

theorem own_set {w : World} {b e s n X k : Nat} {v u : Value} {xs : List Value} (h : w.ownsRow b e s v n xs) (hne : v.ownBlock ≠ some X) : (w.setCell ⟨X, k, none⟩ u).ownsRow b e s v n xs :=
  World.ownsRow.kept h (grown_set w X k u) (Or.inr hne)

end Go.Proofs.Ytnneodofajhbcaa

namespace Go.Proofs.Ytnneodofajhbcaa
open Go.RowKit
open DM

def Bxs (w : World) (L : List (Nat × Value × Value)) : Prop := ∀ q ∈ L, Bd w q.1 q.2.1 q.2.2
theorem Bxs.nil (w : World) : Bxs w [] := fun q h => by cases h
theorem Bxs.keep {w w' : World} {L : List (Nat × Value × Value)} (h : Bxs w L) (hb : Below w.heap.size w w') : Bxs w' L := fun q hq => (h q hq).keep hb (h q hq).lt
theorem Bxs.new {w : World} {L : List (Nat × Value × Value)} (h : Bxs w L) (x y : Value) (t : TypeId) : Bxs (w.alloc (.cells #[x, y] t)) ((w.heap.size, x, y) :: L) := fun q hq => by
  rcases List.mem_cons.1 hq with rfl | hq
  · exact Bd.new w x y t
  · exact (h q hq).alloc _
theorem Bxs.drew {w : World} {L : List (Nat × Value × Value)} (h : Bxs w L) : Bxs w.drew L := fun q hq => (h q hq).drew
structure DR (w : World) (lo hi : Nat) (a1 : Option Addr) (c1 : Nat) (a2 : Option Addr) (c2 : Nat) (ss : List ByteArray) (ps : List Wr) : Prop where
  d : DOwn w lo a1 c1 a2 c2 ss ps
  u1 : ∀ k, (Value.slice a1 ss.length c1).ownBlock = some k → lo ≤ k ∧ k < hi
  u2 : ∀ k, (Value.slice a2 ps.length c2).ownBlock = some k → lo ≤ k ∧ k < hi
theorem DR.keep {w w' : World} {lo hi : Nat} {a1 a2 : Option Addr} {c1 c2 : Nat} {ss : List ByteArray} {ps : List Wr} (h : DR w lo hi a1 c1 a2 c2 ss ps) (hb : Below w.heap.size w w') : DR w' lo hi a1 c1 a2 c2 ss ps := ⟨h.d.below hb, h.u1, h.u2⟩
theorem DR.alloc {w : World} {lo hi : Nat} {a1 a2 : Option Addr} {c1 c2 : Nat} {ss : List ByteArray} {ps : List Wr} (h : DR w lo hi a1 c1 a2 c2 ss ps) (o : Obj) : DR (w.alloc o) lo hi a1 c1 a2 c2 ss ps := h.keep ((belowRefl w).alloc (Nat.le_refl _) o)
theorem DR.drew {w : World} {lo hi : Nat} {a1 a2 : Option Addr} {c1 c2 : Nat} {ss : List ByteArray} {ps : List Wr} (h : DR w lo hi a1 c1 a2 c2 ss ps) : DR w.drew lo hi a1 c1 a2 c2 ss ps := h.keep (belowRefl w).drew

end Go.Proofs.Ytnneodofajhbcaa

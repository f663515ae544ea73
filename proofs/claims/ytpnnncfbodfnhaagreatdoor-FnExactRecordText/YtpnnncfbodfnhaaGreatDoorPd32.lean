/- The law FnExactRecordOk, walked. -/
import Derived.Test.YtpnnncfbodfnhaaGreatDoorPd22
import Derived.Test.YtpnnncfbodfnhaaGreatDoorPd31
import Derived.Test.YtpnnncfbodfnhaaGreatDoorPd09
import Derived.Test.YtpnnncfbodfnhaaGreatDoorPd18
import Derived.Deep.RegionHeld3
import Derived.Deep.Cut
import Derived.Deep.CutRange
import Derived.Laws.EntriesVeiled
import Derived.Test.YtpnnncfbodfnhaaGreatDoorPd30
import Derived.Test.YtpnnncfbodfnhaaGreatDoorRows
import Derived.Test.YtpnnncfbodfnhaaGreatDoorPd28
import Derived.ProofKit
import Derived.LaidMore
import Derived.Stop.Joined
import Derived.Lib.LaidTab
import Derived.Stop.LaidErr
import Derived.Test.YtpnnncfbodfnhaaGreatDoorProg
import Derived.WalkKit
import Derived.Test.YtpnnncfbodfnhaaGreatDoorPd01
import Derived.WalkSpells
import Derived.WalkLawsBesides
import Derived.Deep.QuietTactic
import Derived.BigQuiet
import Derived.Deep.DrawnRows
import Derived.Deep.AppendLies
import Derived.Lib.SmallJoins
import Derived.Deep.Strs
import Derived.OpenShut
import Derived.ShutString
import Derived.ChangeOld
import Derived.Test.YtpnnncfbodfnhaaGreatDoorPd02
import Derived.Test.YtpnnncfbodfnhaaGreatDoorPd03
import Derived.Test.YtpnnncfbodfnhaaGreatDoorPd08
import Derived.Sort.OwnSorted
import Derived.Lib.RowBridge
import Derived.Deep.RegionHeld
import Derived.Test.YtpnnncfbodfnhaaGreatDoorPd05
namespace Go.Proofs.YtpnnncfbodfnhaaGreatDoor
open Go.RowKit
open KM
attribute [local go_sem ↓] Go.wp_at_zero Go.wp_at_succ

theorem RcRows.drewR {w : World} {r : Rc} (h : RcRows w r) : RcRows w.drew r := ⟨h.t.drewT, h.b.drewB⟩
theorem RcLie.nones {w : World} {lo hi : Nat} {c : Rc} (h : RcLie w lo hi c) : (c.b.pa = none → c.b.ps.length = 0 ∧ c.b.pc = 0) ∧ (c.b.qa = none → c.b.qs.length = 0 ∧ c.b.qc = 0) := by
 obtain ⟨m, _, _, _, h2⟩ := h.ex
 exact h2.nones

end Go.Proofs.YtpnnncfbodfnhaaGreatDoor

namespace Go.Proofs.YtpnnncfbodfnhaaGreatDoor
open Go.RowKit
open KM
attribute [local go_sem ↓] Go.wp_at_zero Go.wp_at_succ

set_option maxRecDepth 100000 in
set_option maxHeartbeats 8000000 in
theorem law3 (r : Rc) (w : World) (hpb : RcArg w r) (hT : Tab w) : Calls Tryz.prog 3 #[.agg #[.int .i64 r.k, .int .i64 r.t.t.id, .int .i64 r.t.t.st, .int .i64 r.t.t.snap, .int .i64 r.t.t.cs, .slice r.t.ra r.t.t.rs.length r.t.rc, .slice r.t.wa r.t.t.ws.length r.t.wc, .bool r.t.t.out, .string r.t.t.nm, .string r.nm, .bool r.yes, .slice r.b.va r.b.vs.length r.b.vc, .slice r.b.pa r.b.ps.length r.b.pc, .slice r.b.qa r.b.qs.length r.b.qc, .int .i64 r.b.cs, .int .i64 r.b.nx]] w fun e w' => e = .returned (.bool true) ∧ Below w.heap.size w w' := by
 have HPb : Hid (RcArg w r) := hpb
 have HTb : Hid (Tab w) := hT
 clear hpb hT
 have BA : Hid (Bx (w.alloc (.cells #[.int .i64 r.k, .int .i64 r.t.t.id, .int .i64 r.t.t.st, .int .i64 r.t.t.snap, .int .i64 r.t.t.cs, .slice r.t.ra r.t.t.rs.length r.t.rc, .slice r.t.wa r.t.t.ws.length r.t.wc, .bool r.t.t.out, .string r.t.t.nm, .string r.nm, .bool r.yes, .slice r.b.va r.b.vs.length r.b.vc, .slice r.b.pa r.b.ps.length r.b.pc, .slice r.b.qa r.b.qs.length r.b.qc, .int .i64 r.b.cs, .int .i64 r.b.nx] 31)) w.heap.size [.int .i64 r.k, .int .i64 r.t.t.id, .int .i64 r.t.t.st, .int .i64 r.t.t.snap, .int .i64 r.t.t.cs, .slice r.t.ra r.t.t.rs.length r.t.rc, .slice r.t.wa r.t.t.ws.length r.t.wc, .bool r.t.t.out, .string r.t.t.nm, .string r.nm, .bool r.yes, .slice r.b.va r.b.vs.length r.b.vc, .slice r.b.pa r.b.ps.length r.b.pc, .slice r.b.qa r.b.qs.length r.b.qc, .int .i64 r.b.cs, .int .i64 r.b.nx]) := Bx.new w [.int .i64 r.k, .int .i64 r.t.t.id, .int .i64 r.t.t.st, .int .i64 r.t.t.snap, .int .i64 r.t.t.cs, .slice r.t.ra r.t.t.rs.length r.t.rc, .slice r.t.wa r.t.t.ws.length r.t.wc, .bool r.t.t.out, .string r.t.t.nm, .string r.nm, .bool r.yes, .slice r.b.va r.b.vs.length r.b.vc, .slice r.b.pa r.b.ps.length r.b.pc, .slice r.b.qa r.b.qs.length r.b.qc, .int .i64 r.b.cs, .int .i64 r.b.nx] 31
 have HB : Hid (Below w.heap.size w (w.alloc (.cells #[.int .i64 r.k, .int .i64 r.t.t.id, .int .i64 r.t.t.st, .int .i64 r.t.t.snap, .int .i64 r.t.t.cs, .slice r.t.ra r.t.t.rs.length r.t.rc, .slice r.t.wa r.t.t.ws.length r.t.wc, .bool r.t.t.out, .string r.t.t.nm, .string r.nm, .bool r.yes, .slice r.b.va r.b.vs.length r.b.vc, .slice r.b.pa r.b.ps.length r.b.pc, .slice r.b.qa r.b.qs.length r.b.qc, .int .i64 r.b.cs, .int .i64 r.b.nx] 31))) := (belowRefl w).alloc (Nat.le_refl _) _
 have AB : Hid (RcArg (w.alloc (.cells #[.int .i64 r.k, .int .i64 r.t.t.id, .int .i64 r.t.t.st, .int .i64 r.t.t.snap, .int .i64 r.t.t.cs, .slice r.t.ra r.t.t.rs.length r.t.rc, .slice r.t.wa r.t.t.ws.length r.t.wc, .bool r.t.t.out, .string r.t.t.nm, .string r.nm, .bool r.yes, .slice r.b.va r.b.vs.length r.b.vc, .slice r.b.pa r.b.ps.length r.b.pc, .slice r.b.qa r.b.qs.length r.b.qc, .int .i64 r.b.cs, .int .i64 r.b.nx] 31)) r) := HPb.out.below HB.out
 have TB : Hid (Tab (w.alloc (.cells #[.int .i64 r.k, .int .i64 r.t.t.id, .int .i64 r.t.t.st, .int .i64 r.t.t.snap, .int .i64 r.t.t.cs, .slice r.t.ra r.t.t.rs.length r.t.rc, .slice r.t.wa r.t.t.ws.length r.t.wc, .bool r.t.t.out, .string r.t.t.nm, .string r.nm, .bool r.yes, .slice r.b.va r.b.vs.length r.b.vc, .slice r.b.pa r.b.ps.length r.b.pc, .slice r.b.qa r.b.qs.length r.b.qc, .int .i64 r.b.cs, .int .i64 r.b.nx] 31))) := HTb.out.below HB.out
 go_enter Tryz.func3, Tryz.ntmps3
 have x0 := BA.out.c0
 have x1 := BA.out.c1
 have x2 := BA.out.c2
 have x3 := BA.out.c3
 have x4 := BA.out.c4
 have x5 := BA.out.c5
 have x6 := BA.out.c6
 have x7 := BA.out.c7
 have x8 := BA.out.c8
 have x9 := BA.out.c9
 have x10 := BA.out.c10
 have x11 := BA.out.c11
 have x12 := BA.out.c12
 have x13 := BA.out.c13
 have x14 := BA.out.c14
 have x15 := BA.out.c15
 go_wp2_with fail
 refine (szR r 1048576 (by omega) (by omega) _ AB.out).mono ?_
 rintro e w1 ⟨hb1, lft, rfl, hut, hrt⟩
 replace BA : Hid (Bx w1 w.heap.size [.int .i64 r.k, .int .i64 r.t.t.id, .int .i64 r.t.t.st, .int .i64 r.t.t.snap, .int .i64 r.t.t.cs, .slice r.t.ra r.t.t.rs.length r.t.rc, .slice r.t.wa r.t.t.ws.length r.t.wc, .bool r.t.t.out, .string r.t.t.nm, .string r.nm, .bool r.yes, .slice r.b.va r.b.vs.length r.b.vc, .slice r.b.pa r.b.ps.length r.b.pc, .slice r.b.qa r.b.qs.length r.b.qc, .int .i64 r.b.cs, .int .i64 r.b.nx]) := BA.out.below hb1
 replace HB : Hid (Below w.heap.size w w1) := HB.out.trans (hb1.mono HB.out.size)
 replace AB : Hid (RcArg w1 r) := AB.out.below hb1
 replace TB : Hid (Tab w1) := TB.out.below hb1
 clear hb1 x0 x1 x2 x3 x4 x5 x6 x7 x8 x9 x10 x11 x12 x13 x14 x15
 by_cases hneg : lft < 0
 ·clear hrt
  go_wp2
  go_ret
  exact ⟨rfl, HB.out⟩
 have hpost : ¬ lft < 0 := hneg
 have HF : Hid (RcFit r) := hrt (by omega)
 clear hrt hneg
 obtain ⟨sv, sb, hsv⟩ : ∃ sv sb, rctV r = .tuple #[.string sv, .bool sb] := by
  unfold rctV
  split
  ·exact ⟨_, _, rfl⟩
  ·exact ⟨_, _, rfl⟩
 have CS : Hid (∀ (c : Rc) (W : World), RcSame r c → RcRows W c → Calls Tryz.prog 6 #[.agg #[.int .i64 c.k, .int .i64 c.t.t.id, .int .i64 c.t.t.st, .int .i64 c.t.t.snap, .int .i64 c.t.t.cs, .slice c.t.ra c.t.t.rs.length c.t.rc, .slice c.t.wa c.t.t.ws.length c.t.wc, .bool c.t.t.out, .string c.t.t.nm, .string c.nm, .bool c.yes, .slice c.b.va c.b.vs.length c.b.vc, .slice c.b.pa c.b.ps.length c.b.pc, .slice c.b.qa c.b.qs.length c.b.qc, .int .i64 c.b.cs, .int .i64 c.b.nx]] W fun e w' => e = .returned (.tuple #[.string sv, .bool sb]) ∧ Below W.heap.size W w') := fun c W h1 h2 => by
  have h := srct c (h1.fit HF.out) W h2
  rwa [rct_same h1, hsv] at h
 have CI : Hid (∀ (c : Rc) (W : World), RcSame r c → (c.b.pa = none → c.b.ps.length = 0 ∧ c.b.pc = 0) ∧ (c.b.qa = none → c.b.qs.length = 0 ∧ c.b.qc = 0) → RcRows W c → Tab W → Calls Tryz.prog 8 #[.agg #[.int .i64 c.k, .int .i64 c.t.t.id, .int .i64 c.t.t.st, .int .i64 c.t.t.snap, .int .i64 c.t.t.cs, .slice c.t.ra c.t.t.rs.length c.t.rc, .slice c.t.wa c.t.t.ws.length c.t.wc, .bool c.t.t.out, .string c.t.t.nm, .string c.nm, .bool c.yes, .slice c.b.va c.b.vs.length c.b.vc, .slice c.b.pa c.b.ps.length c.b.pc, .slice c.b.qa c.b.qs.length c.b.qc, .int .i64 c.b.cs, .int .i64 c.b.nx]] W fun e w' => e = .returned (.tuple #[.string sv, .bool sb]) ∧ Below W.heap.size W w') := fun c W h1 h3 h2 ht => by
  have h := irct c (h1.fit HF.out) h3.1 h3.2 W ht h2
  rwa [rct_same h1, hsv] at h
 clear hsv
 have hbn := bne_self' sb
 as_aux_lemma =>
  have x0 := BA.out.c0
  have x1 := BA.out.c1
  have x2 := BA.out.c2
  have x3 := BA.out.c3
  have x4 := BA.out.c4
  have x5 := BA.out.c5
  have x6 := BA.out.c6
  have x7 := BA.out.c7
  have x8 := BA.out.c8
  have x9 := BA.out.c9
  have x10 := BA.out.c10
  have x11 := BA.out.c11
  have x12 := BA.out.c12
  have x13 := BA.out.c13
  have x14 := BA.out.c14
  have x15 := BA.out.c15
  go_wp2_with fail
  refine (toR r HF.out _ AB.out.rows).mono ?_
  rintro e w2 ⟨c1, rfl, hs1, hl1, hb2⟩
  replace BA : Hid (Bx w2 w.heap.size [.int .i64 r.k, .int .i64 r.t.t.id, .int .i64 r.t.t.st, .int .i64 r.t.t.snap, .int .i64 r.t.t.cs, .slice r.t.ra r.t.t.rs.length r.t.rc, .slice r.t.wa r.t.t.ws.length r.t.wc, .bool r.t.t.out, .string r.t.t.nm, .string r.nm, .bool r.yes, .slice r.b.va r.b.vs.length r.b.vc, .slice r.b.pa r.b.ps.length r.b.pc, .slice r.b.qa r.b.qs.length r.b.qc, .int .i64 r.b.cs, .int .i64 r.b.nx]) := BA.out.below hb2
  replace HB : Hid (Below w.heap.size w w2) := HB.out.trans (hb2.mono HB.out.size)
  replace AB : Hid (RcArg w2 r) := AB.out.below hb2
  replace TB : Hid (Tab w2) := TB.out.below hb2
  clear hb2 x0 x1 x2 x3 x4 x5 x6 x7 x8 x9 x10 x11 x12 x13 x14 x15
  have CS1 : Hid (RcSame r c1) := hs1
  have R1 : Hid (RcRows w2 c1) := hl1.rows
  clear hs1 hl1
  as_aux_lemma =>
   go_wp2_with fail
   refine (CS.out c1 _ CS1.out R1.out).mono ?_
   rintro e w3 ⟨rfl, hb3⟩
   replace BA : Hid (Bx w3 w.heap.size [.int .i64 r.k, .int .i64 r.t.t.id, .int .i64 r.t.t.st, .int .i64 r.t.t.snap, .int .i64 r.t.t.cs, .slice r.t.ra r.t.t.rs.length r.t.rc, .slice r.t.wa r.t.t.ws.length r.t.wc, .bool r.t.t.out, .string r.t.t.nm, .string r.nm, .bool r.yes, .slice r.b.va r.b.vs.length r.b.vc, .slice r.b.pa r.b.ps.length r.b.pc, .slice r.b.qa r.b.qs.length r.b.qc, .int .i64 r.b.cs, .int .i64 r.b.nx]) := BA.out.below hb3
   replace HB : Hid (Below w.heap.size w w3) := HB.out.trans (hb3.mono HB.out.size)
   replace AB : Hid (RcArg w3 r) := AB.out.below hb3
   replace TB : Hid (Tab w3) := TB.out.below hb3
   replace R1 : Hid (RcRows w3 c1) := R1.out.below hb3
   clear hb3
   clear R1
   as_aux_lemma =>
    have x0 := BA.out.c0
    have x1 := BA.out.c1
    have x2 := BA.out.c2
    have x3 := BA.out.c3
    have x4 := BA.out.c4
    have x5 := BA.out.c5
    have x6 := BA.out.c6
    have x7 := BA.out.c7
    have x8 := BA.out.c8
    have x9 := BA.out.c9
    have x10 := BA.out.c10
    have x11 := BA.out.c11
    have x12 := BA.out.c12
    have x13 := BA.out.c13
    have x14 := BA.out.c14
    have x15 := BA.out.c15
    go_wp2_with fail
    refine (toR r HF.out _ AB.out.rows).mono ?_
    rintro e w4 ⟨c2, rfl, hs2, hl2, hb4⟩
    replace BA : Hid (Bx w4 w.heap.size [.int .i64 r.k, .int .i64 r.t.t.id, .int .i64 r.t.t.st, .int .i64 r.t.t.snap, .int .i64 r.t.t.cs, .slice r.t.ra r.t.t.rs.length r.t.rc, .slice r.t.wa r.t.t.ws.length r.t.wc, .bool r.t.t.out, .string r.t.t.nm, .string r.nm, .bool r.yes, .slice r.b.va r.b.vs.length r.b.vc, .slice r.b.pa r.b.ps.length r.b.pc, .slice r.b.qa r.b.qs.length r.b.qc, .int .i64 r.b.cs, .int .i64 r.b.nx]) := BA.out.below hb4
    replace HB : Hid (Below w.heap.size w w4) := HB.out.trans (hb4.mono HB.out.size)
    replace AB : Hid (RcArg w4 r) := AB.out.below hb4
    replace TB : Hid (Tab w4) := TB.out.below hb4
    clear hb4 x0 x1 x2 x3 x4 x5 x6 x7 x8 x9 x10 x11 x12 x13 x14 x15
    have CS2 : Hid (RcSame r c2) := hs2
    have R2 : Hid (RcRows w4 c2) := hl2.rows
    have NO2 := hide hl2.nones
    clear hs2 hl2
    as_aux_lemma =>
     have hba : Below w4.heap.size w4 (w4.alloc (.cells #[.int .i64 c2.k, .int .i64 c2.t.t.id, .int .i64 c2.t.t.st, .int .i64 c2.t.t.snap, .int .i64 c2.t.t.cs, .slice c2.t.ra c2.t.t.rs.length c2.t.rc, .slice c2.t.wa c2.t.t.ws.length c2.t.wc, .bool c2.t.t.out, .string c2.t.t.nm, .string c2.nm, .bool c2.yes, .slice c2.b.va c2.b.vs.length c2.b.vc, .slice c2.b.pa c2.b.ps.length c2.b.pc, .slice c2.b.qa c2.b.qs.length c2.b.qc, .int .i64 c2.b.cs, .int .i64 c2.b.nx] 44)) := (belowRefl w4).alloc (Nat.le_refl _) _
     replace BA : Hid (Bx (w4.alloc (.cells #[.int .i64 c2.k, .int .i64 c2.t.t.id, .int .i64 c2.t.t.st, .int .i64 c2.t.t.snap, .int .i64 c2.t.t.cs, .slice c2.t.ra c2.t.t.rs.length c2.t.rc, .slice c2.t.wa c2.t.t.ws.length c2.t.wc, .bool c2.t.t.out, .string c2.t.t.nm, .string c2.nm, .bool c2.yes, .slice c2.b.va c2.b.vs.length c2.b.vc, .slice c2.b.pa c2.b.ps.length c2.b.pc, .slice c2.b.qa c2.b.qs.length c2.b.qc, .int .i64 c2.b.cs, .int .i64 c2.b.nx] 44)) w.heap.size [.int .i64 r.k, .int .i64 r.t.t.id, .int .i64 r.t.t.st, .int .i64 r.t.t.snap, .int .i64 r.t.t.cs, .slice r.t.ra r.t.t.rs.length r.t.rc, .slice r.t.wa r.t.t.ws.length r.t.wc, .bool r.t.t.out, .string r.t.t.nm, .string r.nm, .bool r.yes, .slice r.b.va r.b.vs.length r.b.vc, .slice r.b.pa r.b.ps.length r.b.pc, .slice r.b.qa r.b.qs.length r.b.qc, .int .i64 r.b.cs, .int .i64 r.b.nx]) := BA.out.below hba
     replace HB : Hid (Below w.heap.size w (w4.alloc (.cells #[.int .i64 c2.k, .int .i64 c2.t.t.id, .int .i64 c2.t.t.st, .int .i64 c2.t.t.snap, .int .i64 c2.t.t.cs, .slice c2.t.ra c2.t.t.rs.length c2.t.rc, .slice c2.t.wa c2.t.t.ws.length c2.t.wc, .bool c2.t.t.out, .string c2.t.t.nm, .string c2.nm, .bool c2.yes, .slice c2.b.va c2.b.vs.length c2.b.vc, .slice c2.b.pa c2.b.ps.length c2.b.pc, .slice c2.b.qa c2.b.qs.length c2.b.qc, .int .i64 c2.b.cs, .int .i64 c2.b.nx] 44))) := HB.out.trans (hba.mono HB.out.size)
     replace AB : Hid (RcArg (w4.alloc (.cells #[.int .i64 c2.k, .int .i64 c2.t.t.id, .int .i64 c2.t.t.st, .int .i64 c2.t.t.snap, .int .i64 c2.t.t.cs, .slice c2.t.ra c2.t.t.rs.length c2.t.rc, .slice c2.t.wa c2.t.t.ws.length c2.t.wc, .bool c2.t.t.out, .string c2.t.t.nm, .string c2.nm, .bool c2.yes, .slice c2.b.va c2.b.vs.length c2.b.vc, .slice c2.b.pa c2.b.ps.length c2.b.pc, .slice c2.b.qa c2.b.qs.length c2.b.qc, .int .i64 c2.b.cs, .int .i64 c2.b.nx] 44)) r) := AB.out.below hba
     replace TB : Hid (Tab (w4.alloc (.cells #[.int .i64 c2.k, .int .i64 c2.t.t.id, .int .i64 c2.t.t.st, .int .i64 c2.t.t.snap, .int .i64 c2.t.t.cs, .slice c2.t.ra c2.t.t.rs.length c2.t.rc, .slice c2.t.wa c2.t.t.ws.length c2.t.wc, .bool c2.t.t.out, .string c2.t.t.nm, .string c2.nm, .bool c2.yes, .slice c2.b.va c2.b.vs.length c2.b.vc, .slice c2.b.pa c2.b.ps.length c2.b.pc, .slice c2.b.qa c2.b.qs.length c2.b.qc, .int .i64 c2.b.cs, .int .i64 c2.b.nx] 44))) := TB.out.below hba
     replace R2 : Hid (RcRows (w4.alloc (.cells #[.int .i64 c2.k, .int .i64 c2.t.t.id, .int .i64 c2.t.t.st, .int .i64 c2.t.t.snap, .int .i64 c2.t.t.cs, .slice c2.t.ra c2.t.t.rs.length c2.t.rc, .slice c2.t.wa c2.t.t.ws.length c2.t.wc, .bool c2.t.t.out, .string c2.t.t.nm, .string c2.nm, .bool c2.yes, .slice c2.b.va c2.b.vs.length c2.b.vc, .slice c2.b.pa c2.b.ps.length c2.b.pc, .slice c2.b.qa c2.b.qs.length c2.b.qc, .int .i64 c2.b.cs, .int .i64 c2.b.nx] 44)) c2) := R2.out.below hba
     clear hba
     have XA : Hid (Bx (w4.alloc (.cells #[.int .i64 c2.k, .int .i64 c2.t.t.id, .int .i64 c2.t.t.st, .int .i64 c2.t.t.snap, .int .i64 c2.t.t.cs, .slice c2.t.ra c2.t.t.rs.length c2.t.rc, .slice c2.t.wa c2.t.t.ws.length c2.t.wc, .bool c2.t.t.out, .string c2.t.t.nm, .string c2.nm, .bool c2.yes, .slice c2.b.va c2.b.vs.length c2.b.vc, .slice c2.b.pa c2.b.ps.length c2.b.pc, .slice c2.b.qa c2.b.qs.length c2.b.qc, .int .i64 c2.b.cs, .int .i64 c2.b.nx] 44)) w4.heap.size [.int .i64 c2.k, .int .i64 c2.t.t.id, .int .i64 c2.t.t.st, .int .i64 c2.t.t.snap, .int .i64 c2.t.t.cs, .slice c2.t.ra c2.t.t.rs.length c2.t.rc, .slice c2.t.wa c2.t.t.ws.length c2.t.wc, .bool c2.t.t.out, .string c2.t.t.nm, .string c2.nm, .bool c2.yes, .slice c2.b.va c2.b.vs.length c2.b.vc, .slice c2.b.pa c2.b.ps.length c2.b.pc, .slice c2.b.qa c2.b.qs.length c2.b.qc, .int .i64 c2.b.cs, .int .i64 c2.b.nx]) := Bx.new w4 [.int .i64 c2.k, .int .i64 c2.t.t.id, .int .i64 c2.t.t.st, .int .i64 c2.t.t.snap, .int .i64 c2.t.t.cs, .slice c2.t.ra c2.t.t.rs.length c2.t.rc, .slice c2.t.wa c2.t.t.ws.length c2.t.wc, .bool c2.t.t.out, .string c2.t.t.nm, .string c2.nm, .bool c2.yes, .slice c2.b.va c2.b.vs.length c2.b.vc, .slice c2.b.pa c2.b.ps.length c2.b.pc, .slice c2.b.qa c2.b.qs.length c2.b.qc, .int .i64 c2.b.cs, .int .i64 c2.b.nx] 44
     have y0 := XA.out.c0
     have y1 := XA.out.c1
     have y2 := XA.out.c2
     have y3 := XA.out.c3
     have y4 := XA.out.c4
     have y5 := XA.out.c5
     have y6 := XA.out.c6
     have y7 := XA.out.c7
     have y8 := XA.out.c8
     have y9 := XA.out.c9
     have y10 := XA.out.c10
     have y11 := XA.out.c11
     have y12 := XA.out.c12
     have y13 := XA.out.c13
     have y14 := XA.out.c14
     have y15 := XA.out.c15
     go_wp2_with fail
     refine (CI.out c2 _ CS2.out NO2.out R2.out TB.out).mono ?_
     rintro e w5 ⟨rfl, hb5⟩
     replace BA : Hid (Bx w5 w.heap.size [.int .i64 r.k, .int .i64 r.t.t.id, .int .i64 r.t.t.st, .int .i64 r.t.t.snap, .int .i64 r.t.t.cs, .slice r.t.ra r.t.t.rs.length r.t.rc, .slice r.t.wa r.t.t.ws.length r.t.wc, .bool r.t.t.out, .string r.t.t.nm, .string r.nm, .bool r.yes, .slice r.b.va r.b.vs.length r.b.vc, .slice r.b.pa r.b.ps.length r.b.pc, .slice r.b.qa r.b.qs.length r.b.qc, .int .i64 r.b.cs, .int .i64 r.b.nx]) := BA.out.below hb5
     replace HB : Hid (Below w.heap.size w w5) := HB.out.trans (hb5.mono HB.out.size)
     replace AB : Hid (RcArg w5 r) := AB.out.below hb5
     replace TB : Hid (Tab w5) := TB.out.below hb5
     replace R2 : Hid (RcRows w5 c2) := R2.out.below hb5
     replace XA : Hid (Bx w5 w4.heap.size [.int .i64 c2.k, .int .i64 c2.t.t.id, .int .i64 c2.t.t.st, .int .i64 c2.t.t.snap, .int .i64 c2.t.t.cs, .slice c2.t.ra c2.t.t.rs.length c2.t.rc, .slice c2.t.wa c2.t.t.ws.length c2.t.wc, .bool c2.t.t.out, .string c2.t.t.nm, .string c2.nm, .bool c2.yes, .slice c2.b.va c2.b.vs.length c2.b.vc, .slice c2.b.pa c2.b.ps.length c2.b.pc, .slice c2.b.qa c2.b.qs.length c2.b.qc, .int .i64 c2.b.cs, .int .i64 c2.b.nx]) := XA.out.below hb5
     clear hb5 y0 y1 y2 y3 y4 y5 y6 y7 y8 y9 y10 y11 y12 y13 y14 y15
     as_aux_lemma =>
      go_wp2
      refine wp_region_held_drew (S := fun w' => w'.cell? ⟨w4.heap.size, 0, none⟩ = some (.int .i64 c2.k) ∧ w'.cell? ⟨w4.heap.size, 1, none⟩ = some (.int .i64 c2.t.t.id) ∧ w'.cell? ⟨w4.heap.size, 2, none⟩ = some (.int .i64 c2.t.t.st) ∧ w'.cell? ⟨w4.heap.size, 3, none⟩ = some (.int .i64 c2.t.t.snap) ∧ w'.cell? ⟨w4.heap.size, 4, none⟩ = some (.int .i64 c2.t.t.cs) ∧ w'.cell? ⟨w4.heap.size, 5, none⟩ = some (.slice c2.t.ra c2.t.t.rs.length c2.t.rc) ∧ w'.cell? ⟨w4.heap.size, 6, none⟩ = some (.slice c2.t.wa c2.t.t.ws.length c2.t.wc) ∧ w'.cell? ⟨w4.heap.size, 7, none⟩ = some (.bool c2.t.t.out) ∧ w'.cell? ⟨w4.heap.size, 8, none⟩ = some (.string c2.t.t.nm) ∧ w'.cell? ⟨w4.heap.size, 9, none⟩ = some (.string c2.nm) ∧ w'.cell? ⟨w4.heap.size, 10, none⟩ = some (.bool c2.yes) ∧ w'.cell? ⟨w4.heap.size, 11, none⟩ = some (.slice c2.b.va c2.b.vs.length c2.b.vc) ∧ w'.cell? ⟨w4.heap.size, 12, none⟩ = some (.slice c2.b.pa c2.b.ps.length c2.b.pc) ∧ w'.cell? ⟨w4.heap.size, 13, none⟩ = some (.slice c2.b.qa c2.b.qs.length c2.b.qc) ∧ w'.cell? ⟨w4.heap.size, 14, none⟩ = some (.int .i64 c2.b.cs) ∧ w'.cell? ⟨w4.heap.size, 15, none⟩ = some (.int .i64 c2.b.nx) ∧ w'.cell? ⟨w.heap.size, 0, none⟩ = some (.int .i64 r.k) ∧ w'.cell? ⟨w.heap.size, 1, none⟩ = some (.int .i64 r.t.t.id) ∧ w'.cell? ⟨w.heap.size, 2, none⟩ = some (.int .i64 r.t.t.st) ∧ w'.cell? ⟨w.heap.size, 3, none⟩ = some (.int .i64 r.t.t.snap) ∧ w'.cell? ⟨w.heap.size, 4, none⟩ = some (.int .i64 r.t.t.cs) ∧ w'.cell? ⟨w.heap.size, 5, none⟩ = some (.slice r.t.ra r.t.t.rs.length r.t.rc) ∧ w'.cell? ⟨w.heap.size, 6, none⟩ = some (.slice r.t.wa r.t.t.ws.length r.t.wc) ∧ w'.cell? ⟨w.heap.size, 7, none⟩ = some (.bool r.t.t.out) ∧ w'.cell? ⟨w.heap.size, 8, none⟩ = some (.string r.t.t.nm) ∧ w'.cell? ⟨w.heap.size, 9, none⟩ = some (.string r.nm) ∧ w'.cell? ⟨w.heap.size, 10, none⟩ = some (.bool r.yes) ∧ w'.cell? ⟨w.heap.size, 11, none⟩ = some (.slice r.b.va r.b.vs.length r.b.vc) ∧ w'.cell? ⟨w.heap.size, 12, none⟩ = some (.slice r.b.pa r.b.ps.length r.b.pc) ∧ w'.cell? ⟨w.heap.size, 13, none⟩ = some (.slice r.b.qa r.b.qs.length r.b.qc) ∧ w'.cell? ⟨w.heap.size, 14, none⟩ = some (.int .i64 r.b.cs) ∧ w'.cell? ⟨w.heap.size, 15, none⟩ = some (.int .i64 r.b.nx)) (by kernel_rfl) ⟨XA.out.c0, XA.out.c1, XA.out.c2, XA.out.c3, XA.out.c4, XA.out.c5, XA.out.c6, XA.out.c7, XA.out.c8, XA.out.c9, XA.out.c10, XA.out.c11, XA.out.c12, XA.out.c13, XA.out.c14, XA.out.c15, BA.out.c0, BA.out.c1, BA.out.c2, BA.out.c3, BA.out.c4, BA.out.c5, BA.out.c6, BA.out.c7, BA.out.c8, BA.out.c9, BA.out.c10, BA.out.c11, BA.out.c12, BA.out.c13, BA.out.c14, BA.out.c15⟩ (fun hHeld => ?_)
      as_aux_lemma =>
       (refine wpAnyH_take (i := 0) (v := ?_) rfl (by kernel_rfl) (by kernel_rfl) (by kernel_rfl) (fun _ _ _ h => h) (Or.inl ⟨by rfl, ?_⟩) (by assumption) ?_; rotate_left; (focus (intro w hSw; (try dsimp only at hSw); go_simp; (try with_reducible rfl); done)); simp only [Act.put, List.getElem_toArray, List.getElem_cons_zero, List.setIfInBounds_toArray, List.set_cons_zero, List.set_cons_succ])
       (refine wpAnyH_take (i := 1) (v := ?_) rfl (by kernel_rfl) (by kernel_rfl) (by kernel_rfl) (fun _ _ _ h => h) (Or.inl ⟨by rfl, ?_⟩) (by assumption) ?_; rotate_left; (focus (intro w hSw; (try dsimp only at hSw); go_simp; (try with_reducible rfl); done)); simp only [Act.put, List.getElem_toArray, List.getElem_cons_zero, List.getElem_cons_succ, List.setIfInBounds_toArray, List.set_cons_zero, List.set_cons_succ])
       as_aux_lemma =>
        refine wpAnyH_ready (rs := [2]) (by kernel_rfl) (by simp) ?_
        refine AllReadyH.cons rfl (fun K hK => ?_) AllReadyH.nil
        go_simp
        go_wp2_with fail
        refine (toR r HF.out _ AB.out.rows.drewR).mono ?_
        rintro e w6 ⟨c3, rfl, hs3, hl3, hb6⟩
        have hbu6 := undrew hb6
        replace BA : Hid (Bx w6 w.heap.size [.int .i64 r.k, .int .i64 r.t.t.id, .int .i64 r.t.t.st, .int .i64 r.t.t.snap, .int .i64 r.t.t.cs, .slice r.t.ra r.t.t.rs.length r.t.rc, .slice r.t.wa r.t.t.ws.length r.t.wc, .bool r.t.t.out, .string r.t.t.nm, .string r.nm, .bool r.yes, .slice r.b.va r.b.vs.length r.b.vc, .slice r.b.pa r.b.ps.length r.b.pc, .slice r.b.qa r.b.qs.length r.b.qc, .int .i64 r.b.cs, .int .i64 r.b.nx]) := BA.out.below hbu6
        replace HB : Hid (Below w.heap.size w w6) := HB.out.trans (hbu6.mono HB.out.size)
        replace AB : Hid (RcArg w6 r) := AB.out.below hbu6
        replace TB : Hid (Tab w6) := TB.out.below hbu6
        replace R2 : Hid (RcRows w6 c2) := R2.out.below hbu6
        replace XA : Hid (Bx w6 w4.heap.size [.int .i64 c2.k, .int .i64 c2.t.t.id, .int .i64 c2.t.t.st, .int .i64 c2.t.t.snap, .int .i64 c2.t.t.cs, .slice c2.t.ra c2.t.t.rs.length c2.t.rc, .slice c2.t.wa c2.t.t.ws.length c2.t.wc, .bool c2.t.t.out, .string c2.t.t.nm, .string c2.nm, .bool c2.yes, .slice c2.b.va c2.b.vs.length c2.b.vc, .slice c2.b.pa c2.b.ps.length c2.b.pc, .slice c2.b.qa c2.b.qs.length c2.b.qc, .int .i64 c2.b.cs, .int .i64 c2.b.nx]) := XA.out.below hbu6
        have U := hide hl3.rows
        clear hl3
        go_wp2_with fail
        refine hK.out _ _ ⟨XA.out.c0, XA.out.c1, XA.out.c2, XA.out.c3, XA.out.c4, XA.out.c5, XA.out.c6, XA.out.c7, XA.out.c8, XA.out.c9, XA.out.c10, XA.out.c11, XA.out.c12, XA.out.c13, XA.out.c14, XA.out.c15, BA.out.c0, BA.out.c1, BA.out.c2, BA.out.c3, BA.out.c4, BA.out.c5, BA.out.c6, BA.out.c7, BA.out.c8, BA.out.c9, BA.out.c10, BA.out.c11, BA.out.c12, BA.out.c13, BA.out.c14, BA.out.c15⟩ (fun hHeld6 => ?_)
        clear hK K hb6 hbu6
        as_aux_lemma =>
         refine wpAnyH_ready (rs := [3]) (by kernel_rfl) (by simp) ?_
         refine AllReadyH.cons rfl (fun K hK => ?_) AllReadyH.nil
         go_simp
         go_wp2_with fail
         refine (eqR c2 c3 (CS2.out.symm.trans hs3) (CS2.out.fit HF.out) _ R2.out U.out).mono ?_
         rintro e w7 ⟨rfl, hb7⟩
         replace BA : Hid (Bx w7 w.heap.size [.int .i64 r.k, .int .i64 r.t.t.id, .int .i64 r.t.t.st, .int .i64 r.t.t.snap, .int .i64 r.t.t.cs, .slice r.t.ra r.t.t.rs.length r.t.rc, .slice r.t.wa r.t.t.ws.length r.t.wc, .bool r.t.t.out, .string r.t.t.nm, .string r.nm, .bool r.yes, .slice r.b.va r.b.vs.length r.b.vc, .slice r.b.pa r.b.ps.length r.b.pc, .slice r.b.qa r.b.qs.length r.b.qc, .int .i64 r.b.cs, .int .i64 r.b.nx]) := BA.out.below hb7
         replace HB : Hid (Below w.heap.size w w7) := HB.out.trans (hb7.mono HB.out.size)
         replace AB : Hid (RcArg w7 r) := AB.out.below hb7
         replace TB : Hid (Tab w7) := TB.out.below hb7
         replace R2 : Hid (RcRows w7 c2) := R2.out.below hb7
         replace XA : Hid (Bx w7 w4.heap.size [.int .i64 c2.k, .int .i64 c2.t.t.id, .int .i64 c2.t.t.st, .int .i64 c2.t.t.snap, .int .i64 c2.t.t.cs, .slice c2.t.ra c2.t.t.rs.length c2.t.rc, .slice c2.t.wa c2.t.t.ws.length c2.t.wc, .bool c2.t.t.out, .string c2.t.t.nm, .string c2.nm, .bool c2.yes, .slice c2.b.va c2.b.vs.length c2.b.vc, .slice c2.b.pa c2.b.ps.length c2.b.pc, .slice c2.b.qa c2.b.qs.length c2.b.qc, .int .i64 c2.b.cs, .int .i64 c2.b.nx]) := XA.out.below hb7
         replace U : Hid (RcRows w7 c3) := U.out.below hb7
         go_wp2_with fail
         refine hK.out _ _ ⟨XA.out.c0, XA.out.c1, XA.out.c2, XA.out.c3, XA.out.c4, XA.out.c5, XA.out.c6, XA.out.c7, XA.out.c8, XA.out.c9, XA.out.c10, XA.out.c11, XA.out.c12, XA.out.c13, XA.out.c14, XA.out.c15, BA.out.c0, BA.out.c1, BA.out.c2, BA.out.c3, BA.out.c4, BA.out.c5, BA.out.c6, BA.out.c7, BA.out.c8, BA.out.c9, BA.out.c10, BA.out.c11, BA.out.c12, BA.out.c13, BA.out.c14, BA.out.c15⟩ (fun hHeld7 => ?_)
         clear hK K hb7
         as_aux_lemma =>
          (refine wpAnyH_take (i := 4) (v := ?_) rfl (by kernel_rfl) (by kernel_rfl) (by kernel_rfl) (fun _ _ _ h => h) (Or.inl ⟨by rfl, ?_⟩) (by assumption) ?_; rotate_left; (focus (intro w hSw; (try dsimp only at hSw); go_simp; (try with_reducible rfl); done)); simp only [Act.put, List.getElem_toArray, List.getElem_cons_zero, List.getElem_cons_succ, List.setIfInBounds_toArray, List.set_cons_zero, List.set_cons_succ])
          refine wpAnyH_done (by kernel_rfl) ?_ _
          go_wp2
          go_ret
          exact ⟨rfl, HB.out⟩

end Go.Proofs.YtpnnncfbodfnhaaGreatDoor

namespace Go.Proofs.YtpnnncfbodfnhaaGreatDoor
open Go.ChangeShapes Go.WideShapes Go.ChangeAt Go.RowKit

def laid1 : List (String × DataW Unit) := [("loop.example/g00327/impl.halfByteSums", Rows.laid_loop_example_g00327_impl_halfByteSums)]

theorem ownD : ownKnob Tryz.prog.godebug = none := by kernel_rfl
theorem laidOutD : laidOutB Tryz.prog = true := by kernel_rfl

set_option maxRecDepth 100000 in
theorem door_met (os : Os) (args : Array Value) : laidMetH Tryz.prog laid1 ((World.doorLaid Tryz.prog 400 os).forCall (fun _ _ => 0) ⟨#[], args, []⟩).memory :=
 laidMetH_of_parts3 (fuel := 8) (laidMet_of_run' 8 (by kernel_rfl) (by kernel_rfl)) (by kernel_rfl) (by kernel_rfl)

theorem half_tab : (Rows.laid_loop_example_g00327_impl_halfByteSums : DataW Unit) = Lib.tabData .u32 tabZ := by kernel_rfl

theorem tHalf : (Tryz.prog.globals[0]?).map (·.type) = some 197 := by kernel_rfl
theorem c29 : Tryz.prog.cellsOf 102 = 1 := by kernel_rfl
theorem c49 : Tryz.prog.cellsOf 197 = 16 := by kernel_rfl

set_option maxRecDepth 100000 in
theorem tab_of_laid {W : World} (h : laidMetH Tryz.prog laid1 W) : Tab W := by
 rw [MakeChecks.laidMetH_plain _ _ _ (by kernel_rfl)] at h
 have h2 : laidMet Tryz.prog (("loop.example/g00327/impl.halfByteSums", Lib.tabData .u32 tabZ) :: []) W := by
  rw [← half_tab]
  exact h
 exact Lib.tabIs_of_head gTab tHalf Tryz.underlying197 Tryz.underlying102 c29 c49 h2
end Go.Proofs.YtpnnncfbodfnhaaGreatDoor

namespace Go.Proofs.YtpnnncfbodfnhaaGreatDoor
open Go.ChangeShapes Go.WideShapes Go.ChangeAt Go.RowKit Go.Deep
open KM

section
variable {H : Type} {enc : TypeId × Value → H} {W : World} {base : Nat}

theorem open_rows {α : Type} [Inhabited α] (E : Enc α) (ok : α → Prop) {t e : TypeId} (ht : Tryz.prog.underlying t = some (.slice e)) (hc : Tryz.prog.cellsOf e = E.size)
  (each : ∀ n cs x, DataW.trod enc Tryz.prog W 0 (fun _ => true) true n e cs = some x → cs.length = E.size → ∃ y, cs = E.enc y ∧ ok y)
  {fuel : Nat} {v : Value} {y : DataW H × List MemPlace} (h : DataW.trod enc Tryz.prog W 0 (fun _ => true) true fuel t [v] = some y) :
  ∃ (xs : List α) (a : Option Addr) (c : Nat), v = .slice a xs.length c ∧ xs.length ≤ maxLen ∧ (∀ x ∈ xs, ok x) ∧ GRow E W a xs := by
 rcases open_slice ht h with ⟨hcs, _⟩ | ⟨a, len, cap, m, n, D, Pl, hcs, _, hl, hm, hmm, _, hx⟩
 ·cases hcs
  exact ⟨[], none, 0, rfl, by simp, by simp, GRow.nil _ _⟩
 ·cases hcs
  simp only [if_true] at hmm
  subst hmm
  have ea : ∀ i, i < m → ∃ y : α, ok y ∧ ∀ k, k < E.size → W.cell? (a.add (i * E.size + k)) = (E.enc y)[k]? := fun i hi => by
   obtain ⟨cs', h1, h2⟩ := hx i hi
   rw [hc] at h1
   obtain ⟨_, hlen, hcell⟩ := World.cells?_some h1
   obtain ⟨y, rfl, hok⟩ := each n cs' _ h2 hlen
   refine ⟨y, hok, fun k hk => ?_⟩
   have := hcell k (by omega)
   rw [add_add] at this
   exact this
  obtain ⟨f, hf⟩ := choose_lt ea
  refine ⟨(List.range len).map f, some a, m, by simp, by simp; omega, ?_, ?_⟩
  ·intro x hx
   obtain ⟨i, hi, rfl⟩ := List.mem_map.1 hx
   exact (hf i (by have := List.mem_range.1 hi; omega)).1
  ·intro h0
   have h0' : 0 < len := by simpa using h0
   obtain ⟨b, off, spot⟩ := a
   have hc0 := (hf 0 (by omega)).2 0 E.pos
   have hsome : ∃ v, W.cell? ((⟨b, off, spot⟩ : Addr).add (0 * E.size + 0)) = some v := by
    rw [hc0]
    exact ⟨_, List.getElem?_eq_getElem (by rw [E.len]; exact E.pos)⟩
   obtain ⟨v0, hv0⟩ := hsome
   have hspot : spot = none := by simpa [Addr.add] using World.cell?_spot hv0
   subst hspot
   refine ⟨b, off, rfl, by simpa [Addr.add] using World.block_lt_of_cell? W _ hv0, fun j hj i hi => ?_⟩
   have hj' : j < len := by simpa using hj
   have := (hf j (by omega)).2 i hi
   rw [Addr.add_lit] at this
   rw [Nat.add_assoc, this]
   simp

set_option maxRecDepth 100000 in
theorem each_version {T n : Nat} {cs : List Value} {x : DataW H × List MemPlace} {f0 f1 f2 f3 : Field} (ht : Tryz.prog.underlying T = some (.struct #[f0, f1, f2, f3])) (h0 : f0.type = 9) (h1 : f1.type = 9) (h2 : f2.type = 4) (h3 : f3.type = 3) (o0 : f0.offset = 0) (o1 : f1.offset = 1) (o2 : f2.offset = 2) (o3 : f3.offset = 3)
  (h : DataW.trod enc Tryz.prog W 0 (fun _ => true) true n T cs = some x) (hl : cs.length = 4) : ∃ y : Vr, cs = encV.enc y ∧ (y.1.size ≤ maxLen ∧ y.2.1.size ≤ maxLen) := by
 obtain ⟨y0, y1, y2, y3, m, _, _, g0, g1, g2, g3⟩ := Go.Joins.trod_struct4 ht h
 match cs, hl with
 | [c0, c1, c2, c3], _ =>
  rw [h0, o0, show Tryz.prog.cellsOf 9 = 1 by kernel_rfl] at g0
  rw [h1, o1, show Tryz.prog.cellsOf 9 = 1 by kernel_rfl] at g1
  rw [h2, o2, show Tryz.prog.cellsOf 4 = 1 by kernel_rfl] at g2
  rw [h3, o3, show Tryz.prog.cellsOf 3 = 1 by kernel_rfl] at g3
  simp only [List.drop_zero, List.take_succ_cons, List.take_zero, List.drop_succ_cons] at g0 g1 g2 g3
  obtain ⟨s0, e0, _, b0⟩ := DataW.trod_string Tryz.underlying9 g0
  obtain ⟨s1, e1, _, b1⟩ := DataW.trod_string Tryz.underlying9 g1
  obtain ⟨s2, e2, _⟩ := DataW.trod_bool Tryz.underlying4 g2
  obtain ⟨s3, e3, _⟩ := DataW.trod_int Tryz.underlying3 g3
  simp only [List.cons.injEq, and_true] at e0 e1 e2 e3
  subst e0 e1 e2 e3
  exact ⟨(s0, s1, s2, s3), rfl, b0, b1⟩

end
end Go.Proofs.YtpnnncfbodfnhaaGreatDoor

namespace Go.Proofs.YtpnnncfbodfnhaaGreatDoor
open Go.ChangeShapes Go.WideShapes Go.ChangeAt Go.RowKit Go.Deep
open KM

section
variable {H : Type} {enc : TypeId × Value → H} {W : World} {base : Nat}

set_option maxRecDepth 100000 in
theorem each_range {T n : Nat} {cs : List Value} {x : DataW H × List MemPlace} {f0 f1 : Field} (ht : Tryz.prog.underlying T = some (.struct #[f0, f1])) (h0 : f0.type = 9) (h1 : f1.type = 9) (o0 : f0.offset = 0) (o1 : f1.offset = 1)
  (h : DataW.trod enc Tryz.prog W 0 (fun _ => true) true n T cs = some x) (hl : cs.length = 2) : ∃ y : Rg, cs = encR.enc y ∧ (y.1.size ≤ maxLen ∧ y.2.size ≤ maxLen) := by
 obtain ⟨y0, y1, m, _, _, g0, g1⟩ := trod_struct2 ht h
 match cs, hl with
 | [c0, c1], _ =>
  rw [h0, o0, show Tryz.prog.cellsOf 9 = 1 by kernel_rfl] at g0
  rw [h1, o1, show Tryz.prog.cellsOf 9 = 1 by kernel_rfl] at g1
  simp only [List.drop_zero, List.take_succ_cons, List.take_zero, List.drop_succ_cons] at g0 g1
  obtain ⟨s0, e0, _, b0⟩ := DataW.trod_string Tryz.underlying9 g0
  obtain ⟨s1, e1, _, b1⟩ := DataW.trod_string Tryz.underlying9 g1
  simp only [List.cons.injEq, and_true] at e0 e1
  subst e0 e1
  exact ⟨(s0, s1), rfl, b0, b1⟩

set_option maxRecDepth 100000 in
theorem each_write {T n : Nat} {cs : List Value} {x : DataW H × List MemPlace} {f0 f1 f2 : Field} (ht : Tryz.prog.underlying T = some (.struct #[f0, f1, f2])) (h0 : f0.type = 9) (h1 : f1.type = 9) (h2 : f2.type = 4) (o0 : f0.offset = 0) (o1 : f1.offset = 1) (o2 : f2.offset = 2)
  (h : DataW.trod enc Tryz.prog W 0 (fun _ => true) true n T cs = some x) (hl : cs.length = 3) : ∃ y : Wt, cs = encW.enc y ∧ (y.1.size ≤ maxLen ∧ y.2.1.size ≤ maxLen) := by
 obtain ⟨y0, y1, y2, m, _, _, g0, g1, g2⟩ := trod_struct3 ht h
 match cs, hl with
 | [c0, c1, c2], _ =>
  rw [h0, o0, show Tryz.prog.cellsOf 9 = 1 by kernel_rfl] at g0
  rw [h1, o1, show Tryz.prog.cellsOf 9 = 1 by kernel_rfl] at g1
  rw [h2, o2, show Tryz.prog.cellsOf 4 = 1 by kernel_rfl] at g2
  simp only [List.drop_zero, List.take_succ_cons, List.take_zero, List.drop_succ_cons] at g0 g1 g2
  obtain ⟨s0, e0, _, b0⟩ := DataW.trod_string Tryz.underlying9 g0
  obtain ⟨s1, e1, _, b1⟩ := DataW.trod_string Tryz.underlying9 g1
  obtain ⟨s2, e2, _⟩ := DataW.trod_bool Tryz.underlying4 g2
  simp only [List.cons.injEq, and_true] at e0 e1 e2
  subst e0 e1 e2
  exact ⟨(s0, s1, s2), rfl, b0, b1⟩

end
end Go.Proofs.YtpnnncfbodfnhaaGreatDoor

namespace Go.Proofs.YtpnnncfbodfnhaaGreatDoor
open Go.ChangeShapes Go.WideShapes Go.ChangeAt Go.RowKit Go.Deep
open KM

theorem array8 {α : Type} {cs : Array α} (h : cs.size = 8) : ∃ c0 c1 c2 c3 c4 c5 c6 c7, cs = #[c0, c1, c2, c3, c4, c5, c6, c7] := by
 obtain ⟨l⟩ := cs
 match l, h with
 | [c0, c1, c2, c3, c4, c5, c6, c7], _ => exact ⟨c0, c1, c2, c3, c4, c5, c6, c7, rfl⟩

section
variable {H : Type} {enc : TypeId × Value → H} {W : World} {base : Nat}

theorem trod8 {P : Program} {w : World} {b : Nat} {spare : Nat → Bool} {held : Bool} {T : TypeId} {f0 f1 f2 f3 f4 f5 f6 f7 : Field} {fuel : Nat} {cs : List Value} {x : DataW H × List MemPlace} (ht : P.underlying T = some (.struct #[f0, f1, f2, f3, f4, f5, f6, f7])) (h : DataW.trod enc P w b spare held fuel T cs = some x) :
  ∃ y0 y1 y2 y3 y4 y5 y6 y7 n, DataW.trod enc P w b spare held n f0.type ((cs.drop f0.offset).take (P.cellsOf f0.type)) = some y0 ∧ DataW.trod enc P w b spare held n f1.type ((cs.drop f1.offset).take (P.cellsOf f1.type)) = some y1 ∧ DataW.trod enc P w b spare held n f2.type ((cs.drop f2.offset).take (P.cellsOf f2.type)) = some y2 ∧ DataW.trod enc P w b spare held n f3.type ((cs.drop f3.offset).take (P.cellsOf f3.type)) = some y3 ∧ DataW.trod enc P w b spare held n f4.type ((cs.drop f4.offset).take (P.cellsOf f4.type)) = some y4 ∧ DataW.trod enc P w b spare held n f5.type ((cs.drop f5.offset).take (P.cellsOf f5.type)) = some y5 ∧ DataW.trod enc P w b spare held n f6.type ((cs.drop f6.offset).take (P.cellsOf f6.type)) = some y6 ∧ DataW.trod enc P w b spare held n f7.type ((cs.drop f7.offset).take (P.cellsOf f7.type)) = some y7 := by
 obtain ⟨xs, n, _, rfl, hl, hlen, hf⟩ := DataW.trod_struct ht h
 match xs, hlen with
 | [y0, y1, y2, y3, y4, y5, y6, y7], _ => exact ⟨y0, y1, y2, y3, y4, y5, y6, y7, n, by simpa using hf 0 f0 rfl, by simpa using hf 1 f1 rfl, by simpa using hf 2 f2 rfl, by simpa using hf 3 f3 rfl, by simpa using hf 4 f4 rfl, by simpa using hf 5 f5 rfl, by simpa using hf 6 f6 rfl, by simpa using hf 7 f7 rfl⟩

set_option maxRecDepth 100000 in
set_option maxHeartbeats 1000000 in
theorem each_txn {n : Nat} {c0 c1 c2 c3 c4 c5 c6 c7 : Value} {x : DataW H × List MemPlace}
  (h : DataW.trod enc Tryz.prog W 0 (fun _ => true) true n 25 [c0, c1, c2, c3, c4, c5, c6, c7] = some x) : ∃ (t : Tx) (ra wa : Option Addr) (rc wc : Nat), [c0, c1, c2, c3, c4, c5, c6, c7] = txV t ra rc wa wc ∧ TArg W t ra wa := by
 obtain ⟨y0, y1, y2, y3, y4, y5, y6, y7, m, g0, g1, g2, g3, g4, g5, g6, g7⟩ := trod8 Tryz.underlying25 h
 simp only [show Tryz.prog.cellsOf 3 = 1 by kernel_rfl, show Tryz.prog.cellsOf 4 = 1 by kernel_rfl, show Tryz.prog.cellsOf 9 = 1 by kernel_rfl, show Tryz.prog.cellsOf 22 = 1 by kernel_rfl, show Tryz.prog.cellsOf 23 = 1 by kernel_rfl, List.drop_zero, List.take_succ_cons, List.take_zero, List.drop_succ_cons] at g0 g1 g2 g3 g4 g5 g6 g7
 obtain ⟨s0, e0, _⟩ := DataW.trod_int Tryz.underlying3 g0
 obtain ⟨s1, e1, _⟩ := DataW.trod_int Tryz.underlying3 g1
 obtain ⟨s2, e2, _⟩ := DataW.trod_int Tryz.underlying3 g2
 obtain ⟨s3, e3, _⟩ := DataW.trod_int Tryz.underlying3 g3
 obtain ⟨rs, ra, rc, e4, rl, rf, rr⟩ := open_rows encR (fun x => x.1.size ≤ maxLen ∧ x.2.size ≤ maxLen) Tryz.underlying22 (by kernel_rfl) (fun n cs x h hl => each_range Tryz.underlying150 rfl rfl rfl rfl h hl) g4
 obtain ⟨ws, wa, wc, e5, wl, wf, wr⟩ := open_rows encW (fun x => x.1.size ≤ maxLen ∧ x.2.1.size ≤ maxLen) Tryz.underlying23 (by kernel_rfl) (fun n cs x h hl => each_write Tryz.underlying152 rfl rfl rfl rfl rfl rfl h hl) g5
 obtain ⟨s6, e6, _⟩ := DataW.trod_bool Tryz.underlying4 g6
 obtain ⟨s7, e7, _, b7⟩ := DataW.trod_string Tryz.underlying9 g7
 simp only [List.cons.injEq, and_true] at e0 e1 e2 e3 e6 e7
 subst e0 e1 e2 e3 e4 e5 e6 e7
 exact ⟨⟨s0, s1, s2, s3, rs, ws, s6, s7⟩, ra, wa, rc, wc, rfl, ⟨rl, rf, wl, wf, b7, ⟨rr, wr⟩⟩⟩

end
end Go.Proofs.YtpnnncfbodfnhaaGreatDoor

namespace Go.Proofs.YtpnnncfbodfnhaaGreatDoor
open Go.RowKit
open KM
attribute [local go_sem ↓] Go.wp_at_zero Go.wp_at_succ

end Go.Proofs.YtpnnncfbodfnhaaGreatDoor

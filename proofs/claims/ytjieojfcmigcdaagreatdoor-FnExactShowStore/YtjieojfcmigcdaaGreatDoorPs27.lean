/- A store's size, with its bound. -/
import Derived.Test.YtjieojfcmigcdaaGreatDoorPs24
import Derived.Test.YtjieojfcmigcdaaGreatDoorPs26
import Derived.Test.YtjieojfcmigcdaaGreatDoorPs01
namespace Go.Proofs.YtjieojfcmigcdaaGreatDoor
open Go.RowKit
open KM
attribute [local go_sem ↓] Go.wp_at_zero Go.wp_at_succ
set_option maxRecDepth 100000 in
set_option maxHeartbeats 1000000 in
theorem sz79b (ps : List Wr) (a : Option Addr) (c : Nat) (hn : ps.length ≤ 9223372036854775807) (hl : ∀ p ∈ ps, p.2.size ≤ 9223372036854775807) (L : Int) (h0 : 0 ≤ L) (h1 : L ≤ 1048576) (w : World) (hp : PRow w a ps) :
  Calls Tryz.prog 39 #[.slice a ps.length c, .int .i64 L] w fun e w' => Below w.heap.size w w' ∧ ∃ r : Int, e = .returned (.int .i64 r) ∧ r ≤ 1048576 ∧ (0 ≤ r → (ps.length : Int) ≤ 1048576 ∧ PFits ps) := by
 have HP : Hid (PRow w a ps) := hp
 have HL : Hid (∀ p ∈ ps, p.2.size ≤ 9223372036854775807) := hl
 clear hp hl
 by_cases hneg : L - (ps.length : Int) < 0
 ·go_enter Tryz.func39, Tryz.ntmps39
  go_wp2
  go_ret
  exact ⟨belowRefl w, -1, rfl, by omega, fun h => by omega⟩
 ·have hneg' : decide (L - (ps.length : Int) < 0) = false := by simpa using hneg
  go_enter Tryz.func39, Tryz.ntmps39
  go_wp2
  go_loopw [1, 5] (fun tl t wr => ∃ (k : Nat) (l : Int), k ≤ ps.length ∧ t = .int .i64 k ∧ tl = .int .i64 l ∧ 0 ≤ l ∧ l ≤ 1048576 ∧ Hid (∀ j (hj : j < ps.length), j < k → ps[j].2.size ≤ 1048576) ∧ Hid (Below w.heap.size w wr)) (fun _ t _ => ps.length - (intOf t).toNat)
  case atStart => exact ⟨0, L - (ps.length : Int), Nat.zero_le _, rfl, rfl, by omega, by omega, fun j hj h => by omega, belowRefl w⟩
  case round =>
   obtain ⟨k, l, hk, rfl, rfl, hl0, hl1, HA, HB⟩ := hrel
   by_cases hlt : k < ps.length
   ·have hlt' : (k : Int) < (ps.length : Int) := by omega
    have hk0 : (0 : Int) ≤ (k : Int) := by omega
    obtain ⟨b, off, rfl, hbl, hc⟩ := (HP.out.below HB.out) (by omega)
    have hck := (hc k hlt).1
    have hcl := (hc k hlt).2
    have hsz := HL.out _ (List.getElem_mem hlt)
    clear hc
    by_cases hn2 : l < (ps[k].2.size : Int)
    ·have HV : Hid (lft l ps[k].2 = -1) := if_pos hn2
     clear hn2
     go_wp2_with fail
     refine (sz88 _ _ hsz l hl0 hl1 _).mono ?_
     rintro e w2 ⟨rfl, hb2⟩
     rw [HV.out]
     have HB2 : Hid (Below w.heap.size w w2) := HB.out.trans (hb2.mono HB.out.size)
     clear hb2
     go_wp2
     go_ret
     exact ⟨HB2.out, -1, rfl, by omega, fun h => by omega⟩
    ·have HV : Hid (lft l ps[k].2 = l - (ps[k].2.size : Int)) := if_neg hn2
     have hn3 : ¬ l - (ps[k].2.size : Int) < 0 := by omega
     have HA2 : Hid (∀ j (hj : j < ps.length), j < k + 1 → ps[j].2.size ≤ 1048576) := fun j hj h => by
      by_cases e : j = k
      ·subst e; omega
      ·exact HA.out j hj (by omega)
     have hl2 : l - (ps[k].2.size : Int) ≤ 1048576 := by omega
     clear hn2
     go_wp2_with fail
     refine (sz88 _ _ hsz l hl0 hl1 _).mono ?_
     rintro e w2 ⟨rfl, hb2⟩
     rw [HV.out]
     have HB2 : Hid (Below w.heap.size w w2) := HB.out.trans (hb2.mono HB.out.size)
     clear hb2
     go_wp2
     go_roundw
     case rel => exact ⟨k + 1, l - (ps[k].2.size : Int), by omega, by go_num, rfl, by omega, hl2, HA2, HB2⟩
     case measure => simp [intOf]; omega
   ·have hlt' : ¬ (k : Int) < (ps.length : Int) := by omega
    have HA2 : Hid (PFits ps) := fun s hs => by
     obtain ⟨j, hj, rfl⟩ := List.getElem_of_mem hs
     exact HA.out j hj (by omega)
    go_wp2
    go_ret
    exact ⟨HB.out, l, rfl, hl1, fun _ => ⟨by omega, HA2.out⟩⟩

set_option maxRecDepth 100000 in
set_option maxHeartbeats 1000000 in
theorem sz43b (ss : List ByteArray) (ps : List Wr) (a1 a2 : Option Addr) (c1 c2 : Nat) (hn : ss.length ≤ 9223372036854775807) (hl : ∀ s ∈ ss, s.size ≤ 9223372036854775807) (hm : ps.length ≤ 9223372036854775807) (hlp : ∀ p ∈ ps, p.2.size ≤ 9223372036854775807) (L : Int) (h0 : 0 ≤ L) (h1 : L ≤ 1048576) (w : World) (hs : SRow w a1 ss) (hp : PRow w a2 ps) :
  Calls Tryz.prog 16 #[.agg #[.slice a1 ss.length c1, .slice a2 ps.length c2], .int .i64 L] w fun e w' => Below w.heap.size w w' ∧ ∃ r : Int, e = .returned (.int .i64 r) ∧ r ≤ 1048576 ∧ (0 ≤ r → Fits ss ps) := by
 have HS : Hid (SRow w a1 ss) := hs
 have HP : Hid (PRow w a2 ps) := hp
 have HL : Hid (∀ s ∈ ss, s.size ≤ 9223372036854775807) := hl
 have HLP : Hid (∀ p ∈ ps, p.2.size ≤ 9223372036854775807) := hlp
 clear hs hp hl hlp
 go_enter Tryz.func16, Tryz.ntmps16
 go_wp2_with fail
 refine (sz78 ss a1 c1 hn HL.out L h0 h1 _ (HS.out.below ((belowRefl w).alloc (Nat.le_refl _) _))).mono ?_
 rintro e w1 ⟨rfl, r, rfl, hr1, hr2⟩
 by_cases hr : r < 0
 ·clear hr2
  go_wp2
  go_ret
  exact ⟨(belowRefl w).alloc (Nat.le_refl _) _, -1, rfl, by omega, fun h => by omega⟩
 ·have hr' : ¬ r < 0 := hr
  have HF := hr2 (by omega)
  have HF1 : Hid ((ss.length : Int) ≤ 1048576 ∧ ∀ s ∈ ss, s.size ≤ 1048576) := HF
  clear hr2 HF
  go_wp2_with fail
  refine (sz79b ps a2 c2 hm HLP.out r (by omega) hr1 _ (HP.out.below ((belowRefl w).alloc (Nat.le_refl _) _))).mono ?_
  rintro e w2 ⟨hb2, r2, rfl, hu3, hr3⟩
  have HB2 : Hid (Below w.heap.size w w2) := ((belowRefl w).alloc (Nat.le_refl _) _).trans (hb2.mono (by simp))
  clear hb2
  by_cases hq : r2 < 0
  ·clear hr3
   go_wp2
   go_ret
   exact ⟨HB2.out, -1, rfl, by omega, fun h => by omega⟩
  ·have hq' : ¬ r2 < 0 := hq
   have HF2 : Hid ((ps.length : Int) ≤ 1048576 ∧ PFits ps) := hr3 (by omega)
   clear hr3
   go_wp2
   go_ret
   exact ⟨HB2.out, r2, rfl, hu3, fun _ => ⟨by have := HF1.out.1; omega, by have := HF2.out.1; omega, HF1.out.2, HF2.out.2⟩⟩
set_option maxRecDepth 100000 in
set_option maxHeartbeats 2000000 in
theorem szS2 (s : St) (L : Int) (h0 : 0 ≤ L) (h1 : L ≤ 1048576) (w : World) (hp : StArg w s) :
  Calls Tryz.prog 5 #[.agg #[.slice s.e.b.va s.e.b.vs.length s.e.b.vc, .slice s.e.b.pa s.e.b.ps.length s.e.b.pc, .slice s.e.b.qa s.e.b.qs.length s.e.b.qc, .int .i64 s.e.b.cs, .int .i64 s.e.b.nx, .slice s.e.oa s.e.os.length s.e.oc, .slice s.d.sa s.d.ss.length s.d.sc, .slice s.d.pa s.d.ps.length s.d.pc], .int .i64 L] w fun ex w' => Below w.heap.size w w' ∧ ∃ q : Int, ex = .returned (.int .i64 q) ∧ q ≤ 1048576 ∧ (0 ≤ q → StFit s) := by
 have HP : Hid (StArg w s) := hp
 clear hp
 have BX0 : Hid (Bx (w.alloc (.cells #[.slice s.e.b.va s.e.b.vs.length s.e.b.vc, .slice s.e.b.pa s.e.b.ps.length s.e.b.pc, .slice s.e.b.qa s.e.b.qs.length s.e.b.qc, .int .i64 s.e.b.cs, .int .i64 s.e.b.nx, .slice s.e.oa s.e.os.length s.e.oc, .slice s.d.sa s.d.ss.length s.d.sc, .slice s.d.pa s.d.ps.length s.d.pc] 33)) w.heap.size [.slice s.e.b.va s.e.b.vs.length s.e.b.vc, .slice s.e.b.pa s.e.b.ps.length s.e.b.pc, .slice s.e.b.qa s.e.b.qs.length s.e.b.qc, .int .i64 s.e.b.cs, .int .i64 s.e.b.nx, .slice s.e.oa s.e.os.length s.e.oc, .slice s.d.sa s.d.ss.length s.d.sc, .slice s.d.pa s.d.ps.length s.d.pc]) := Bx.new w [.slice s.e.b.va s.e.b.vs.length s.e.b.vc, .slice s.e.b.pa s.e.b.ps.length s.e.b.pc, .slice s.e.b.qa s.e.b.qs.length s.e.b.qc, .int .i64 s.e.b.cs, .int .i64 s.e.b.nx, .slice s.e.oa s.e.os.length s.e.oc, .slice s.d.sa s.d.ss.length s.d.sc, .slice s.d.pa s.d.ps.length s.d.pc] 33
 have HB0 : Hid (Below w.heap.size w (w.alloc (.cells #[.slice s.e.b.va s.e.b.vs.length s.e.b.vc, .slice s.e.b.pa s.e.b.ps.length s.e.b.pc, .slice s.e.b.qa s.e.b.qs.length s.e.b.qc, .int .i64 s.e.b.cs, .int .i64 s.e.b.nx, .slice s.e.oa s.e.os.length s.e.oc, .slice s.d.sa s.d.ss.length s.d.sc, .slice s.d.pa s.d.ps.length s.d.pc] 33))) := (belowRefl w).alloc (Nat.le_refl _) _
 go_enter Tryz.func5, Tryz.ntmps5
 go_wp2_with fail
 refine (szE s.e L h0 h1 _ (HP.out.e.below HB0.out)).mono ?_
 rintro ex w1 ⟨hb1, r0, rfl, hu0, hr0⟩
 have HR0 : Hid (0 ≤ r0 → EnFit s.e) := hr0
 have HB1 : Hid (Below w.heap.size w w1) := HB0.out.trans (hb1.mono HB0.out.size)
 have BX1 : Hid (Bx w1 w.heap.size [.slice s.e.b.va s.e.b.vs.length s.e.b.vc, .slice s.e.b.pa s.e.b.ps.length s.e.b.pc, .slice s.e.b.qa s.e.b.qs.length s.e.b.qc, .int .i64 s.e.b.cs, .int .i64 s.e.b.nx, .slice s.e.oa s.e.os.length s.e.oc, .slice s.d.sa s.d.ss.length s.d.sc, .slice s.d.pa s.d.ps.length s.d.pc]) := BX0.out.below hb1
 clear hb1 hr0 BX0
 by_cases hn0 : r0 < 0
 ·go_wp2
  go_ret
  exact ⟨HB1.out, -1, rfl, by omega, fun h => by omega⟩
 have x6 := BX1.out.c6
 have x7 := BX1.out.c7
 go_wp2_with fail
 refine (sz43b s.d.ss s.d.ps s.d.sa s.d.pa s.d.sc s.d.pc HP.out.d.sl HP.out.d.st HP.out.d.pl HP.out.d.pt r0 (by omega) hu0 _ (HP.out.d.rows.s.below HB1.out) (HP.out.d.rows.p.below HB1.out)).mono ?_
 rintro ex w2 ⟨hb2, r1, rfl, hu1, hr1⟩
 have HR1 : Hid (0 ≤ r1 → Fits s.d.ss s.d.ps) := hr1
 have HB2 : Hid (Below w.heap.size w w2) := HB1.out.trans (hb2.mono HB1.out.size)
 clear hb2 hr1 x6 x7
 by_cases hn3 : r1 < 0
 ·go_wp2
  go_ret
  exact ⟨HB2.out, -1, rfl, by omega, fun h => by omega⟩
 have HT : Hid (StFit s) := ⟨HR0.out (by omega), HR1.out (by omega)⟩
 go_wp2
 go_ret
 exact ⟨HB2.out, _, rfl, hu1, fun _ => HT.out⟩

end Go.Proofs.YtjieojfcmigcdaaGreatDoor

namespace Go.Proofs.YtjieojfcmigcdaaGreatDoor
open Go.RowKit
open KM
open VM
attribute [local go_sem ↓] Go.wp_at_zero Go.wp_at_succ

theorem st_same {s c : St} (h : StSame s c) : stL c = stL s := by
 unfold stL
 rw [h.e.b.v, h.e.b.cs, h.e.ol, h.e.b.ql]

set_option maxRecDepth 100000 in
set_option maxHeartbeats 4000000 in
theorem law3 (x : St) (hc : -9223372036854775808 ≤ x.e.b.cs ∧ x.e.b.cs ≤ 9223372036854775807) (w : World) (hpe : StArg w x) (ht : Tab w) :
  Calls Tryz.prog 3 #[.agg #[.slice x.e.b.va x.e.b.vs.length x.e.b.vc, .slice x.e.b.pa x.e.b.ps.length x.e.b.pc, .slice x.e.b.qa x.e.b.qs.length x.e.b.qc, .int .i64 x.e.b.cs, .int .i64 x.e.b.nx, .slice x.e.oa x.e.os.length x.e.oc, .slice x.d.sa x.d.ss.length x.d.sc, .slice x.d.pa x.d.ps.length x.d.pc]] w fun e w' => e = .returned (.bool true) ∧ Below w.heap.size w w' := by
 have HP : Hid (StArg w x) := hpe
 have HC := hide hc
 have HT := hide ht
 clear hpe hc ht
 have BX : Hid (Bx (w.alloc (.cells #[.slice x.e.b.va x.e.b.vs.length x.e.b.vc, .slice x.e.b.pa x.e.b.ps.length x.e.b.pc, .slice x.e.b.qa x.e.b.qs.length x.e.b.qc, .int .i64 x.e.b.cs, .int .i64 x.e.b.nx, .slice x.e.oa x.e.os.length x.e.oc, .slice x.d.sa x.d.ss.length x.d.sc, .slice x.d.pa x.d.ps.length x.d.pc] 33)) w.heap.size [.slice x.e.b.va x.e.b.vs.length x.e.b.vc, .slice x.e.b.pa x.e.b.ps.length x.e.b.pc, .slice x.e.b.qa x.e.b.qs.length x.e.b.qc, .int .i64 x.e.b.cs, .int .i64 x.e.b.nx, .slice x.e.oa x.e.os.length x.e.oc, .slice x.d.sa x.d.ss.length x.d.sc, .slice x.d.pa x.d.ps.length x.d.pc]) := Bx.new w [.slice x.e.b.va x.e.b.vs.length x.e.b.vc, .slice x.e.b.pa x.e.b.ps.length x.e.b.pc, .slice x.e.b.qa x.e.b.qs.length x.e.b.qc, .int .i64 x.e.b.cs, .int .i64 x.e.b.nx, .slice x.e.oa x.e.os.length x.e.oc, .slice x.d.sa x.d.ss.length x.d.sc, .slice x.d.pa x.d.ps.length x.d.pc] 33
 have HB : Hid (Below w.heap.size w (w.alloc (.cells #[.slice x.e.b.va x.e.b.vs.length x.e.b.vc, .slice x.e.b.pa x.e.b.ps.length x.e.b.pc, .slice x.e.b.qa x.e.b.qs.length x.e.b.qc, .int .i64 x.e.b.cs, .int .i64 x.e.b.nx, .slice x.e.oa x.e.os.length x.e.oc, .slice x.d.sa x.d.ss.length x.d.sc, .slice x.d.pa x.d.ps.length x.d.pc] 33))) := (belowRefl w).alloc (Nat.le_refl _) _
 have CT := hide (fun (hf : StFit x) (W : World) (h : Below w.heap.size w W) => toS x hf W (HP.out.rows.below h))
 go_enter Tryz.func3, Tryz.ntmps3
 go_upto_region 2 with fail
 generalize (w.alloc (.cells #[.slice x.e.b.va x.e.b.vs.length x.e.b.vc, .slice x.e.b.pa x.e.b.ps.length x.e.b.pc, .slice x.e.b.qa x.e.b.qs.length x.e.b.qc, .int .i64 x.e.b.cs, .int .i64 x.e.b.nx, .slice x.e.oa x.e.os.length x.e.oc, .slice x.d.sa x.d.ss.length x.d.sc, .slice x.d.pa x.d.ps.length x.d.pc] 33)) = w0 at *
 have p0 := BX.out.at' 0 (by simp)
 have p1 := BX.out.at' 1 (by simp)
 have p2 := BX.out.at' 2 (by simp)
 have p3 := BX.out.at' 3 (by simp)
 have p4 := BX.out.at' 4 (by simp)
 have p5 := BX.out.at' 5 (by simp)
 have p6 := BX.out.at' 6 (by simp)
 have p7 := BX.out.at' 7 (by simp)
 go_wp2_with fail
 refine (szS2 x 1048576 (by omega) (by omega) _ (HP.out.below HB.out)).mono ?_
 rintro e w1 ⟨hb, r, rfl, _, hr⟩
 have HR := hide hr
 replace HB : Hid (Below w.heap.size w w1) := HB.out.trans (hb.mono HB.out.size)
 replace BX : Hid (Bx w1 w.heap.size [.slice x.e.b.va x.e.b.vs.length x.e.b.vc, .slice x.e.b.pa x.e.b.ps.length x.e.b.pc, .slice x.e.b.qa x.e.b.qs.length x.e.b.qc, .int .i64 x.e.b.cs, .int .i64 x.e.b.nx, .slice x.e.oa x.e.os.length x.e.oc, .slice x.d.sa x.d.ss.length x.d.sc, .slice x.d.pa x.d.ps.length x.d.pc]) := BX.out.below hb
 clear hb hr
 clear p0 p1 p2 p3 p4 p5 p6 p7
 by_cases hn : r < 0
 ·go_wp2
  go_ret
  exact ⟨rfl, HB.out⟩
 have HF : Hid (StFit x) := HR.out (by omega)
 have p0 := BX.out.at' 0 (by simp)
 have p1 := BX.out.at' 1 (by simp)
 have p2 := BX.out.at' 2 (by simp)
 have p3 := BX.out.at' 3 (by simp)
 have p4 := BX.out.at' 4 (by simp)
 have p5 := BX.out.at' 5 (by simp)
 have p6 := BX.out.at' 6 (by simp)
 have p7 := BX.out.at' 7 (by simp)
 go_wp2_with fail
 refine (CT.out HF.out _ HB.out).mono ?_
 rintro e w2 ⟨c, rfl, hsm, hrw0, hb⟩
 have hrw := hrw0.rows
 clear hrw0
 have HS := hide hsm
 have RC := hide hrw
 replace HB : Hid (Below w.heap.size w w2) := HB.out.trans (hb.mono HB.out.size)
 replace BX : Hid (Bx w2 w.heap.size [.slice x.e.b.va x.e.b.vs.length x.e.b.vc, .slice x.e.b.pa x.e.b.ps.length x.e.b.pc, .slice x.e.b.qa x.e.b.qs.length x.e.b.qc, .int .i64 x.e.b.cs, .int .i64 x.e.b.nx, .slice x.e.oa x.e.os.length x.e.oc, .slice x.d.sa x.d.ss.length x.d.sc, .slice x.d.pa x.d.ps.length x.d.pc]) := BX.out.below hb
 clear hb hsm hrw
 clear p0 p1 p2 p3 p4 p5 p6 p7
 go_wp2_with fail
 refine (sshowS c (HS.out.fit HF.out) (by rw [HS.out.e.b.cs]; exact HC.out.1) (by rw [HS.out.e.b.cs]; exact HC.out.2) _ RC.out.e.b.v).mono ?_
 rintro e w3 ⟨rfl, hb⟩
 rw [st_same HS.out]
 replace HB : Hid (Below w.heap.size w w3) := HB.out.trans (hb.mono HB.out.size)
 replace BX : Hid (Bx w3 w.heap.size [.slice x.e.b.va x.e.b.vs.length x.e.b.vc, .slice x.e.b.pa x.e.b.ps.length x.e.b.pc, .slice x.e.b.qa x.e.b.qs.length x.e.b.qc, .int .i64 x.e.b.cs, .int .i64 x.e.b.nx, .slice x.e.oa x.e.os.length x.e.oc, .slice x.d.sa x.d.ss.length x.d.sc, .slice x.d.pa x.d.ps.length x.d.pc]) := BX.out.below hb
 clear hb HS RC
 obtain ⟨r0, hr0⟩ : ∃ r0 : ByteArray, r0 = ⟨(stL x).toArray⟩ := ⟨_, rfl⟩
 have HR0 : Hid (r0 = ⟨(stL x).toArray⟩) := hr0
 rw [← hr0]
 clear hr0
 have p0 := BX.out.at' 0 (by simp)
 have p1 := BX.out.at' 1 (by simp)
 have p2 := BX.out.at' 2 (by simp)
 have p3 := BX.out.at' 3 (by simp)
 have p4 := BX.out.at' 4 (by simp)
 have p5 := BX.out.at' 5 (by simp)
 have p6 := BX.out.at' 6 (by simp)
 have p7 := BX.out.at' 7 (by simp)
 go_wp2_with fail
 refine (CT.out HF.out _ HB.out).mono ?_
 rintro e w4 ⟨k, rfl, hsm, hrw0, hb⟩
 have hrw := hrw0.rows
 clear hrw0
 have HS := hide hsm
 have RQ := hide hrw
 replace HB : Hid (Below w.heap.size w w4) := HB.out.trans (hb.mono HB.out.size)
 replace BX : Hid (Bx w4 w.heap.size [.slice x.e.b.va x.e.b.vs.length x.e.b.vc, .slice x.e.b.pa x.e.b.ps.length x.e.b.pc, .slice x.e.b.qa x.e.b.qs.length x.e.b.qc, .int .i64 x.e.b.cs, .int .i64 x.e.b.nx, .slice x.e.oa x.e.os.length x.e.oc, .slice x.d.sa x.d.ss.length x.d.sc, .slice x.d.pa x.d.ps.length x.d.pc]) := BX.out.below hb
 clear hb hsm hrw
 clear p0 p1 p2 p3 p4 p5 p6 p7
 have BK : Hid (Bx (w4.alloc (.cells #[.slice k.e.b.va k.e.b.vs.length k.e.b.vc, .slice k.e.b.pa k.e.b.ps.length k.e.b.pc, .slice k.e.b.qa k.e.b.qs.length k.e.b.qc, .int .i64 k.e.b.cs, .int .i64 k.e.b.nx, .slice k.e.oa k.e.os.length k.e.oc, .slice k.d.sa k.d.ss.length k.d.sc, .slice k.d.pa k.d.ps.length k.d.pc] 46)) w4.heap.size [.slice k.e.b.va k.e.b.vs.length k.e.b.vc, .slice k.e.b.pa k.e.b.ps.length k.e.b.pc, .slice k.e.b.qa k.e.b.qs.length k.e.b.qc, .int .i64 k.e.b.cs, .int .i64 k.e.b.nx, .slice k.e.oa k.e.os.length k.e.oc, .slice k.d.sa k.d.ss.length k.d.sc, .slice k.d.pa k.d.ps.length k.d.pc]) := Bx.new w4 [.slice k.e.b.va k.e.b.vs.length k.e.b.vc, .slice k.e.b.pa k.e.b.ps.length k.e.b.pc, .slice k.e.b.qa k.e.b.qs.length k.e.b.qc, .int .i64 k.e.b.cs, .int .i64 k.e.b.nx, .slice k.e.oa k.e.os.length k.e.oc, .slice k.d.sa k.d.ss.length k.d.sc, .slice k.d.pa k.d.ps.length k.d.pc] 46
 have hba : Below w4.heap.size w4 (w4.alloc (.cells #[.slice k.e.b.va k.e.b.vs.length k.e.b.vc, .slice k.e.b.pa k.e.b.ps.length k.e.b.pc, .slice k.e.b.qa k.e.b.qs.length k.e.b.qc, .int .i64 k.e.b.cs, .int .i64 k.e.b.nx, .slice k.e.oa k.e.os.length k.e.oc, .slice k.d.sa k.d.ss.length k.d.sc, .slice k.d.pa k.d.ps.length k.d.pc] 46)) := (belowRefl w4).alloc (Nat.le_refl _) _
 replace HB : Hid (Below w.heap.size w (w4.alloc (.cells #[.slice k.e.b.va k.e.b.vs.length k.e.b.vc, .slice k.e.b.pa k.e.b.ps.length k.e.b.pc, .slice k.e.b.qa k.e.b.qs.length k.e.b.qc, .int .i64 k.e.b.cs, .int .i64 k.e.b.nx, .slice k.e.oa k.e.os.length k.e.oc, .slice k.d.sa k.d.ss.length k.d.sc, .slice k.d.pa k.d.ps.length k.d.pc] 46))) := HB.out.trans (hba.mono HB.out.size)
 replace BX : Hid (Bx (w4.alloc (.cells #[.slice k.e.b.va k.e.b.vs.length k.e.b.vc, .slice k.e.b.pa k.e.b.ps.length k.e.b.pc, .slice k.e.b.qa k.e.b.qs.length k.e.b.qc, .int .i64 k.e.b.cs, .int .i64 k.e.b.nx, .slice k.e.oa k.e.os.length k.e.oc, .slice k.d.sa k.d.ss.length k.d.sc, .slice k.d.pa k.d.ps.length k.d.pc] 46)) w.heap.size [.slice x.e.b.va x.e.b.vs.length x.e.b.vc, .slice x.e.b.pa x.e.b.ps.length x.e.b.pc, .slice x.e.b.qa x.e.b.qs.length x.e.b.qc, .int .i64 x.e.b.cs, .int .i64 x.e.b.nx, .slice x.e.oa x.e.os.length x.e.oc, .slice x.d.sa x.d.ss.length x.d.sc, .slice x.d.pa x.d.ps.length x.d.pc]) := BX.out.below hba
 replace RQ : Hid (StRows (w4.alloc (.cells #[.slice k.e.b.va k.e.b.vs.length k.e.b.vc, .slice k.e.b.pa k.e.b.ps.length k.e.b.pc, .slice k.e.b.qa k.e.b.qs.length k.e.b.qc, .int .i64 k.e.b.cs, .int .i64 k.e.b.nx, .slice k.e.oa k.e.os.length k.e.oc, .slice k.d.sa k.d.ss.length k.d.sc, .slice k.d.pa k.d.ps.length k.d.pc] 46)) k) := RQ.out.below hba
 clear hba
 go_upto_region 7 with fail
 generalize (w4.alloc (.cells #[.slice k.e.b.va k.e.b.vs.length k.e.b.vc, .slice k.e.b.pa k.e.b.ps.length k.e.b.pc, .slice k.e.b.qa k.e.b.qs.length k.e.b.qc, .int .i64 k.e.b.cs, .int .i64 k.e.b.nx, .slice k.e.oa k.e.os.length k.e.oc, .slice k.d.sa k.d.ss.length k.d.sc, .slice k.d.pa k.d.ps.length k.d.pc] 46)) = w5 at *
 have q0 := BK.out.at' 0 (by simp)
 have q1 := BK.out.at' 1 (by simp)
 have q2 := BK.out.at' 2 (by simp)
 have q3 := BK.out.at' 3 (by simp)
 have q4 := BK.out.at' 4 (by simp)
 have q5 := BK.out.at' 5 (by simp)
 have q6 := BK.out.at' 6 (by simp)
 have q7 := BK.out.at' 7 (by simp)
 go_wp2_with fail
 refine (ishowS k (HS.out.fit HF.out) (by rw [HS.out.e.b.cs]; exact HC.out.1) (by rw [HS.out.e.b.cs]; exact HC.out.2) _ RQ.out.e.b.v (HT.out.below HB.out)).mono ?_
 rintro e w6 ⟨rfl, hb⟩
 rw [st_same HS.out, ← HR0.out]
 replace HB : Hid (Below w.heap.size w w6) := HB.out.trans (hb.mono HB.out.size)
 replace BX : Hid (Bx w6 w.heap.size [.slice x.e.b.va x.e.b.vs.length x.e.b.vc, .slice x.e.b.pa x.e.b.ps.length x.e.b.pc, .slice x.e.b.qa x.e.b.qs.length x.e.b.qc, .int .i64 x.e.b.cs, .int .i64 x.e.b.nx, .slice x.e.oa x.e.os.length x.e.oc, .slice x.d.sa x.d.ss.length x.d.sc, .slice x.d.pa x.d.ps.length x.d.pc]) := BX.out.below hb
 replace BK : Hid (Bx w6 w4.heap.size [.slice k.e.b.va k.e.b.vs.length k.e.b.vc, .slice k.e.b.pa k.e.b.ps.length k.e.b.pc, .slice k.e.b.qa k.e.b.qs.length k.e.b.qc, .int .i64 k.e.b.cs, .int .i64 k.e.b.nx, .slice k.e.oa k.e.os.length k.e.oc, .slice k.d.sa k.d.ss.length k.d.sc, .slice k.d.pa k.d.ps.length k.d.pc]) := BK.out.below hb
 replace RQ : Hid (StRows w6 k) := RQ.out.below hb
 clear hb
 clear q0 q1 q2 q3 q4 q5 q6 q7
 go_upto_region 10 with fail
 refine wp_region_held_drew (S := fun w' => w'.cell? ⟨w4.heap.size, 0, none⟩ = some (.slice k.e.b.va k.e.b.vs.length k.e.b.vc) ∧ w'.cell? ⟨w4.heap.size, 1, none⟩ = some (.slice k.e.b.pa k.e.b.ps.length k.e.b.pc) ∧ w'.cell? ⟨w4.heap.size, 2, none⟩ = some (.slice k.e.b.qa k.e.b.qs.length k.e.b.qc) ∧ w'.cell? ⟨w4.heap.size, 3, none⟩ = some (.int .i64 k.e.b.cs) ∧ w'.cell? ⟨w4.heap.size, 4, none⟩ = some (.int .i64 k.e.b.nx) ∧ w'.cell? ⟨w4.heap.size, 5, none⟩ = some (.slice k.e.oa k.e.os.length k.e.oc) ∧ w'.cell? ⟨w4.heap.size, 6, none⟩ = some (.slice k.d.sa k.d.ss.length k.d.sc) ∧ w'.cell? ⟨w4.heap.size, 7, none⟩ = some (.slice k.d.pa k.d.ps.length k.d.pc) ∧ w'.cell? ⟨w.heap.size, 0, none⟩ = some (.slice x.e.b.va x.e.b.vs.length x.e.b.vc) ∧ w'.cell? ⟨w.heap.size, 1, none⟩ = some (.slice x.e.b.pa x.e.b.ps.length x.e.b.pc) ∧ w'.cell? ⟨w.heap.size, 2, none⟩ = some (.slice x.e.b.qa x.e.b.qs.length x.e.b.qc) ∧ w'.cell? ⟨w.heap.size, 3, none⟩ = some (.int .i64 x.e.b.cs) ∧ w'.cell? ⟨w.heap.size, 4, none⟩ = some (.int .i64 x.e.b.nx) ∧ w'.cell? ⟨w.heap.size, 5, none⟩ = some (.slice x.e.oa x.e.os.length x.e.oc) ∧ w'.cell? ⟨w.heap.size, 6, none⟩ = some (.slice x.d.sa x.d.ss.length x.d.sc) ∧ w'.cell? ⟨w.heap.size, 7, none⟩ = some (.slice x.d.pa x.d.ps.length x.d.pc)) (by kernel_rfl) ⟨BK.out.at' 0 (by simp), BK.out.at' 1 (by simp), BK.out.at' 2 (by simp), BK.out.at' 3 (by simp), BK.out.at' 4 (by simp), BK.out.at' 5 (by simp), BK.out.at' 6 (by simp), BK.out.at' 7 (by simp), BX.out.at' 0 (by simp), BX.out.at' 1 (by simp), BX.out.at' 2 (by simp), BX.out.at' 3 (by simp), BX.out.at' 4 (by simp), BX.out.at' 5 (by simp), BX.out.at' 6 (by simp), BX.out.at' 7 (by simp)⟩ (fun hHeld => ?_)
 (refine ti 0 ?_; simp only [Act.put, tA, tB, tD, tE, tF])
 (refine ti 1 ?_; simp only [Act.put, tA, tB, tC, tD, tE, tF])
 refine wpAnyH_ready (rs := [2]) (by kernel_rfl) (by simp) ?_
 refine AllReadyH.cons rfl (fun K hK => ?_) AllReadyH.nil
 go_simp
 go_wp2_with fail
 refine (CT.out HF.out _ (HB.out.trans ((belowRefl w6).drew.mono HB.out.size))).mono ?_
 rintro e w7 ⟨j, rfl, hsm, hrw0, hb9⟩
 have hb := undrew hb9
 have hrw := hrw0.rows
 clear hrw0
 have HJ := hide hsm
 have RJ := hide hrw
 replace HB : Hid (Below w.heap.size w w7) := HB.out.trans (hb.mono HB.out.size)
 replace BX : Hid (Bx w7 w.heap.size [.slice x.e.b.va x.e.b.vs.length x.e.b.vc, .slice x.e.b.pa x.e.b.ps.length x.e.b.pc, .slice x.e.b.qa x.e.b.qs.length x.e.b.qc, .int .i64 x.e.b.cs, .int .i64 x.e.b.nx, .slice x.e.oa x.e.os.length x.e.oc, .slice x.d.sa x.d.ss.length x.d.sc, .slice x.d.pa x.d.ps.length x.d.pc]) := BX.out.below hb
 replace BK : Hid (Bx w7 w4.heap.size [.slice k.e.b.va k.e.b.vs.length k.e.b.vc, .slice k.e.b.pa k.e.b.ps.length k.e.b.pc, .slice k.e.b.qa k.e.b.qs.length k.e.b.qc, .int .i64 k.e.b.cs, .int .i64 k.e.b.nx, .slice k.e.oa k.e.os.length k.e.oc, .slice k.d.sa k.d.ss.length k.d.sc, .slice k.d.pa k.d.ps.length k.d.pc]) := BK.out.below hb
 replace RQ : Hid (StRows w7 k) := RQ.out.below hb
 go_wp2_with fail
 refine hK.out _ _ ⟨BK.out.at' 0 (by simp), BK.out.at' 1 (by simp), BK.out.at' 2 (by simp), BK.out.at' 3 (by simp), BK.out.at' 4 (by simp), BK.out.at' 5 (by simp), BK.out.at' 6 (by simp), BK.out.at' 7 (by simp), BX.out.at' 0 (by simp), BX.out.at' 1 (by simp), BX.out.at' 2 (by simp), BX.out.at' 3 (by simp), BX.out.at' 4 (by simp), BX.out.at' 5 (by simp), BX.out.at' 6 (by simp), BX.out.at' 7 (by simp)⟩ (fun hHeld7 => ?_)
 clear hK K hb hb9 hsm hrw
 refine wpAnyH_ready (rs := [3]) (by kernel_rfl) (by simp) ?_
 refine AllReadyH.cons rfl (fun K hK => ?_) AllReadyH.nil
 go_simp
 go_wp2_with fail
 refine (eqS k j (HS.out.symm.trans HJ.out) (HS.out.fit HF.out) _ RQ.out RJ.out).mono ?_
 rintro e w8 ⟨rfl, hb⟩
 replace HB : Hid (Below w.heap.size w w8) := HB.out.trans (hb.mono HB.out.size)
 replace BX : Hid (Bx w8 w.heap.size [.slice x.e.b.va x.e.b.vs.length x.e.b.vc, .slice x.e.b.pa x.e.b.ps.length x.e.b.pc, .slice x.e.b.qa x.e.b.qs.length x.e.b.qc, .int .i64 x.e.b.cs, .int .i64 x.e.b.nx, .slice x.e.oa x.e.os.length x.e.oc, .slice x.d.sa x.d.ss.length x.d.sc, .slice x.d.pa x.d.ps.length x.d.pc]) := BX.out.below hb
 replace BK : Hid (Bx w8 w4.heap.size [.slice k.e.b.va k.e.b.vs.length k.e.b.vc, .slice k.e.b.pa k.e.b.ps.length k.e.b.pc, .slice k.e.b.qa k.e.b.qs.length k.e.b.qc, .int .i64 k.e.b.cs, .int .i64 k.e.b.nx, .slice k.e.oa k.e.os.length k.e.oc, .slice k.d.sa k.d.ss.length k.d.sc, .slice k.d.pa k.d.ps.length k.d.pc]) := BK.out.below hb
 replace RQ : Hid (StRows w8 k) := RQ.out.below hb
 go_wp2_with fail
 refine hK.out _ _ ⟨BK.out.at' 0 (by simp), BK.out.at' 1 (by simp), BK.out.at' 2 (by simp), BK.out.at' 3 (by simp), BK.out.at' 4 (by simp), BK.out.at' 5 (by simp), BK.out.at' 6 (by simp), BK.out.at' 7 (by simp), BX.out.at' 0 (by simp), BX.out.at' 1 (by simp), BX.out.at' 2 (by simp), BX.out.at' 3 (by simp), BX.out.at' 4 (by simp), BX.out.at' 5 (by simp), BX.out.at' 6 (by simp), BX.out.at' 7 (by simp)⟩ (fun hHeld8 => ?_)
 clear hK K hb
 (refine ti 4 ?_; simp only [Act.put, tA, tB, tC, tD, tE, tF])
 refine wpAnyH_done (by kernel_rfl) ?_ _
 go_wp2
 go_ret
 exact ⟨rfl, HB.out⟩
end Go.Proofs.YtjieojfcmigcdaaGreatDoor

/- A store's size, with its bound. -/
import Derived.Test.YtmijppfppigjcaaGreatPd31
import Derived.Test.YtmijppfppigjcaaGreatPd32
import Derived.Test.YtmijppfppigjcaaGreatPd10
import Derived.Test.YtmijppfppigjcaaGreatPd07
import Derived.Test.YtmijppfppigjcaaGreatPd01
import Derived.Deep.AppendLies
import Derived.WalkSpells
import Derived.WalkLawsBesides
import Derived.Deep.QuietTactic
import Derived.BigQuiet
import Derived.Deep.RegionHeld3
import Derived.Deep.DrawnRows
import Derived.Test.YtmijppfppigjcaaGreatPd02
import Derived.Test.YtmijppfppigjcaaGreatPd03
import Derived.Sort.OwnSorted
import Derived.Lib.RowBridge
import Derived.Test.YtmijppfppigjcaaGreatPd04
import Derived.Deep.RegionHeld
import Derived.Maps.OwnSet
import Derived.StringKeys
import Derived.Deep.Cut
import Derived.Test.YtmijppfppigjcaaGreatProg
import Derived.WalkKit
import Derived.Shelf.Small.Strs
import Derived.Shelf.Small.Wraps
import Derived.Shelf.LaysM
import Derived.Shelf.Strconv.Clone
import Derived.Lib.ItoaNum
import Derived.Lib.ItoaLen
import Derived.Test.YtmijppfppigjcaaGreatPd05
namespace Go.Proofs.YtmijppfppigjcaaGreat
open Go.RowKit
open KM
attribute [local go_sem ↓] Go.wp_at_zero Go.wp_at_succ
set_option maxRecDepth 100000 in
set_option maxHeartbeats 1000000 in
theorem sz79b (ps : List Wr) (a : Option Addr) (c : Nat) (hn : ps.length ≤ 9223372036854775807) (hl : ∀ p ∈ ps, p.2.size ≤ 9223372036854775807) (L : Int) (h0 : 0 ≤ L) (h1 : L ≤ 1048576) (w : World) (hp : PRow w a ps) :
  Calls Tryz.prog 46 #[.slice a ps.length c, .int .i64 L] w fun e w' => Below w.heap.size w w' ∧ ∃ r : Int, e = .returned (.int .i64 r) ∧ r ≤ 1048576 ∧ (0 ≤ r → (ps.length : Int) ≤ 1048576 ∧ PFits ps) := by
 have HP : Hid (PRow w a ps) := hp
 have HL : Hid (∀ p ∈ ps, p.2.size ≤ 9223372036854775807) := hl
 clear hp hl
 by_cases hneg : L - (ps.length : Int) < 0
 ·go_enter Tryz.func46, Tryz.ntmps46
  go_wp2
  go_ret
  exact ⟨belowRefl w, -1, rfl, by omega, fun h => by omega⟩
 ·have hneg' : decide (L - (ps.length : Int) < 0) = false := by simpa using hneg
  go_enter Tryz.func46, Tryz.ntmps46
  go_wp2
  go_loopw [1, 5] (fun tl t wr => ∃ (k : Nat) (l : Int), k ≤ ps.length ∧ t = .int .i64 k ∧ tl = .int .i64 l ∧ 0 ≤ l ∧ l ≤ 1048576 ∧ Hid (∀ j (hj : j < ps.length), j < k → ps[j].2.size ≤ 1048576) ∧ Hid (Below w.heap.size w wr)) (fun _ t _ => ps.length - (intOf t).toNat)
  case atStart => exact ⟨0, L - (ps.length : Int), Nat.zero_le _, rfl, rfl, by omega, by omega, fun j hj h => by omega, belowRefl w⟩
  case round =>
   obtain ⟨k, l, hk, rfl, rfl, hl0, hl1, HA, HB⟩ := hrel
   by_cases hlt : k < ps.length
   ·have hlt' : (k : Int) < (ps.length : Int) := by omega
    have hk0 : (0 : Int) ≤ (k : Int) := by omega
    obtain ⟨b, off, rfl, hbl, hc⟩ := (HP.out.below HB.out) (by omega)
    have hck := (hc k hlt).1
    have hcl := (hc k hlt).2
    have hsz := HL.out _ (List.getElem_mem hlt)
    clear hc
    by_cases hn2 : l < (ps[k].2.size : Int)
    ·have HV : Hid (lft l ps[k].2 = -1) := if_pos hn2
     clear hn2
     go_wp2_with fail
     refine (sz88 _ _ hsz l hl0 hl1 _).mono ?_
     rintro e w2 ⟨rfl, hb2⟩
     rw [HV.out]
     have HB2 : Hid (Below w.heap.size w w2) := HB.out.trans (hb2.mono HB.out.size)
     clear hb2
     go_wp2
     go_ret
     exact ⟨HB2.out, -1, rfl, by omega, fun h => by omega⟩
    ·have HV : Hid (lft l ps[k].2 = l - (ps[k].2.size : Int)) := if_neg hn2
     have hn3 : ¬ l - (ps[k].2.size : Int) < 0 := by omega
     have HA2 : Hid (∀ j (hj : j < ps.length), j < k + 1 → ps[j].2.size ≤ 1048576) := fun j hj h => by
      by_cases e : j = k
      ·subst e; omega
      ·exact HA.out j hj (by omega)
     have hl2 : l - (ps[k].2.size : Int) ≤ 1048576 := by omega
     clear hn2
     go_wp2_with fail
     refine (sz88 _ _ hsz l hl0 hl1 _).mono ?_
     rintro e w2 ⟨rfl, hb2⟩
     rw [HV.out]
     have HB2 : Hid (Below w.heap.size w w2) := HB.out.trans (hb2.mono HB.out.size)
     clear hb2
     go_wp2
     go_roundw
     case rel => exact ⟨k + 1, l - (ps[k].2.size : Int), by omega, by go_num, rfl, by omega, hl2, HA2, HB2⟩
     case measure => simp [intOf]; omega
   ·have hlt' : ¬ (k : Int) < (ps.length : Int) := by omega
    have HA2 : Hid (PFits ps) := fun s hs => by
     obtain ⟨j, hj, rfl⟩ := List.getElem_of_mem hs
     exact HA.out j hj (by omega)
    go_wp2
    go_ret
    exact ⟨HB.out, l, rfl, hl1, fun _ => ⟨by omega, HA2.out⟩⟩

set_option maxRecDepth 100000 in
set_option maxHeartbeats 1000000 in
theorem sz43b (ss : List ByteArray) (ps : List Wr) (a1 a2 : Option Addr) (c1 c2 : Nat) (hn : ss.length ≤ 9223372036854775807) (hl : ∀ s ∈ ss, s.size ≤ 9223372036854775807) (hm : ps.length ≤ 9223372036854775807) (hlp : ∀ p ∈ ps, p.2.size ≤ 9223372036854775807) (L : Int) (h0 : 0 ≤ L) (h1 : L ≤ 1048576) (w : World) (hs : SRow w a1 ss) (hp : PRow w a2 ps) :
  Calls Tryz.prog 24 #[.agg #[.slice a1 ss.length c1, .slice a2 ps.length c2], .int .i64 L] w fun e w' => Below w.heap.size w w' ∧ ∃ r : Int, e = .returned (.int .i64 r) ∧ r ≤ 1048576 ∧ (0 ≤ r → Fits ss ps) := by
 have HS : Hid (SRow w a1 ss) := hs
 have HP : Hid (PRow w a2 ps) := hp
 have HL : Hid (∀ s ∈ ss, s.size ≤ 9223372036854775807) := hl
 have HLP : Hid (∀ p ∈ ps, p.2.size ≤ 9223372036854775807) := hlp
 clear hs hp hl hlp
 go_enter Tryz.func24, Tryz.ntmps24
 go_wp2_with fail
 refine (sz78 ss a1 c1 hn HL.out L h0 h1 _ (HS.out.below ((belowRefl w).alloc (Nat.le_refl _) _))).mono ?_
 rintro e w1 ⟨rfl, r, rfl, hr1, hr2⟩
 by_cases hr : r < 0
 ·clear hr2
  go_wp2
  go_ret
  exact ⟨(belowRefl w).alloc (Nat.le_refl _) _, -1, rfl, by omega, fun h => by omega⟩
 ·have hr' : ¬ r < 0 := hr
  have HF := hr2 (by omega)
  have HF1 : Hid ((ss.length : Int) ≤ 1048576 ∧ ∀ s ∈ ss, s.size ≤ 1048576) := HF
  clear hr2 HF
  go_wp2_with fail
  refine (sz79b ps a2 c2 hm HLP.out r (by omega) hr1 _ (HP.out.below ((belowRefl w).alloc (Nat.le_refl _) _))).mono ?_
  rintro e w2 ⟨hb2, r2, rfl, hu3, hr3⟩
  have HB2 : Hid (Below w.heap.size w w2) := ((belowRefl w).alloc (Nat.le_refl _) _).trans (hb2.mono (by simp))
  clear hb2
  by_cases hq : r2 < 0
  ·clear hr3
   go_wp2
   go_ret
   exact ⟨HB2.out, -1, rfl, by omega, fun h => by omega⟩
  ·have hq' : ¬ r2 < 0 := hq
   have HF2 : Hid ((ps.length : Int) ≤ 1048576 ∧ PFits ps) := hr3 (by omega)
   clear hr3
   go_wp2
   go_ret
   exact ⟨HB2.out, r2, rfl, hu3, fun _ => ⟨by have := HF1.out.1; omega, by have := HF2.out.1; omega, HF1.out.2, HF2.out.2⟩⟩
set_option maxRecDepth 100000 in
set_option maxHeartbeats 2000000 in
theorem szS2 (s : St) (L : Int) (h0 : 0 ≤ L) (h1 : L ≤ 1048576) (w : World) (hp : StArg w s) :
  Calls Tryz.prog 9 #[.agg #[.slice s.e.b.va s.e.b.vs.length s.e.b.vc, .slice s.e.b.pa s.e.b.ps.length s.e.b.pc, .slice s.e.b.qa s.e.b.qs.length s.e.b.qc, .int .i64 s.e.b.cs, .int .i64 s.e.b.nx, .slice s.e.oa s.e.os.length s.e.oc, .slice s.d.sa s.d.ss.length s.d.sc, .slice s.d.pa s.d.ps.length s.d.pc], .int .i64 L] w fun ex w' => Below w.heap.size w w' ∧ ∃ q : Int, ex = .returned (.int .i64 q) ∧ q ≤ 1048576 ∧ (0 ≤ q → StFit s) := by
 have HP : Hid (StArg w s) := hp
 clear hp
 have BX0 : Hid (Bx (w.alloc (.cells #[.slice s.e.b.va s.e.b.vs.length s.e.b.vc, .slice s.e.b.pa s.e.b.ps.length s.e.b.pc, .slice s.e.b.qa s.e.b.qs.length s.e.b.qc, .int .i64 s.e.b.cs, .int .i64 s.e.b.nx, .slice s.e.oa s.e.os.length s.e.oc, .slice s.d.sa s.d.ss.length s.d.sc, .slice s.d.pa s.d.ps.length s.d.pc] 33)) w.heap.size [.slice s.e.b.va s.e.b.vs.length s.e.b.vc, .slice s.e.b.pa s.e.b.ps.length s.e.b.pc, .slice s.e.b.qa s.e.b.qs.length s.e.b.qc, .int .i64 s.e.b.cs, .int .i64 s.e.b.nx, .slice s.e.oa s.e.os.length s.e.oc, .slice s.d.sa s.d.ss.length s.d.sc, .slice s.d.pa s.d.ps.length s.d.pc]) := Bx.new w [.slice s.e.b.va s.e.b.vs.length s.e.b.vc, .slice s.e.b.pa s.e.b.ps.length s.e.b.pc, .slice s.e.b.qa s.e.b.qs.length s.e.b.qc, .int .i64 s.e.b.cs, .int .i64 s.e.b.nx, .slice s.e.oa s.e.os.length s.e.oc, .slice s.d.sa s.d.ss.length s.d.sc, .slice s.d.pa s.d.ps.length s.d.pc] 33
 have HB0 : Hid (Below w.heap.size w (w.alloc (.cells #[.slice s.e.b.va s.e.b.vs.length s.e.b.vc, .slice s.e.b.pa s.e.b.ps.length s.e.b.pc, .slice s.e.b.qa s.e.b.qs.length s.e.b.qc, .int .i64 s.e.b.cs, .int .i64 s.e.b.nx, .slice s.e.oa s.e.os.length s.e.oc, .slice s.d.sa s.d.ss.length s.d.sc, .slice s.d.pa s.d.ps.length s.d.pc] 33))) := (belowRefl w).alloc (Nat.le_refl _) _
 go_enter Tryz.func9, Tryz.ntmps9
 go_wp2_with fail
 refine (szE s.e L h0 h1 _ (HP.out.e.below HB0.out)).mono ?_
 rintro ex w1 ⟨hb1, r0, rfl, hu0, hr0⟩
 have HR0 : Hid (0 ≤ r0 → EnFit s.e) := hr0
 have HB1 : Hid (Below w.heap.size w w1) := HB0.out.trans (hb1.mono HB0.out.size)
 have BX1 : Hid (Bx w1 w.heap.size [.slice s.e.b.va s.e.b.vs.length s.e.b.vc, .slice s.e.b.pa s.e.b.ps.length s.e.b.pc, .slice s.e.b.qa s.e.b.qs.length s.e.b.qc, .int .i64 s.e.b.cs, .int .i64 s.e.b.nx, .slice s.e.oa s.e.os.length s.e.oc, .slice s.d.sa s.d.ss.length s.d.sc, .slice s.d.pa s.d.ps.length s.d.pc]) := BX0.out.below hb1
 clear hb1 hr0 BX0
 by_cases hn0 : r0 < 0
 ·go_wp2
  go_ret
  exact ⟨HB1.out, -1, rfl, by omega, fun h => by omega⟩
 have x6 := BX1.out.c6
 have x7 := BX1.out.c7
 go_wp2_with fail
 refine (sz43b s.d.ss s.d.ps s.d.sa s.d.pa s.d.sc s.d.pc HP.out.d.sl HP.out.d.st HP.out.d.pl HP.out.d.pt r0 (by omega) hu0 _ (HP.out.d.rows.s.below HB1.out) (HP.out.d.rows.p.below HB1.out)).mono ?_
 rintro ex w2 ⟨hb2, r1, rfl, hu1, hr1⟩
 have HR1 : Hid (0 ≤ r1 → Fits s.d.ss s.d.ps) := hr1
 have HB2 : Hid (Below w.heap.size w w2) := HB1.out.trans (hb2.mono HB1.out.size)
 clear hb2 hr1 x6 x7
 by_cases hn3 : r1 < 0
 ·go_wp2
  go_ret
  exact ⟨HB2.out, -1, rfl, by omega, fun h => by omega⟩
 have HT : Hid (StFit s) := ⟨HR0.out (by omega), HR1.out (by omega)⟩
 go_wp2
 go_ret
 exact ⟨HB2.out, _, rfl, hu1, fun _ => HT.out⟩

end Go.Proofs.YtmijppfppigjcaaGreat

namespace Go.Proofs.YtmijppfppigjcaaGreat
open Go.RowKit
open KM
attribute [local go_sem ↓] Go.wp_at_zero Go.wp_at_succ

theorem own_int {W : World} {base g cap n : Nat} {l : List Int} (h : GOwn encI 3 W base (.slice (some ⟨g, 0, none⟩) n cap) l) (hn : n = l.length) (i : Nat) (x : Int) :
  GOwn encI 3 (W.setCell ⟨g, i, none⟩ (.int .i64 x)) base (.slice (some ⟨g, 0, none⟩) n cap) (l.set i x) := by
 have hc : encI.cells (l.set i x) = (encI.cells l).set i (.int .i64 x) := by
  have e : ∀ ys : List Int, encI.cells ys = ys.map (fun y => Value.int .i64 y) := fun ys => by
   induction ys with
   | nil => rfl
   | cons y ys ih =>
    simp [Enc.cells, encI] at ih ⊢
    exact ih
  rw [e, e, List.map_set]
 subst hn
 unfold GOwn
 rw [hc, List.length_set]
 exact (World.ownsRow.stored h i _).1
theorem own_fz {W : World} {base g cap n : Nat} {l : List Int} (h : GOwn encI 3 W base (.slice (some ⟨g, 0, none⟩) n cap) l) (hn : n = l.length) (k : Nat) : W.frozen? ⟨g, k, none⟩ = false := by
 subst hn
 exact World.ownsRow.frozenAt h k
theorem own_at {W : World} {base g cap n : Nat} {l : List Int} (h : GOwn encI 3 W base (.slice (some ⟨g, 0, none⟩) n cap) l) (hn : n = l.length) (k : Nat) (hk : k < l.length) : W.cell? ⟨g, k, none⟩ = some (.int .i64 l[k]) := by
 subst hn
 obtain ⟨b, o, hbo, _, hc⟩ := h.grow (by omega)
 cases hbo
 have := iat hc k hk
 simpa using this

end Go.Proofs.YtmijppfppigjcaaGreat

namespace Go.Proofs.YtmijppfppigjcaaGreat
open Go.RowKit
open KM
attribute [local go_sem ↓] Go.wp_at_zero Go.wp_at_succ

theorem encI_cells (ys : List Int) : encI.cells ys = ys.map (fun y => Value.int .i64 y) := by
 induction ys with
 | nil => rfl
 | cons y ys ih =>
  simp [Enc.cells, encI] at ih ⊢
  exact ih
theorem own_zeros (w : World) (n : Nat) (hn : n ≤ 1048576) : GOwn encI 3 (w.alloc (.cells (madeCells (Value.int .i64 0).cells (n * 1)) 3)) w.heap.size (.slice (some ⟨w.heap.size, 0, none⟩) n n) (List.replicate n 0) := by
 have h := World.ownsRow_lit (size := 1) (e := 3) w (madeCells (Value.int .i64 0).cells (n * 1)) n (Nat.le_refl _) (by unfold maxLen; omega) (by rw [size_madeCells])
 unfold GOwn
 rw [List.length_replicate, encI_cells]
 have e : (madeCells (Value.int .i64 0).cells (n * 1)).toList = (List.replicate n (0 : Int)).map (fun y => Value.int .i64 y) := by
  have : (Value.int .i64 0).cells = #[Value.int .i64 0] := rfl
  rw [Nat.mul_one, this, toList_madeCells_one]
  simp
 rw [← e]
 exact h

end Go.Proofs.YtmijppfppigjcaaGreat

namespace Go.Proofs.YtmijppfppigjcaaGreat
open Go.RowKit
open KM
attribute [local go_sem ↓] Go.wp_at_zero Go.wp_at_succ

set_option maxRecDepth 100000 in
set_option maxHeartbeats 2000000 in
theorem eqI (xs : List Int) (a1 a2 : Option Addr) (c1 c2 n : Nat) (hx : n = xs.length) (hn : n ≤ 100000000) (w : World) (h1 : GRow encI w a1 xs) (h2 : GRow encI w a2 xs) :
  Calls Tryz.prog 21 #[.slice a1 n c1, .slice a2 n c2] w fun e w' => e = .returned (.bool true) ∧ Below w.heap.size w w' := by
 have H1 : Hid (GRow encI w a1 xs) := h1
 have H2 : Hid (GRow encI w a2 xs) := h2
 have HX : Hid (n = xs.length) := hx
 clear h1 h2 hx
 go_enter Tryz.func21, Tryz.ntmps21
 go_wp2
 go_loopw [5] (fun t wr => ∃ k : Nat, k ≤ n ∧ t = .int .i64 k ∧ Hid (Below w.heap.size w wr)) (fun t _ => n - (intOf t).toNat)
 case atStart => exact ⟨0, Nat.zero_le _, rfl, belowRefl w⟩
 case round =>
  obtain ⟨k, hk, rfl, HB⟩ := hrel
  by_cases hlt : k < n
  ·have hlt' : (k : Int) < (n : Int) := by omega
   have hk0 : (0 : Int) ≤ (k : Int) := by omega
   have hkx : k < xs.length := by rw [← HX.out]; exact hlt
   obtain ⟨b, off, rfl, hbl, hc⟩ := (H1.out.below HB.out) (by omega)
   have r0 := iat hc k hkx
   clear hc
   obtain ⟨b2, off2, rfl, hbl2, hc2⟩ := (H2.out.below HB.out) (by omega)
   have q0 := iat hc2 k hkx
   clear hc2
   obtain ⟨x, hx⟩ : ∃ x, x = xs[k] := ⟨_, rfl⟩
   rw [← hx] at r0 q0
   clear hx hkx
   have hxx : (x != x) = false := by simp
   go_wp2
   go_quiet (fail)
   go_wp2
   go_roundw
   case rel => exact ⟨k + 1, by omega, by go_num, below_drewN HB.out _⟩
   case measure => simp [intOf]; omega
  ·have hd : ¬ (k : Int) < (n : Int) := by omega
   go_wp2
   go_ret
   exact ⟨rfl, HB.out⟩
end Go.Proofs.YtmijppfppigjcaaGreat

namespace Go.Proofs.YtmijppfppigjcaaGreat
open Go.RowKit
open KM
attribute [local go_sem ↓] Go.wp_at_zero Go.wp_at_succ

def LFw (ts : List Tx) : Prop := True ∧ ∀ t ∈ ts, TFit t
theorem LFit.w {ts : List Tx} (h : LFit ts) : LFw ts := ⟨trivial, h.2⟩
end Go.Proofs.YtmijppfppigjcaaGreat

namespace Go.Proofs.YtmijppfppigjcaaGreat
open Go.RowKit
open KM
attribute [local go_sem ↓] Go.wp_at_zero Go.wp_at_succ

set_option maxRecDepth 100000 in
set_option maxHeartbeats 4000000 in
theorem toI (xs : List Int) (a : Option Addr) (c n : Nat) (hx : n = xs.length) (hn : n ≤ 1048576) (w : World) (hp : GRow encI w a xs) :
  Calls Tryz.prog 16 #[.slice a n c] w fun e w' => ∃ (a1 : Option Addr) (c1 : Nat), e = .returned (.slice a1 n c1) ∧ GOwn encI 3 w' w.heap.size (.slice a1 n c1) xs ∧ Below w.heap.size w w' := by
 have HP : Hid (GRow encI w a xs) := hp
 have HX : Hid (n = xs.length) := hx
 clear hp hx
 have hmk := mkRow 34 3 1 8 _ Tryz.underlying34 Tryz.info3 n (by omega) (by omega)
 have HZ := hide (own_zeros w n hn)
 go_enter Tryz.func16, Tryz.ntmps16
 go_wp2
 clear hmk
 have HO0 : Hid (GOwn encI 3 (w.alloc (.cells (madeCells #[Value.int .i64 0] n) 3)) w.heap.size (.slice (some ⟨w.heap.size, 0, none⟩) n n) (List.replicate n 0)) := by
  have h := HZ.out; rw [Nat.mul_one] at h; exact h
 clear HZ
 go_loopw [4] (fun t wr => ∃ (k : Nat) (l : List Int), k ≤ n ∧ t = .int .i64 k ∧ Hid (l.length = n) ∧ Hid (GOwn encI 3 wr w.heap.size (.slice (some ⟨w.heap.size, 0, none⟩) n n) l) ∧ Hid (∀ q, q < k → l[q]? = xs[q]?) ∧ Hid (Below w.heap.size w wr)) (fun t _ => n - (intOf t).toNat)
 case atStart => exact ⟨0, _, Nat.zero_le _, rfl, List.length_replicate, HO0, (fun q hq => absurd hq (Nat.not_lt_zero _)), (belowRefl w).alloc (Nat.le_refl _) _⟩
 case round =>
  obtain ⟨k, l, hk, rfl, HL, HO, HA, HB⟩ := hrel
  by_cases hlt : k < n
  ·have hlt' : (k : Int) < (n : Int) := by omega
   have h0 : (0 : Int) ≤ (k : Int) := by omega
   have hkx : k < xs.length := by rw [← HX.out]; exact hlt
   obtain ⟨b, off, rfl, hbl, hc⟩ := (HP.out.below HB.out) (by omega)
   have r0 := iat hc k hkx
   clear hc
   obtain ⟨x, hx⟩ : ∃ x, x = xs[k] := ⟨_, rfl⟩
   rw [← hx] at r0
   have hln : n = l.length := HL.out.symm
   have hkl : k < l.length := by rw [← hln]; exact hlt
   have q0 := own_at HO.out hln k hkl
   obtain ⟨vq, hvq⟩ : ∃ vq, vq = l[k] := ⟨_, rfl⟩
   rw [← hvq] at q0
   have f0 : wr.frozen? ⟨w.heap.size, k, none⟩ = false := own_fz HO.out hln k
   have HO2 : Hid (GOwn encI 3 (wr.setCell ⟨w.heap.size, k, none⟩ (.int .i64 x)) w.heap.size (.slice (some ⟨w.heap.size, 0, none⟩) n n) (l.set k x)) := own_int HO.out hln k x
   have HL2 : Hid ((l.set k x).length = n) := by show _ = _; rw [List.length_set]; exact HL.out
   have HA2 : Hid (∀ q, q < k + 1 → (l.set k x)[q]? = xs[q]?) := fun q hq => by
    rw [List.getElem?_set]
    by_cases hqk : k = q
    ·subst hqk
     rw [if_pos rfl, if_pos hkl, List.getElem?_eq_getElem hkx, hx]
    ·rw [if_neg hqk]
     exact HA.out q (by omega)
   have HB2 : Hid (Below w.heap.size w (wr.setCell ⟨w.heap.size, k, none⟩ (.int .i64 x))) := HB.out.setCell (Nat.le_refl _) _
   clear hvq hx hln hkl HO HL HA HB hkx
   go_wp2
   go_roundw
   case rel => exact ⟨k + 1, _, by omega, by go_num, HL2, HO2, HA2, HB2⟩
   case measure => simp [intOf]; omega
  ·have hd : ¬ (k : Int) < (n : Int) := by omega
   have HE : Hid (GOwn encI 3 wr w.heap.size (.slice (some ⟨w.heap.size, 0, none⟩) n n) xs) := by
    have e : l = xs := by
     apply List.ext_getElem?
     intro q
     by_cases hq : q < k
     ·exact HA.out q hq
     ·rw [List.getElem?_eq_none (by rw [HL.out]; omega), List.getElem?_eq_none (by rw [← HX.out]; omega)]
    have h := HO.out
    rw [e] at h
    exact h
   clear HO HL HA
   go_wp2
   go_ret
   exact ⟨_, _, rfl, HE.out, HB.out⟩
set_option maxRecDepth 100000 in
set_option maxHeartbeats 4000000 in
theorem szI (a : Option Addr) (c n : Nat) (L : Int) (h0 : 0 ≤ L) (hl : L ≤ 1048576) (hn : n ≤ maxLen) (w : World) :
  Calls Tryz.prog 11 #[.slice a n c, .int .i64 L] w fun e w' => ∃ r : Int, e = .returned (.int .i64 r) ∧ (r < 0 ∨ (r = L - n ∧ 0 ≤ r)) ∧ w' = w := by
 unfold maxLen at hn
 have e1 : IntKind.i64.wrap (L - (n : Int)) = L - n := by rw [IntKind.wrap_i64]; omega
 by_cases h1 : L - (n : Int) < 0
 ·go_enter Tryz.func11, Tryz.ntmps11
  go_wp2
  go_ret
  exact ⟨_, rfl, Or.inl (by omega), rfl⟩
 ·have h1' : ¬ L - (n : Int) < 0 := h1
  go_enter Tryz.func11, Tryz.ntmps11
  go_wp2
  go_ret
  exact ⟨_, rfl, Or.inr ⟨rfl, by omega⟩, rfl⟩

end Go.Proofs.YtmijppfppigjcaaGreat

namespace Go.Proofs.YtmijppfppigjcaaGreat
open Go.RowKit
open KM
attribute [local go_sem ↓] Go.wp_at_zero Go.wp_at_succ

structure Wd where
 s : St
 ps : List Ta
 pa : Option Addr
 pc : Nat
 cs : List Int
 ca : Option Addr
 cc : Nat
 ds : List ByteArray
 da : Option Addr
 dc : Nat
structure WdRows (w : World) (x : Wd) : Prop where
 s : StRows w x.s
 p : TRows w x.pa x.ps
 c : GRow encI w x.ca x.cs
 d : SRow w x.da x.ds
theorem WdRows.below {w w' : World} {x : Wd} (h : WdRows w x) (hb : Below w.heap.size w w') : WdRows w' x := ⟨h.s.below hb, h.p.below hb, h.c.below hb, h.d.below hb⟩
structure WdArg (w : World) (x : Wd) : Prop where
 s : StArg w x.s
 p : LArg w x.pa x.ps
 cl : x.cs.length ≤ maxLen
 c : GRow encI w x.ca x.cs
 dl : x.ds.length ≤ 9223372036854775807
 dt : ∀ s ∈ x.ds, s.size ≤ 9223372036854775807
 d : SRow w x.da x.ds
theorem WdArg.below {w w' : World} {x : Wd} (h : WdArg w x) (hb : Below w.heap.size w w') : WdArg w' x := ⟨h.s.below hb, h.p.below hb, h.cl, h.c.below hb, h.dl, h.dt, h.d.below hb⟩
theorem WdArg.rows {w : World} {x : Wd} (h : WdArg w x) : WdRows w x := ⟨h.s.rows, h.p.rows, h.c, h.d⟩
structure WdFit (x : Wd) : Prop where
 s : StFit x.s
 p : LFit (txs x.ps)
 w : wsum (txs x.ps) ≤ 1048576
 c : x.cs.length ≤ 1048576
 dl : (x.ds.length : Int) ≤ 1048576
 dt : ∀ s ∈ x.ds, s.size ≤ 1048576
structure WdSame (x c : Wd) : Prop where
 ws : StSame x.s c.s
 wp : txs c.ps = txs x.ps
 wc : c.cs = x.cs
 wd : c.ds = x.ds
theorem WdSame.pl {x c : Wd} (h : WdSame x c) : c.ps.length = x.ps.length := by rw [← txs_len c.ps, h.wp, txs_len]
theorem WdSame.trans {x c k : Wd} (h : WdSame x c) (q : WdSame c k) : WdSame x k := ⟨h.ws.trans q.ws, q.wp.trans h.wp, q.wc.trans h.wc, q.wd.trans h.wd⟩
theorem WdSame.symm {x c : Wd} (h : WdSame x c) : WdSame c x := ⟨h.ws.symm, h.wp.symm, h.wc.symm, h.wd.symm⟩
theorem WdSame.fit {x c : Wd} (h : WdSame x c) (hf : WdFit x) : WdFit c := ⟨h.ws.fit hf.s, by rw [h.wp]; exact hf.p, by rw [h.wp]; exact hf.w, by rw [h.wc]; exact hf.c, by rw [h.wd]; exact hf.dl, by rw [h.wd]; exact hf.dt⟩
theorem Bx.at11 {w : World} {b : Nat} {x0 x1 x2 x3 x4 x5 x6 x7 x8 x9 x10 : Value} (h : Bx w b [x0, x1, x2, x3, x4, x5, x6, x7, x8, x9, x10]) : w.cell? ⟨b, 8, none⟩ = some x8 ∧ w.cell? ⟨b, 9, none⟩ = some x9 ∧ w.cell? ⟨b, 10, none⟩ = some x10 := ⟨h.at' 8 (by simp), h.at' 9 (by simp), h.at' 10 (by simp)⟩
set_option maxRecDepth 100000 in
set_option maxHeartbeats 4000000 in
theorem szWd (x : Wd) (w : World) (hp : WdArg w x) :
  Calls Tryz.prog 4 #[.agg #[.slice x.s.e.b.va x.s.e.b.vs.length x.s.e.b.vc, .slice x.s.e.b.pa x.s.e.b.ps.length x.s.e.b.pc, .slice x.s.e.b.qa x.s.e.b.qs.length x.s.e.b.qc, .int .i64 x.s.e.b.cs, .int .i64 x.s.e.b.nx, .slice x.s.e.oa x.s.e.os.length x.s.e.oc, .slice x.s.d.sa x.s.d.ss.length x.s.d.sc, .slice x.s.d.pa x.s.d.ps.length x.s.d.pc, .slice x.pa x.ps.length x.pc, .slice x.ca x.cs.length x.cc, .slice x.da x.ds.length x.dc], .int .i64 1048576] w fun ex w' => Below w.heap.size w w' ∧ ∃ q : Int, ex = .returned (.int .i64 q) ∧ (0 ≤ q → WdFit x) := by
 have HP : Hid (WdArg w x) := hp
 clear hp
 have BX0 : Hid (Bx (w.alloc (.cells #[.slice x.s.e.b.va x.s.e.b.vs.length x.s.e.b.vc, .slice x.s.e.b.pa x.s.e.b.ps.length x.s.e.b.pc, .slice x.s.e.b.qa x.s.e.b.qs.length x.s.e.b.qc, .int .i64 x.s.e.b.cs, .int .i64 x.s.e.b.nx, .slice x.s.e.oa x.s.e.os.length x.s.e.oc, .slice x.s.d.sa x.s.d.ss.length x.s.d.sc, .slice x.s.d.pa x.s.d.ps.length x.s.d.pc, .slice x.pa x.ps.length x.pc, .slice x.ca x.cs.length x.cc, .slice x.da x.ds.length x.dc] 36)) w.heap.size [.slice x.s.e.b.va x.s.e.b.vs.length x.s.e.b.vc, .slice x.s.e.b.pa x.s.e.b.ps.length x.s.e.b.pc, .slice x.s.e.b.qa x.s.e.b.qs.length x.s.e.b.qc, .int .i64 x.s.e.b.cs, .int .i64 x.s.e.b.nx, .slice x.s.e.oa x.s.e.os.length x.s.e.oc, .slice x.s.d.sa x.s.d.ss.length x.s.d.sc, .slice x.s.d.pa x.s.d.ps.length x.s.d.pc, .slice x.pa x.ps.length x.pc, .slice x.ca x.cs.length x.cc, .slice x.da x.ds.length x.dc]) := Bx.new w [.slice x.s.e.b.va x.s.e.b.vs.length x.s.e.b.vc, .slice x.s.e.b.pa x.s.e.b.ps.length x.s.e.b.pc, .slice x.s.e.b.qa x.s.e.b.qs.length x.s.e.b.qc, .int .i64 x.s.e.b.cs, .int .i64 x.s.e.b.nx, .slice x.s.e.oa x.s.e.os.length x.s.e.oc, .slice x.s.d.sa x.s.d.ss.length x.s.d.sc, .slice x.s.d.pa x.s.d.ps.length x.s.d.pc, .slice x.pa x.ps.length x.pc, .slice x.ca x.cs.length x.cc, .slice x.da x.ds.length x.dc] 36
 have HB0 : Hid (Below w.heap.size w (w.alloc (.cells #[.slice x.s.e.b.va x.s.e.b.vs.length x.s.e.b.vc, .slice x.s.e.b.pa x.s.e.b.ps.length x.s.e.b.pc, .slice x.s.e.b.qa x.s.e.b.qs.length x.s.e.b.qc, .int .i64 x.s.e.b.cs, .int .i64 x.s.e.b.nx, .slice x.s.e.oa x.s.e.os.length x.s.e.oc, .slice x.s.d.sa x.s.d.ss.length x.s.d.sc, .slice x.s.d.pa x.s.d.ps.length x.s.d.pc, .slice x.pa x.ps.length x.pc, .slice x.ca x.cs.length x.cc, .slice x.da x.ds.length x.dc] 36))) := (belowRefl w).alloc (Nat.le_refl _) _
 go_enter Tryz.func4, Tryz.ntmps4
 go_wp2_with fail
 refine (szS2 x.s 1048576 (by omega) (by omega) _ (HP.out.s.below HB0.out)).mono ?_
 rintro ex w1 ⟨hb1, r0, rfl, hu0, hr0⟩
 have HR0 : Hid (0 ≤ r0 → StFit x.s) := hr0
 have HB1 : Hid (Below w.heap.size w w1) := HB0.out.trans (hb1.mono HB0.out.size)
 have BX1 : Hid (Bx w1 w.heap.size [.slice x.s.e.b.va x.s.e.b.vs.length x.s.e.b.vc, .slice x.s.e.b.pa x.s.e.b.ps.length x.s.e.b.pc, .slice x.s.e.b.qa x.s.e.b.qs.length x.s.e.b.qc, .int .i64 x.s.e.b.cs, .int .i64 x.s.e.b.nx, .slice x.s.e.oa x.s.e.os.length x.s.e.oc, .slice x.s.d.sa x.s.d.ss.length x.s.d.sc, .slice x.s.d.pa x.s.d.ps.length x.s.d.pc, .slice x.pa x.ps.length x.pc, .slice x.ca x.cs.length x.cc, .slice x.da x.ds.length x.dc]) := BX0.out.below hb1
 clear hb1 hr0 BX0
 by_cases hn0 : r0 < 0
 ·go_wp2
  go_ret
  exact ⟨HB1.out, -1, rfl, fun h => by omega⟩
 have x8 := BX1.out.at11.1
 go_wp2_with fail
 refine (szL2 x.ps x.pa x.pc r0 (by omega) hu0 _ (HP.out.p.below HB1.out)).mono ?_
 rintro ex w2 ⟨hb2, r1, rfl, hu1, hr1⟩
 have HR1 : Hid (0 ≤ r1 → r1 + (wsum (txs x.ps) : Int) ≤ r0 ∧ LFit (txs x.ps)) := hr1
 have HB2 : Hid (Below w.heap.size w w2) := HB1.out.trans (hb2.mono HB1.out.size)
 have BX2 : Hid (Bx w2 w.heap.size [.slice x.s.e.b.va x.s.e.b.vs.length x.s.e.b.vc, .slice x.s.e.b.pa x.s.e.b.ps.length x.s.e.b.pc, .slice x.s.e.b.qa x.s.e.b.qs.length x.s.e.b.qc, .int .i64 x.s.e.b.cs, .int .i64 x.s.e.b.nx, .slice x.s.e.oa x.s.e.os.length x.s.e.oc, .slice x.s.d.sa x.s.d.ss.length x.s.d.sc, .slice x.s.d.pa x.s.d.ps.length x.s.d.pc, .slice x.pa x.ps.length x.pc, .slice x.ca x.cs.length x.cc, .slice x.da x.ds.length x.dc]) := BX1.out.below hb2
 clear hb2 hr1 BX1 x8
 by_cases hn1 : r1 < 0
 ·go_wp2
  go_ret
  exact ⟨HB2.out, -1, rfl, fun h => by omega⟩
 have x9 := BX2.out.at11.2.1
 go_wp2_with fail
 refine (szI x.ca x.cc x.cs.length r1 (by omega) hu1 HP.out.cl _).mono ?_
 rintro ex w3 ⟨r2, rfl, hr2, rfl⟩
 have HR2 : Hid (r2 < 0 ∨ (r2 = r1 - (x.cs.length : Int) ∧ 0 ≤ r2)) := hr2
 clear hr2 x9
 by_cases hn2 : r2 < 0
 ·go_wp2
  go_ret
  exact ⟨HB2.out, -1, rfl, fun h => by omega⟩
 have hu2 : r2 ≤ 1048576 := by have := HR2.out; omega
 have x10 := BX2.out.at11.2.2
 go_wp2_with fail
 refine (sz78 x.ds x.da x.dc HP.out.dl HP.out.dt r2 (by omega) hu2 _ (HP.out.d.below HB2.out)).mono ?_
 rintro ex w4 ⟨rfl, r3, rfl, hu3, hr3⟩
 have HR3 : Hid (0 ≤ r3 → (x.ds.length : Int) ≤ 1048576 ∧ ∀ s ∈ x.ds, s.size ≤ 1048576) := hr3
 clear hr3 x10
 by_cases hn3 : r3 < 0
 ·go_wp2
  go_ret
  exact ⟨HB2.out, -1, rfl, fun h => by omega⟩
 have HT : Hid (WdFit x) := ⟨HR0.out (by omega), (HR1.out (by omega)).2, by have := (HR1.out (by omega)).1; omega, by have := HR2.out; omega, (HR3.out (by omega)).1, (HR3.out (by omega)).2⟩
 go_wp2
 go_ret
 exact ⟨HB2.out, _, rfl, fun _ => HT.out⟩

end Go.Proofs.YtmijppfppigjcaaGreat

/- A store's size, with its bound. -/
import Derived.Test.YtjieojfcmigcdaaGreatDoorPw24
import Derived.Test.YtjieojfcmigcdaaGreatDoorPw26
import Derived.Test.YtjieojfcmigcdaaGreatDoorPw05
import Derived.Test.YtjieojfcmigcdaaGreatDoorPw01
import Derived.Deep.AppendLies
import Derived.Test.YtjieojfcmigcdaaGreatDoorPw02
import Derived.Test.YtjieojfcmigcdaaGreatDoorPw04
import Derived.WalkSpells
import Derived.WalkLawsBesides
import Derived.Deep.QuietTactic
import Derived.BigQuiet
import Derived.Deep.RegionHeld3
import Derived.Deep.DrawnRows
import Derived.Test.YtjieojfcmigcdaaGreatDoorPw03
import Derived.Test.YtjieojfcmigcdaaGreatDoorPw06
import Derived.Sort.OwnSorted
import Derived.Lib.RowBridge
import Derived.Test.YtjieojfcmigcdaaGreatDoorPw07
import Derived.Deep.RegionHeld
import Derived.Maps.OwnSet
import Derived.StringKeys
import Derived.Test.YtjieojfcmigcdaaGreatDoorPw08
import Derived.Deep.Cut
import Derived.Deep.CutRange
import Derived.Test.YtjieojfcmigcdaaGreatDoorPw16
import Derived.Test.YtjieojfcmigcdaaGreatDoorProg
import Derived.WalkKit
import Derived.Shelf.Small.Strs
import Derived.Shelf.Small.Wraps
import Derived.Shelf.LaysM
import Derived.Shelf.Strconv.Clone
import Derived.Lib.ItoaNum
import Derived.Lib.ItoaLen
namespace Go.Proofs.YtjieojfcmigcdaaGreatDoor
open Go.RowKit
open KM
attribute [local go_sem ↓] Go.wp_at_zero Go.wp_at_succ
set_option maxRecDepth 100000 in
set_option maxHeartbeats 1000000 in
theorem sz79b (ps : List Wr) (a : Option Addr) (c : Nat) (hn : ps.length ≤ 9223372036854775807) (hl : ∀ p ∈ ps, p.2.size ≤ 9223372036854775807) (L : Int) (h0 : 0 ≤ L) (h1 : L ≤ 1048576) (w : World) (hp : PRow w a ps) :
  Calls Tryz.prog 39 #[.slice a ps.length c, .int .i64 L] w fun e w' => Below w.heap.size w w' ∧ ∃ r : Int, e = .returned (.int .i64 r) ∧ r ≤ 1048576 ∧ (0 ≤ r → (ps.length : Int) ≤ 1048576 ∧ PFits ps) := by
 have HP : Hid (PRow w a ps) := hp
 have HL : Hid (∀ p ∈ ps, p.2.size ≤ 9223372036854775807) := hl
 clear hp hl
 by_cases hneg : L - (ps.length : Int) < 0
 ·go_enter Tryz.func39, Tryz.ntmps39
  go_wp2
  go_ret
  exact ⟨belowRefl w, -1, rfl, by omega, fun h => by omega⟩
 ·have hneg' : decide (L - (ps.length : Int) < 0) = false := by simpa using hneg
  go_enter Tryz.func39, Tryz.ntmps39
  go_wp2
  go_loopw [1, 5] (fun tl t wr => ∃ (k : Nat) (l : Int), k ≤ ps.length ∧ t = .int .i64 k ∧ tl = .int .i64 l ∧ 0 ≤ l ∧ l ≤ 1048576 ∧ Hid (∀ j (hj : j < ps.length), j < k → ps[j].2.size ≤ 1048576) ∧ Hid (Below w.heap.size w wr)) (fun _ t _ => ps.length - (intOf t).toNat)
  case atStart => exact ⟨0, L - (ps.length : Int), Nat.zero_le _, rfl, rfl, by omega, by omega, fun j hj h => by omega, belowRefl w⟩
  case round =>
   obtain ⟨k, l, hk, rfl, rfl, hl0, hl1, HA, HB⟩ := hrel
   by_cases hlt : k < ps.length
   ·have hlt' : (k : Int) < (ps.length : Int) := by omega
    have hk0 : (0 : Int) ≤ (k : Int) := by omega
    obtain ⟨b, off, rfl, hbl, hc⟩ := (HP.out.below HB.out) (by omega)
    have hck := (hc k hlt).1
    have hcl := (hc k hlt).2
    have hsz := HL.out _ (List.getElem_mem hlt)
    clear hc
    by_cases hn2 : l < (ps[k].2.size : Int)
    ·have HV : Hid (lft l ps[k].2 = -1) := if_pos hn2
     clear hn2
     go_wp2_with fail
     refine (sz88 _ _ hsz l hl0 hl1 _).mono ?_
     rintro e w2 ⟨rfl, hb2⟩
     rw [HV.out]
     have HB2 : Hid (Below w.heap.size w w2) := HB.out.trans (hb2.mono HB.out.size)
     clear hb2
     go_wp2
     go_ret
     exact ⟨HB2.out, -1, rfl, by omega, fun h => by omega⟩
    ·have HV : Hid (lft l ps[k].2 = l - (ps[k].2.size : Int)) := if_neg hn2
     have hn3 : ¬ l - (ps[k].2.size : Int) < 0 := by omega
     have HA2 : Hid (∀ j (hj : j < ps.length), j < k + 1 → ps[j].2.size ≤ 1048576) := fun j hj h => by
      by_cases e : j = k
      ·subst e; omega
      ·exact HA.out j hj (by omega)
     have hl2 : l - (ps[k].2.size : Int) ≤ 1048576 := by omega
     clear hn2
     go_wp2_with fail
     refine (sz88 _ _ hsz l hl0 hl1 _).mono ?_
     rintro e w2 ⟨rfl, hb2⟩
     rw [HV.out]
     have HB2 : Hid (Below w.heap.size w w2) := HB.out.trans (hb2.mono HB.out.size)
     clear hb2
     go_wp2
     go_roundw
     case rel => exact ⟨k + 1, l - (ps[k].2.size : Int), by omega, by go_num, rfl, by omega, hl2, HA2, HB2⟩
     case measure => simp [intOf]; omega
   ·have hlt' : ¬ (k : Int) < (ps.length : Int) := by omega
    have HA2 : Hid (PFits ps) := fun s hs => by
     obtain ⟨j, hj, rfl⟩ := List.getElem_of_mem hs
     exact HA.out j hj (by omega)
    go_wp2
    go_ret
    exact ⟨HB.out, l, rfl, hl1, fun _ => ⟨by omega, HA2.out⟩⟩

set_option maxRecDepth 100000 in
set_option maxHeartbeats 1000000 in
theorem sz43b (ss : List ByteArray) (ps : List Wr) (a1 a2 : Option Addr) (c1 c2 : Nat) (hn : ss.length ≤ 9223372036854775807) (hl : ∀ s ∈ ss, s.size ≤ 9223372036854775807) (hm : ps.length ≤ 9223372036854775807) (hlp : ∀ p ∈ ps, p.2.size ≤ 9223372036854775807) (L : Int) (h0 : 0 ≤ L) (h1 : L ≤ 1048576) (w : World) (hs : SRow w a1 ss) (hp : PRow w a2 ps) :
  Calls Tryz.prog 16 #[.agg #[.slice a1 ss.length c1, .slice a2 ps.length c2], .int .i64 L] w fun e w' => Below w.heap.size w w' ∧ ∃ r : Int, e = .returned (.int .i64 r) ∧ r ≤ 1048576 ∧ (0 ≤ r → Fits ss ps) := by
 have HS : Hid (SRow w a1 ss) := hs
 have HP : Hid (PRow w a2 ps) := hp
 have HL : Hid (∀ s ∈ ss, s.size ≤ 9223372036854775807) := hl
 have HLP : Hid (∀ p ∈ ps, p.2.size ≤ 9223372036854775807) := hlp
 clear hs hp hl hlp
 go_enter Tryz.func16, Tryz.ntmps16
 go_wp2_with fail
 refine (sz78 ss a1 c1 hn HL.out L h0 h1 _ (HS.out.below ((belowRefl w).alloc (Nat.le_refl _) _))).mono ?_
 rintro e w1 ⟨rfl, r, rfl, hr1, hr2⟩
 by_cases hr : r < 0
 ·clear hr2
  go_wp2
  go_ret
  exact ⟨(belowRefl w).alloc (Nat.le_refl _) _, -1, rfl, by omega, fun h => by omega⟩
 ·have hr' : ¬ r < 0 := hr
  have HF := hr2 (by omega)
  have HF1 : Hid ((ss.length : Int) ≤ 1048576 ∧ ∀ s ∈ ss, s.size ≤ 1048576) := HF
  clear hr2 HF
  go_wp2_with fail
  refine (sz79b ps a2 c2 hm HLP.out r (by omega) hr1 _ (HP.out.below ((belowRefl w).alloc (Nat.le_refl _) _))).mono ?_
  rintro e w2 ⟨hb2, r2, rfl, hu3, hr3⟩
  have HB2 : Hid (Below w.heap.size w w2) := ((belowRefl w).alloc (Nat.le_refl _) _).trans (hb2.mono (by simp))
  clear hb2
  by_cases hq : r2 < 0
  ·clear hr3
   go_wp2
   go_ret
   exact ⟨HB2.out, -1, rfl, by omega, fun h => by omega⟩
  ·have hq' : ¬ r2 < 0 := hq
   have HF2 : Hid ((ps.length : Int) ≤ 1048576 ∧ PFits ps) := hr3 (by omega)
   clear hr3
   go_wp2
   go_ret
   exact ⟨HB2.out, r2, rfl, hu3, fun _ => ⟨by have := HF1.out.1; omega, by have := HF2.out.1; omega, HF1.out.2, HF2.out.2⟩⟩
set_option maxRecDepth 100000 in
set_option maxHeartbeats 2000000 in
theorem szS2 (s : St) (L : Int) (h0 : 0 ≤ L) (h1 : L ≤ 1048576) (w : World) (hp : StArg w s) :
  Calls Tryz.prog 5 #[.agg #[.slice s.e.b.va s.e.b.vs.length s.e.b.vc, .slice s.e.b.pa s.e.b.ps.length s.e.b.pc, .slice s.e.b.qa s.e.b.qs.length s.e.b.qc, .int .i64 s.e.b.cs, .int .i64 s.e.b.nx, .slice s.e.oa s.e.os.length s.e.oc, .slice s.d.sa s.d.ss.length s.d.sc, .slice s.d.pa s.d.ps.length s.d.pc], .int .i64 L] w fun ex w' => Below w.heap.size w w' ∧ ∃ q : Int, ex = .returned (.int .i64 q) ∧ q ≤ 1048576 ∧ (0 ≤ q → StFit s) := by
 have HP : Hid (StArg w s) := hp
 clear hp
 have BX0 : Hid (Bx (w.alloc (.cells #[.slice s.e.b.va s.e.b.vs.length s.e.b.vc, .slice s.e.b.pa s.e.b.ps.length s.e.b.pc, .slice s.e.b.qa s.e.b.qs.length s.e.b.qc, .int .i64 s.e.b.cs, .int .i64 s.e.b.nx, .slice s.e.oa s.e.os.length s.e.oc, .slice s.d.sa s.d.ss.length s.d.sc, .slice s.d.pa s.d.ps.length s.d.pc] 33)) w.heap.size [.slice s.e.b.va s.e.b.vs.length s.e.b.vc, .slice s.e.b.pa s.e.b.ps.length s.e.b.pc, .slice s.e.b.qa s.e.b.qs.length s.e.b.qc, .int .i64 s.e.b.cs, .int .i64 s.e.b.nx, .slice s.e.oa s.e.os.length s.e.oc, .slice s.d.sa s.d.ss.length s.d.sc, .slice s.d.pa s.d.ps.length s.d.pc]) := Bx.new w [.slice s.e.b.va s.e.b.vs.length s.e.b.vc, .slice s.e.b.pa s.e.b.ps.length s.e.b.pc, .slice s.e.b.qa s.e.b.qs.length s.e.b.qc, .int .i64 s.e.b.cs, .int .i64 s.e.b.nx, .slice s.e.oa s.e.os.length s.e.oc, .slice s.d.sa s.d.ss.length s.d.sc, .slice s.d.pa s.d.ps.length s.d.pc] 33
 have HB0 : Hid (Below w.heap.size w (w.alloc (.cells #[.slice s.e.b.va s.e.b.vs.length s.e.b.vc, .slice s.e.b.pa s.e.b.ps.length s.e.b.pc, .slice s.e.b.qa s.e.b.qs.length s.e.b.qc, .int .i64 s.e.b.cs, .int .i64 s.e.b.nx, .slice s.e.oa s.e.os.length s.e.oc, .slice s.d.sa s.d.ss.length s.d.sc, .slice s.d.pa s.d.ps.length s.d.pc] 33))) := (belowRefl w).alloc (Nat.le_refl _) _
 go_enter Tryz.func5, Tryz.ntmps5
 go_wp2_with fail
 refine (szE s.e L h0 h1 _ (HP.out.e.below HB0.out)).mono ?_
 rintro ex w1 ⟨hb1, r0, rfl, hu0, hr0⟩
 have HR0 : Hid (0 ≤ r0 → EnFit s.e) := hr0
 have HB1 : Hid (Below w.heap.size w w1) := HB0.out.trans (hb1.mono HB0.out.size)
 have BX1 : Hid (Bx w1 w.heap.size [.slice s.e.b.va s.e.b.vs.length s.e.b.vc, .slice s.e.b.pa s.e.b.ps.length s.e.b.pc, .slice s.e.b.qa s.e.b.qs.length s.e.b.qc, .int .i64 s.e.b.cs, .int .i64 s.e.b.nx, .slice s.e.oa s.e.os.length s.e.oc, .slice s.d.sa s.d.ss.length s.d.sc, .slice s.d.pa s.d.ps.length s.d.pc]) := BX0.out.below hb1
 clear hb1 hr0 BX0
 by_cases hn0 : r0 < 0
 ·go_wp2
  go_ret
  exact ⟨HB1.out, -1, rfl, by omega, fun h => by omega⟩
 have x6 := BX1.out.c6
 have x7 := BX1.out.c7
 go_wp2_with fail
 refine (sz43b s.d.ss s.d.ps s.d.sa s.d.pa s.d.sc s.d.pc HP.out.d.sl HP.out.d.st HP.out.d.pl HP.out.d.pt r0 (by omega) hu0 _ (HP.out.d.rows.s.below HB1.out) (HP.out.d.rows.p.below HB1.out)).mono ?_
 rintro ex w2 ⟨hb2, r1, rfl, hu1, hr1⟩
 have HR1 : Hid (0 ≤ r1 → Fits s.d.ss s.d.ps) := hr1
 have HB2 : Hid (Below w.heap.size w w2) := HB1.out.trans (hb2.mono HB1.out.size)
 clear hb2 hr1 x6 x7
 by_cases hn3 : r1 < 0
 ·go_wp2
  go_ret
  exact ⟨HB2.out, -1, rfl, by omega, fun h => by omega⟩
 have HT : Hid (StFit s) := ⟨HR0.out (by omega), HR1.out (by omega)⟩
 go_wp2
 go_ret
 exact ⟨HB2.out, _, rfl, hu1, fun _ => HT.out⟩

end Go.Proofs.YtjieojfcmigcdaaGreatDoor

namespace Go.Proofs.YtjieojfcmigcdaaGreatDoor
open Go.RowKit
open KM
attribute [local go_sem ↓] Go.wp_at_zero Go.wp_at_succ

def befB (a b : Tx) : Bool := decide (a.st = 3) && decide (b.st = 3) && decide (a.id ≠ b.id) && (decide (a.cs ≤ b.snap) && touchB b.rs a.ws || decide (a.cs < b.cs) && meetB a.ws b.ws || decide (a.snap < b.cs) && touchB a.rs b.ws)
end Go.Proofs.YtjieojfcmigcdaaGreatDoor

namespace Go.Proofs.YtjieojfcmigcdaaGreatDoor
open Go.RowKit
open KM

def bef (ts : List Tx) (k i : Nat) : Bool := match ts[k]?, ts[i]? with
 | some a, some b => befB a b
 | _, _ => false
def freeB (ts : List Tx) (o : List Nat) (i : Nat) : Bool := !(o.contains i) && (List.range ts.length).all fun k => o.contains k || !(bef ts k i)
structure Ordd (ts : List Tx) (o : List Nat) : Prop where
 lt : ∀ j ∈ o, j < ts.length
 nd : o.Nodup
 no : ∀ j ∈ o, ∀ k, k < ts.length → k ∉ o → bef ts k j = false
theorem Ordd.nil (ts : List Tx) : Ordd ts [] := ⟨(fun _ h => by cases h), List.nodup_nil, (fun _ h => by cases h)⟩
theorem free_iff (ts : List Tx) (o : List Nat) (i : Nat) : freeB ts o i = true ↔ i ∉ o ∧ ∀ k, k < ts.length → k ∉ o → bef ts k i = false := by
 unfold freeB
 simp only [Bool.and_eq_true, Bool.not_eq_true', List.all_eq_true, List.mem_range, Bool.or_eq_true]
 constructor
 ·rintro ⟨h1, h2⟩
  refine ⟨fun h => by simp [h] at h1, fun k hk hn => ?_⟩
  rcases h2 k hk with h | h
  ·exact absurd (by simpa using h) hn
  ·exact h
 ·rintro ⟨h1, h2⟩
  refine ⟨by simpa using h1, fun k hk => ?_⟩
  by_cases h : k ∈ o
  ·left; simpa using h
  ·right; exact h2 k hk h
theorem Ordd.snoc {ts : List Tx} {o : List Nat} {i : Nat} (h : Ordd ts o) (hi : i < ts.length) (hf : freeB ts o i = true) : Ordd ts (o ++ [i]) := by
 obtain ⟨h1, h2⟩ := (free_iff ts o i).1 hf
 refine ⟨fun j hj => ?_, ?_, fun j hj k hk hn => ?_⟩
 ·rcases List.mem_append.1 hj with h3 | h3
  ·exact h.lt j h3
  ·rw [List.mem_singleton.1 h3]; exact hi
 ·rw [List.nodup_append]
  refine ⟨h.nd, by simp, fun a ha b hb => ?_⟩
  rw [List.mem_singleton.1 hb]
  intro e
  exact h1 (e ▸ ha)
 ·have hko : k ∉ o := fun hm => hn (List.mem_append_left _ hm)
  rcases List.mem_append.1 hj with h3 | h3
  ·exact h.no j h3 k hk hko
  ·rw [List.mem_singleton.1 h3]; exact h2 k hk hko
theorem nodup_le : ∀ (n : Nat) (o : List Nat), o.Nodup → (∀ j ∈ o, j < n) → o.length ≤ n
 | 0, o, _, h => by
  cases o with
  | nil => simp
  | cons x o => exact absurd (h x (List.mem_cons_self ..)) (Nat.not_lt_zero _)
 | n + 1, o, hn, h => by
  have h1 : (o.erase n).length ≤ n := nodup_le n (o.erase n) (hn.erase n) (fun j hj => by
   have h2 := (hn.mem_erase_iff).1 hj
   have h3 := h j h2.2
   have h4 := h2.1
   omega)
  by_cases hm : n ∈ o
  ·have := List.length_erase_of_mem hm
   omega
  ·rw [List.erase_of_not_mem hm] at h1
   omega
theorem Ordd.len {ts : List Tx} {o : List Nat} (h : Ordd ts o) : o.length ≤ ts.length := nodup_le _ o h.nd h.lt
end Go.Proofs.YtjieojfcmigcdaaGreatDoor

namespace Go.Proofs.YtjieojfcmigcdaaGreatDoor
open Go.RowKit
open KM
attribute [local go_sem ↓] Go.wp_at_zero Go.wp_at_succ

theorem own_int {W : World} {base g cap n : Nat} {l : List Int} (h : GOwn encI 3 W base (.slice (some ⟨g, 0, none⟩) n cap) l) (hn : n = l.length) (i : Nat) (x : Int) :
  GOwn encI 3 (W.setCell ⟨g, i, none⟩ (.int .i64 x)) base (.slice (some ⟨g, 0, none⟩) n cap) (l.set i x) := by
 have hc : encI.cells (l.set i x) = (encI.cells l).set i (.int .i64 x) := by
  have e : ∀ ys : List Int, encI.cells ys = ys.map (fun y => Value.int .i64 y) := fun ys => by
   induction ys with
   | nil => rfl
   | cons y ys ih =>
    simp [Enc.cells, encI] at ih ⊢
    exact ih
  rw [e, e, List.map_set]
 subst hn
 unfold GOwn
 rw [hc, List.length_set]
 exact (World.ownsRow.stored h i _).1
theorem own_fz {W : World} {base g cap n : Nat} {l : List Int} (h : GOwn encI 3 W base (.slice (some ⟨g, 0, none⟩) n cap) l) (hn : n = l.length) (k : Nat) : W.frozen? ⟨g, k, none⟩ = false := by
 subst hn
 exact World.ownsRow.frozenAt h k
theorem own_at {W : World} {base g cap n : Nat} {l : List Int} (h : GOwn encI 3 W base (.slice (some ⟨g, 0, none⟩) n cap) l) (hn : n = l.length) (k : Nat) (hk : k < l.length) : W.cell? ⟨g, k, none⟩ = some (.int .i64 l[k]) := by
 subst hn
 obtain ⟨b, o, hbo, _, hc⟩ := h.grow (by omega)
 cases hbo
 have := iat hc k hk
 simpa using this

end Go.Proofs.YtjieojfcmigcdaaGreatDoor

namespace Go.Proofs.YtjieojfcmigcdaaGreatDoor
open Go.RowKit
open KM
attribute [local go_sem ↓] Go.wp_at_zero Go.wp_at_succ

theorem encI_cells (ys : List Int) : encI.cells ys = ys.map (fun y => Value.int .i64 y) := by
 induction ys with
 | nil => rfl
 | cons y ys ih =>
  simp [Enc.cells, encI] at ih ⊢
  exact ih
theorem own_zeros (w : World) (n : Nat) (hn : n ≤ 1048576) : GOwn encI 3 (w.alloc (.cells (madeCells (Value.int .i64 0).cells (n * 1)) 3)) w.heap.size (.slice (some ⟨w.heap.size, 0, none⟩) n n) (List.replicate n 0) := by
 have h := World.ownsRow_lit (size := 1) (e := 3) w (madeCells (Value.int .i64 0).cells (n * 1)) n (Nat.le_refl _) (by unfold maxLen; omega) (by rw [size_madeCells])
 unfold GOwn
 rw [List.length_replicate, encI_cells]
 have e : (madeCells (Value.int .i64 0).cells (n * 1)).toList = (List.replicate n (0 : Int)).map (fun y => Value.int .i64 y) := by
  have : (Value.int .i64 0).cells = #[Value.int .i64 0] := rfl
  rw [Nat.mul_one, this, toList_madeCells_one]
  simp
 rw [← e]
 exact h

end Go.Proofs.YtjieojfcmigcdaaGreatDoor

namespace Go.Proofs.YtjieojfcmigcdaaGreatDoor
open Go.RowKit
open KM
attribute [local go_sem ↓] Go.wp_at_zero Go.wp_at_succ

set_option maxRecDepth 100000 in
set_option maxHeartbeats 2000000 in
theorem eqI (xs : List Int) (a1 a2 : Option Addr) (c1 c2 n : Nat) (hx : n = xs.length) (hn : n ≤ 100000000) (w : World) (h1 : GRow encI w a1 xs) (h2 : GRow encI w a2 xs) :
  Calls Tryz.prog 36 #[.slice a1 n c1, .slice a2 n c2] w fun e w' => e = .returned (.bool true) ∧ Below w.heap.size w w' := by
 have H1 : Hid (GRow encI w a1 xs) := h1
 have H2 : Hid (GRow encI w a2 xs) := h2
 have HX : Hid (n = xs.length) := hx
 clear h1 h2 hx
 go_enter Tryz.func36, Tryz.ntmps36
 go_wp2
 go_loopw [5] (fun t wr => ∃ k : Nat, k ≤ n ∧ t = .int .i64 k ∧ Hid (Below w.heap.size w wr)) (fun t _ => n - (intOf t).toNat)
 case atStart => exact ⟨0, Nat.zero_le _, rfl, belowRefl w⟩
 case round =>
  obtain ⟨k, hk, rfl, HB⟩ := hrel
  by_cases hlt : k < n
  ·have hlt' : (k : Int) < (n : Int) := by omega
   have hk0 : (0 : Int) ≤ (k : Int) := by omega
   have hkx : k < xs.length := by rw [← HX.out]; exact hlt
   obtain ⟨b, off, rfl, hbl, hc⟩ := (H1.out.below HB.out) (by omega)
   have r0 := iat hc k hkx
   clear hc
   obtain ⟨b2, off2, rfl, hbl2, hc2⟩ := (H2.out.below HB.out) (by omega)
   have q0 := iat hc2 k hkx
   clear hc2
   obtain ⟨x, hx⟩ : ∃ x, x = xs[k] := ⟨_, rfl⟩
   rw [← hx] at r0 q0
   clear hx hkx
   have hxx : (x != x) = false := by simp
   go_wp2
   go_quiet (fail)
   go_wp2
   go_roundw
   case rel => exact ⟨k + 1, by omega, by go_num, below_drewN HB.out _⟩
   case measure => simp [intOf]; omega
  ·have hd : ¬ (k : Int) < (n : Int) := by omega
   go_wp2
   go_ret
   exact ⟨rfl, HB.out⟩
end Go.Proofs.YtjieojfcmigcdaaGreatDoor

namespace Go.Proofs.YtjieojfcmigcdaaGreatDoor
open Go.RowKit
open KM
attribute [local go_sem ↓] Go.wp_at_zero Go.wp_at_succ

def LFw (ts : List Tx) : Prop := True ∧ ∀ t ∈ ts, TFit t
theorem LFit.w {ts : List Tx} (h : LFit ts) : LFw ts := ⟨trivial, h.2⟩
end Go.Proofs.YtjieojfcmigcdaaGreatDoor

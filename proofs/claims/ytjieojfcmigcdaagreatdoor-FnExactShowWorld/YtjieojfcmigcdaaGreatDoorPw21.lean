/- What laws.toStringS, toPut, toPutS, toDisk and szDisk do. -/
import Derived.Test.YtjieojfcmigcdaaGreatDoorPw20
import Derived.Deep.QuietTactic
import Derived.BigQuiet
import Derived.Deep.RegionHeld3
import Derived.Deep.DrawnRows
import Derived.Test.YtjieojfcmigcdaaGreatDoorPw01
import Derived.Test.YtjieojfcmigcdaaGreatDoorPw02
import Derived.Lib.ItoaNum
import Derived.Lib.ItoaLen
import Derived.Test.YtjieojfcmigcdaaGreatDoorPw03
import Derived.Test.YtjieojfcmigcdaaGreatDoorPw04
import Derived.Test.YtjieojfcmigcdaaGreatDoorPw08
import Derived.Test.YtjieojfcmigcdaaGreatDoorPw16
import Derived.Test.YtjieojfcmigcdaaGreatDoorProg
import Derived.WalkKit
import Derived.WalkSpells
import Derived.WalkLawsBesides
import Derived.Deep.AppendLies
import Derived.Sort.OwnSorted
import Derived.Lib.RowBridge
import Derived.Test.YtjieojfcmigcdaaGreatDoorPw06
import Derived.Test.YtjieojfcmigcdaaGreatDoorPw17
import Derived.Test.YtjieojfcmigcdaaGreatDoorPw05
import Derived.Test.YtjieojfcmigcdaaGreatDoorPw07
import Derived.Test.YtjieojfcmigcdaaGreatDoorPw18
import Derived.Deep.Cut
import Derived.Deep.CutRange
namespace Go.Proofs.YtjieojfcmigcdaaGreatDoor
open Go.RowKit
open DM
attribute [local go_sem ↓] Go.wp_at_zero Go.wp_at_succ

structure DOwn (w : World) (base : Nat) (a1 : Option Addr) (c1 : Nat) (a2 : Option Addr) (c2 : Nat) (ss : List ByteArray) (ps : List Wr) : Prop where
 s : SOwn w base (.slice a1 ss.length c1) ss
 p : POwn w base (.slice a2 ps.length c2) ps
theorem SOwn.srow {w : World} {base : Nat} {a : Option Addr} {c : Nat} {l : List ByteArray} (h : SOwn w base (.slice a l.length c) l) : SRow w a l := by
 obtain ⟨ao, cap, hv, hr⟩ := h.row
 cases hv
 exact hr
theorem POwn.prow {w : World} {base : Nat} {a : Option Addr} {c : Nat} {l : List Wr} (h : POwn w base (.slice a l.length c) l) : PRow w a l := by
 obtain ⟨ao, cap, hv, hr⟩ := h.row
 cases hv
 exact hr
theorem DOwn.below {w w' : World} {base : Nat} {a1 a2 : Option Addr} {c1 c2 : Nat} {ss : List ByteArray} {ps : List Wr} (h : DOwn w base a1 c1 a2 c2 ss ps) (hb : Below w.heap.size w w') : DOwn w' base a1 c1 a2 c2 ss ps := ⟨h.s.below hb, h.p.below hb⟩
theorem DOwn.mono {w : World} {base base' : Nat} {a1 a2 : Option Addr} {c1 c2 : Nat} {ss : List ByteArray} {ps : List Wr} (h : DOwn w base a1 c1 a2 c2 ss ps) (hb : base' ≤ base) : DOwn w base' a1 c1 a2 c2 ss ps := ⟨h.s.mono hb, h.p.mono hb⟩

theorem SOwn.set {w : World} {base : Nat} {v : Value} {l : List ByteArray} (h : SOwn w base v l) {a : Addr} (ha : a.block < base) (u : Value) : SOwn (w.setCell a u) base v l := ownsRow_setCell_below h ha u
theorem POwn.set {w : World} {base : Nat} {v : Value} {l : List Wr} (h : POwn w base v l) {a : Addr} (ha : a.block < base) (u : Value) : POwn (w.setCell a u) base v l := ownsRow_setCell_below h ha u

theorem sown_of {w : World} {base g n : Nat} {xs : List Value} {ss : List ByteArray} (hn : n = ss.length) (h : w.ownsRow base 9 1 (.slice (some ⟨g, 0, none⟩) n n) n xs) (hx : ∀ j, j < n → xs[j]? = (scs ss)[j]?) : SOwn w base (.slice (some ⟨g, 0, none⟩) ss.length n) ss := by
 have e : xs = scs ss := by
  apply List.ext_getElem?
  intro j
  by_cases hj : j < n
  ·exact hx j hj
  ·rw [List.getElem?_eq_none (by have := h.1; omega), List.getElem?_eq_none (by rw [scs_len]; omega)]
 subst hn
 rw [e] at h
 exact h

set_option maxRecDepth 100000 in
set_option maxHeartbeats 1000000 in
theorem to80 (ss : List ByteArray) (a : Option Addr) (c : Nat) (hn : ss.length ≤ 100000000) (w : World) (hs : SRow w a ss) :
  Calls Tryz.prog 33 #[.slice a ss.length c] w fun e w' => ∃ a1 c1, e = .returned (.slice a1 ss.length c1) ∧ SOwn w' w.heap.size (.slice a1 ss.length c1) ss ∧ Below w.heap.size w w' := by
 have HS : Hid (SRow w a ss) := hs
 clear hs
 have hmk := mkRow 28 9 1 16 _ Tryz.underlying28 Tryz.info9 ss.length hn (by omega)
 go_enter Tryz.func33, Tryz.ntmps33
 go_wp2
 clear hmk
 have HO : Hid ((w.alloc (.cells (madeCells #[Value.string ByteArray.empty] ss.length) 9)).ownsRow w.heap.size 9 1 (.slice (some ⟨w.heap.size, 0, none⟩) ss.length ss.length) ss.length (madeCells #[Value.string ByteArray.empty] ss.length).toList) :=
  World.ownsRow_lit w _ _ (Nat.le_refl _) (by unfold maxLen; omega) (by rw [size_madeCells, Nat.mul_one])
 go_loopw [4] (fun t wr => ∃ (k : Nat) (xs : List Value), k ≤ ss.length ∧ t = .int .i64 k ∧ Hid (wr.ownsRow w.heap.size 9 1 (.slice (some ⟨w.heap.size, 0, none⟩) ss.length ss.length) ss.length xs) ∧ Hid (∀ j, j < k → xs[j]? = (scs ss)[j]?) ∧ Hid (Below w.heap.size w wr)) (fun t _ => ss.length - (intOf t).toNat)
 case atStart => exact ⟨0, _, Nat.zero_le _, rfl, HO, fun j hj => by omega, (belowRefl w).alloc (Nat.le_refl _) _⟩
 case round =>
  obtain ⟨k, xs, hk, rfl, HX, HA, HB⟩ := hrel
  by_cases hlt : k < ss.length
  ·have hlt' : (k : Int) < (ss.length : Int) := by omega
   have h0 : (0 : Int) ≤ (k : Int) := by omega
   obtain ⟨b, off, rfl, hbl, hc⟩ := (HS.out.below HB.out) (by omega)
   have hck := hc k hlt
   clear hc
   have hlen := HX.out.1
   have hq : wr.cell? ⟨w.heap.size, k, none⟩ = some (xs[k]'(by omega)) := by
    rw [World.ownsRow.cellAt HX.out k (by omega)]; simp
   have hfz := World.ownsRow.frozenAt HX.out k
   have HX2 := (World.ownsRow.stored HX.out k (.string ss[k])).1
   have HA2 : Hid (∀ j, j < k + 1 → (xs.set k (.string ss[k]))[j]? = (scs ss)[j]?) := fun j hj => by
    by_cases e : j = k
    ·subst e
     rw [List.getElem?_set_self (by omega)]
     simp [scs, hlt]
    ·rw [List.getElem?_set_ne (by omega)]
     exact HA.out j (by omega)
   have HX3 : Hid _ := HX2
   clear HX2
   go_wp2
   go_roundw
   case rel => exact ⟨k + 1, _, by omega, by go_num, HX3, HA2, HB.out.setCell (Nat.le_refl _) _⟩
   case measure => simp [intOf]; omega
  ·have hlt' : ¬ (k : Int) < (ss.length : Int) := by omega
   have hk2 : k = ss.length := by omega
   have HD : Hid (SOwn wr w.heap.size (.slice (some ⟨w.heap.size, 0, none⟩) ss.length ss.length) ss) := sown_of rfl HX.out (fun j hj => HA.out j (by omega))
   clear hk2
   go_wp2
   go_ret
   exact ⟨_, _, rfl, HD.out, HB.out⟩

set_option maxHeartbeats 400000 in
theorem to89 (x : Int) (t : ByteArray) (w : World) :
  Calls Tryz.prog 62 #[.agg #[.int .i64 x, .string t]] w fun e w' => e = .returned (.agg #[.int .i64 x, .string t]) ∧ Below w.heap.size w w' := by
 go_enter Tryz.func62, Tryz.ntmps62
 go_wp2
 exact bodyPost_ret (v := .agg #[.int .i64 x, .string t]) (by simp [results, Tryz.results62, go_sem]) rfl ⟨rfl, (((belowRefl w).alloc (Nat.le_refl _) _).alloc (by simp) _).alloc (by simp; omega) _⟩

theorem pown_of {w : World} {base g n : Nat} {xs : List Value} {ps : List Wr} (hn : n = ps.length) (h : w.ownsRow base 128 2 (.slice (some ⟨g, 0, none⟩) n n) n xs) (hx : ∀ j, j < n * 2 → xs[j]? = (pcs ps)[j]?) : POwn w base (.slice (some ⟨g, 0, none⟩) ps.length n) ps := by
 have e : xs = pcs ps := by
  apply List.ext_getElem?
  intro j
  by_cases hj : j < n * 2
  ·exact hx j hj
  ·rw [List.getElem?_eq_none (by have := h.1; omega), List.getElem?_eq_none (by rw [pcs_len]; omega)]
 subst hn
 rw [e] at h
 exact h

set_option maxRecDepth 100000 in
set_option maxHeartbeats 1000000 in
theorem to81 (ps : List Wr) (a : Option Addr) (c : Nat) (hn : ps.length ≤ 100000000) (w : World) (hp : PRow w a ps) :
  Calls Tryz.prog 45 #[.slice a ps.length c] w fun e w' => ∃ a1 c1, e = .returned (.slice a1 ps.length c1) ∧ POwn w' w.heap.size (.slice a1 ps.length c1) ps ∧ Below w.heap.size w w' := by
 have HP : Hid (PRow w a ps) := hp
 clear hp
 have hmk := mkRow 42 128 2 24 _ Tryz.underlying42 Tryz.info128 ps.length hn (by omega)
 go_enter Tryz.func45, Tryz.ntmps45
 go_wp2
 clear hmk
 have HO : Hid ((w.alloc (.cells (madeCells (Value.agg #[.int .i64 0, .string ByteArray.empty]).cells (ps.length * 2)) 128)).ownsRow w.heap.size 128 2 (.slice (some ⟨w.heap.size, 0, none⟩) ps.length ps.length) ps.length (madeCells (Value.agg #[.int .i64 0, .string ByteArray.empty]).cells (ps.length * 2)).toList) :=
  World.ownsRow_lit w _ _ (Nat.le_refl _) (by unfold maxLen; omega) (by rw [size_madeCells])
 go_loopw [4] (fun t wr => ∃ (k : Nat) (xs : List Value), k ≤ ps.length ∧ t = .int .i64 k ∧ Hid (wr.ownsRow w.heap.size 128 2 (.slice (some ⟨w.heap.size, 0, none⟩) ps.length ps.length) ps.length xs) ∧ Hid (∀ j, j < k * 2 → xs[j]? = (pcs ps)[j]?) ∧ Hid (Below w.heap.size w wr)) (fun t _ => ps.length - (intOf t).toNat)
 case atStart => exact ⟨0, _, Nat.zero_le _, rfl, HO, fun j hj => by omega, (belowRefl w).alloc (Nat.le_refl _) _⟩
 case round =>
  obtain ⟨k, xs, hk, rfl, HX, HA, HB⟩ := hrel
  by_cases hlt : k < ps.length
  ·have hlt' : (k : Int) < (ps.length : Int) := by omega
   have h0 : (0 : Int) ≤ (k : Int) := by omega
   obtain ⟨b, off, rfl, hbl, hc⟩ := (HP.out.below HB.out) (by omega)
   have hck := (hc k hlt).1
   have hcl := (hc k hlt).2
   clear hc
   have hgl : w.heap.size < wr.heap.size := (World.ownsRow.lt HX.out _ rfl).2
   go_wp2_with fail
   refine (to89 _ _ _).mono ?_
   rintro e w2 ⟨rfl, hb2⟩
   have HX0 : Hid (w2.ownsRow w.heap.size 128 2 (.slice (some ⟨w.heap.size, 0, none⟩) ps.length ps.length) ps.length xs) := ownsBelow HX.out hb2
   have HB2 : Hid (Below w.heap.size w w2) := HB.out.trans (hb2.mono HB.out.size)
   clear hck hcl hb2
   have hlen := HX0.out.1
   have hq0 : w2.cell? ⟨w.heap.size, k * 2, none⟩ = some (xs[k * 2]'(by omega)) := by
    rw [World.ownsRow.cellAt HX0.out (k * 2) (by omega)]; simp
   have hq1 : w2.cell? ⟨w.heap.size, k * 2 + 1, none⟩ = some (xs[k * 2 + 1]'(by omega)) := by
    rw [World.ownsRow.cellAt HX0.out (k * 2 + 1) (by omega)]; simp
   have hf0 := World.ownsRow.frozenAt HX0.out (k * 2)
   have hf1 := World.ownsRow.frozenAt HX0.out (k * 2 + 1)
   have hx2 := (World.ownsRow.stored (World.ownsRow.stored HX0.out (k * 2) (.int .i64 ps[k].1)).1 (k * 2 + 1) (.string ps[k].2)).1
   have HX3 : Hid _ := hx2
   clear hx2
   have HA2 : Hid (∀ j, j < (k + 1) * 2 → ((xs.set (k * 2) (.int .i64 ps[k].1)).set (k * 2 + 1) (.string ps[k].2))[j]? = (pcs ps)[j]?) := fun j hj => by
    by_cases e : j = k * 2
    ·subst e
     rw [List.getElem?_set_ne (by omega), List.getElem?_set_self (by omega), (pcs_at ps k hlt).1]
    ·by_cases e2 : j = k * 2 + 1
     ·subst e2
      rw [List.getElem?_set_self (by simp; omega), (pcs_at ps k hlt).2]
     ·rw [List.getElem?_set_ne (by omega), List.getElem?_set_ne (by omega)]
      exact HA.out j (by omega)
   go_wp2
   go_roundw
   case rel => exact ⟨k + 1, _, by omega, by go_num, HX3, HA2, (HB2.out.setCell (Nat.le_refl _) _).setCell (Nat.le_refl _) _⟩
   case measure => simp [intOf]; omega
  ·have hlt' : ¬ (k : Int) < (ps.length : Int) := by omega
   have HD : Hid (POwn wr w.heap.size (.slice (some ⟨w.heap.size, 0, none⟩) ps.length ps.length) ps) := pown_of rfl HX.out (fun j hj => HA.out j (by omega))
   go_wp2
   go_ret
   exact ⟨_, _, rfl, HD.out, HB.out⟩

set_option maxRecDepth 100000 in
set_option maxHeartbeats 1000000 in
theorem to44 (ss : List ByteArray) (ps : List Wr) (a1 a2 : Option Addr) (c1 c2 : Nat) (hn : ss.length ≤ 100000000) (hm : ps.length ≤ 100000000) (w : World) (hs : SRow w a1 ss) (hp : PRow w a2 ps) :
  Calls Tryz.prog 23 #[.agg #[.slice a1 ss.length c1, .slice a2 ps.length c2]] w fun e w' => ∃ b1 d1 b2 d2, e = .returned (.agg #[.slice b1 ss.length d1, .slice b2 ps.length d2]) ∧ DOwn w' w.heap.size b1 d1 b2 d2 ss ps ∧ Below w.heap.size w w' := by
 have HS : Hid (SRow w a1 ss) := hs
 have HP : Hid (PRow w a2 ps) := hp
 clear hs hp
 go_enter Tryz.func23, Tryz.ntmps23
 go_wp2_with fail
 refine (to80 ss a1 c1 hn _ (HS.out.below ((((belowRefl w).alloc (Nat.le_refl _) _).alloc (by simp) _).alloc (by simp; omega) _))).mono ?_
 rintro e w1 ⟨b1, d1, rfl, hd1, hb1⟩
 have HD1 : Hid (SOwn w1 (w.heap.size + 1 + 1 + 1) (.slice b1 ss.length d1) ss) := by show SOwn _ _ _ _; simpa using hd1
 obtain ⟨hc1, hf1⟩ := bcell hb1
 have hz1 : w.heap.size + 1 + 1 < w1.heap.size := by have := hb1.size; simp at this; omega
 have hz1' : w.heap.size < w1.heap.size := by omega
 have hz1'' : w.heap.size + 1 < w1.heap.size := by omega
 have HB1 : Hid (Below w.heap.size w w1) := ((((belowRefl w).alloc (Nat.le_refl _) _).alloc (by simp) _).alloc (by simp; omega) _).trans (hb1.mono (by simp; omega))
 clear hd1 hb1
 go_wp2_with fail
 have HB1' : Hid (Below w.heap.size w (w1.setCell ⟨w.heap.size + 1 + 1, 0, none⟩ (.slice b1 ss.length d1))) := HB1.out.setCell (by show _ ≤ _ + 1 + 1; omega) _
 refine (to81 ps a2 c2 hm _ (HP.out.below HB1'.out)).mono ?_
 rintro e w2 ⟨b2, d2, rfl, hd2, hb2⟩
 have HD2 : Hid (POwn w2 (w.heap.size + 1 + 1 + 1) (.slice b2 ps.length d2) ps) := by show POwn _ _ _ _; exact hd2.mono (by simp; omega)
 have HD3 : Hid (SOwn w2 (w.heap.size + 1 + 1 + 1) (.slice b1 ss.length d1) ss) := (HD1.out.set (by show _ + 1 + 1 < _; omega) _).below hb2
 have HB2 : Hid (Below w.heap.size w w2) := HB1'.out.trans (hb2.mono (by simp; omega))
 obtain ⟨hc2, hf2⟩ := bcell hb2
 have hz2 : w.heap.size + 1 + 1 < w2.heap.size := by have := hb2.size; simp at this; omega
 clear hd2 hb2
 go_wp2
 refine bodyPost_ret (v := .agg #[.slice b1 ss.length d1, .slice b2 ps.length d2]) (by simp [results, Tryz.results23, go_sem, hc2, hc1, hz1'']) rfl ⟨b1, d1, b2, d2, rfl, ⟨?_, ?_⟩, ?_⟩
 ·exact (((HD3.out.set (by show _ + 1 + 1 < _; omega) _).set (by show _ + 1 < _; omega) _).set (by show _ + 1 < _; omega) _).mono (by omega)
 ·exact (((HD2.out.set (by show _ + 1 + 1 < _; omega) _).set (by show _ + 1 < _; omega) _).set (by show _ + 1 < _; omega) _).mono (by omega)
 ·exact ((HB2.out.setCell (by show _ ≤ _ + 1 + 1; omega) _).setCell (by show _ ≤ _ + 1; omega) _).setCell (by show _ ≤ _ + 1; omega) _

/-! szDisk -/
set_option maxRecDepth 100000 in
set_option maxHeartbeats 1000000 in
theorem sz78 (ss : List ByteArray) (a : Option Addr) (c : Nat) (hn : ss.length ≤ 9223372036854775807) (hl : ∀ s ∈ ss, s.size ≤ 9223372036854775807) (L : Int) (h0 : 0 ≤ L) (h1 : L ≤ 1048576) (w : World) (hs : SRow w a ss) :
  Calls Tryz.prog 30 #[.slice a ss.length c, .int .i64 L] w fun e w' => w' = w ∧ ∃ r : Int, e = .returned (.int .i64 r) ∧ r ≤ 1048576 ∧ (0 ≤ r → (ss.length : Int) ≤ 1048576 ∧ ∀ s ∈ ss, s.size ≤ 1048576) := by
 have HS : Hid (SRow w a ss) := hs
 have HL : Hid (∀ s ∈ ss, s.size ≤ 9223372036854775807) := hl
 clear hs hl
 by_cases hneg : L - (ss.length : Int) < 0
 ·go_enter Tryz.func30, Tryz.ntmps30
  go_wp2
  go_ret
  exact ⟨rfl, -1, rfl, by omega, fun h => by omega⟩
 ·have hneg' : decide (L - (ss.length : Int) < 0) = false := by simpa using hneg
  go_enter Tryz.func30, Tryz.ntmps30
  go_wp2
  go_loop [1, 5] (fun tl t => ∃ (k : Nat) (l : Int), k ≤ ss.length ∧ t = .int .i64 k ∧ tl = .int .i64 l ∧ 0 ≤ l ∧ l ≤ 1048576 ∧ Hid (∀ j (hj : j < ss.length), j < k → ss[j].size ≤ 1048576)) (fun _ t => ss.length - (intOf t).toNat)
  case atStart => exact ⟨0, L - (ss.length : Int), Nat.zero_le _, rfl, rfl, by omega, by omega, fun j hj h => by omega⟩
  case round =>
   obtain ⟨k, l, hk, rfl, rfl, hl0, hl1, HA⟩ := hrel
   by_cases hlt : k < ss.length
   ·have hlt' : (k : Int) < (ss.length : Int) := by omega
    have hk0 : (0 : Int) ≤ (k : Int) := by omega
    obtain ⟨b, off, rfl, hbl, hc⟩ := HS.out (by omega)
    have hck := hc k hlt
    have hsz := HL.out _ (List.getElem_mem hlt)
    clear hc
    by_cases hn2 : l - (ss[k].size : Int) < 0
    ·go_wp2
     go_ret
     exact ⟨rfl, -1, rfl, by omega, fun h => by omega⟩
    ·have hn2' : ¬ l - (ss[k].size : Int) < 0 := hn2
     have HA2 : Hid (∀ j (hj : j < ss.length), j < k + 1 → ss[j].size ≤ 1048576) := fun j hj h => by
      by_cases e : j = k
      ·subst e; omega
      ·exact HA.out j hj (by omega)
     have hl2 : l - (ss[k].size : Int) ≤ 1048576 := by omega
     go_wp2
     go_round
     case rel => exact ⟨k + 1, l - (ss[k].size : Int), by omega, by go_num, rfl, by omega, hl2, HA2⟩
     case measure => simp [intOf]; omega
   ·have hlt' : ¬ (k : Int) < (ss.length : Int) := by omega
    have HA2 : Hid (∀ s ∈ ss, s.size ≤ 1048576) := fun s hs => by
     obtain ⟨j, hj, rfl⟩ := List.getElem_of_mem hs
     exact HA.out j hj (by omega)
    go_wp2
    go_ret
    exact ⟨rfl, l, rfl, hl1, fun _ => ⟨by omega, HA2.out⟩⟩

def lft (L : Int) (t : ByteArray) : Int := if L < (t.size : Int) then -1 else L - (t.size : Int)
def PFits (ps : List Wr) : Prop := ∀ p ∈ ps, p.2.size ≤ 1048576

set_option maxHeartbeats 400000 in
theorem sz88 (x : Int) (t : ByteArray) (ht : t.size ≤ 9223372036854775807) (L : Int) (h0 : 0 ≤ L) (h1 : L ≤ 1048576) (w : World) :
  Calls Tryz.prog 58 #[.agg #[.int .i64 x, .string t], .int .i64 L] w fun e w' => e = .returned (.int .i64 (lft L t)) ∧ Below w.heap.size w w' := by
 by_cases hneg : L < (t.size : Int)
 ·have hneg' : L - (t.size : Int) < 0 := by omega
  have HV : Hid (-1 = lft L t) := (if_pos hneg).symm
  clear hneg
  go_enter Tryz.func58, Tryz.ntmps58
  go_wp2
  go_ret
  exact ⟨ret_int HV.out, (belowRefl w).alloc (Nat.le_refl _) _⟩
 ·have hneg' : ¬ L - (t.size : Int) < 0 := by omega
  have HV : Hid (L - (t.size : Int) = lft L t) := (if_neg hneg).symm
  clear hneg
  go_enter Tryz.func58, Tryz.ntmps58
  go_wp2
  go_ret
  exact ⟨ret_int HV.out, (belowRefl w).alloc (Nat.le_refl _) _⟩

def Fits (ss : List ByteArray) (ps : List Wr) : Prop := ss.length ≤ 1048576 ∧ ps.length ≤ 1048576 ∧ (∀ s ∈ ss, s.size ≤ 1048576) ∧ PFits ps

end Go.Proofs.YtjieojfcmigcdaaGreatDoor

namespace Go.Proofs.YtjieojfcmigcdaaGreatDoor
open Go.RowKit
open DM
attribute [local go_sem ↓] Go.wp_at_zero Go.wp_at_succ

/-! marks -/
structure Kept2 (w w' : World) (v1 v2 : Value) : Prop where
 os : w'.os = w.os
 tape : w'.tape = w.tape
 output : w'.output = w.output
 size : w.heap.size ≤ w'.heap.size
 block : ∀ k, k < w.heap.size → some k ≠ v1.ownBlock → some k ≠ v2.ownBlock → w'.heap[k]? = w.heap[k]?

theorem Kept2.below {w w' : World} {v1 v2 : Value} (h : Kept2 w w' v1 v2) (B : Nat) (hB : B ≤ w.heap.size) (h1 : ∀ k, v1.ownBlock = some k → B ≤ k) (h2 : ∀ k, v2.ownBlock = some k → B ≤ k) : Below B w w' :=
 ⟨h.os, h.tape, h.output, h.size, fun k hk => h.block k (Nat.lt_of_lt_of_le hk hB) (fun e => by have := h1 k e.symm; omega) (fun e => by have := h2 k e.symm; omega)⟩

/-! held -/
end Go.Proofs.YtjieojfcmigcdaaGreatDoor

namespace Go.Proofs.YtjieojfcmigcdaaGreatDoor
open Go.RowKit
open DM
attribute [local go_sem ↓] Go.wp_at_zero Go.wp_at_succ

end Go.Proofs.YtjieojfcmigcdaaGreatDoor

namespace Go.Proofs.YtjieojfcmigcdaaGreatDoor
open Go.RowKit
open DM
attribute [local go_sem ↓] Go.wp_at_zero Go.wp_at_succ

theorem SRow.drew {w : World} {a : Option Addr} {ss : List ByteArray} (h : SRow w a ss) : SRow w.drew a ss := h
theorem PRow.drew {w : World} {a : Option Addr} {ps : List Wr} (h : PRow w a ps) : PRow w.drew a ps := h
end Go.Proofs.YtjieojfcmigcdaaGreatDoor

namespace Go.Proofs.YtjieojfcmigcdaaGreatDoor
open Go.RowKit
open KM
attribute [local go_sem ↓] Go.wp_at_zero Go.wp_at_succ

theorem Lies.setO {α : Type} {E : Enc α} {e : TypeId} {w : World} {lo hi : Nat} {v : Value} {xs : List α} (h : Lies E e w lo hi v xs) {a : Addr} (ha : a.block < lo ∨ hi ≤ a.block) (u : Value) : Lies E e (w.setCell a u) lo hi v xs :=
 ⟨ownsRow_setCell_other h.own (fun e => by have := h.lo _ e; omega) u, h.up⟩
theorem TLie.setO {w : World} {lo hi : Nat} {t : Tx} {ra wa : Option Addr} {rc wc : Nat} (h : TLie w lo hi t ra rc wa wc) {a : Addr} (ha : a.block < lo ∨ hi ≤ a.block) (u : Value) : TLie (w.setCell a u) lo hi t ra rc wa wc := by
 obtain ⟨m, p, q, h1, h2⟩ := h.ex
 exact ⟨m, p, q, h1.setO (by omega) u, h2.setO (by omega) u⟩
theorem Zs.setO {w : World} {v : Value} {a : Addr} (hv : v.ownBlock = some a.block) (u : Value) : ∀ {ys : List Ta} {lo hi : Nat}, Zs w v lo hi ys → Zs (w.setCell a u) v lo hi ys
 | [], _, _, h => h
 | _ :: _, _, _, ⟨p, q, h1, h2, h3, h4, h5⟩ => ⟨p, q, h1, h2, h3.setO (h4 _ hv) u, h4, h5.setO hv u⟩
theorem Zn.mono {l h l' h' : Nat} {w w' : World} (k : Zn l h w w') (h1 : l' ≤ l) (h2 : h ≤ h') : Zn l' h' w w' := ⟨k.os, k.tape, k.output, k.size, fun j hj hn => k.block j hj (by omega)⟩

end Go.Proofs.YtjieojfcmigcdaaGreatDoor

/- What laws.toStringS, toPut, toPutS, toDisk and szDisk do. -/
import Derived.Test.YtmijppfppigjcaaGreatPd19
import Derived.Deep.QuietTactic
import Derived.BigQuiet
import Derived.Deep.RegionHeld3
import Derived.Deep.DrawnRows
import Derived.Test.YtmijppfppigjcaaGreatPd01
import Derived.Test.YtmijppfppigjcaaGreatPd02
import Derived.Lib.ItoaNum
import Derived.Lib.ItoaLen
import Derived.Test.YtmijppfppigjcaaGreatPd03
import Derived.Test.YtmijppfppigjcaaGreatPd13
import Derived.Test.YtmijppfppigjcaaGreatPd05
import Derived.Test.YtmijppfppigjcaaGreatPd06
import Derived.Test.YtmijppfppigjcaaGreatPd18
import Derived.Test.YtmijppfppigjcaaGreatPd07
namespace Go.Proofs.YtmijppfppigjcaaGreat
open Go.RowKit
open DM
attribute [local go_sem ↓] Go.wp_at_zero Go.wp_at_succ

structure DOwn (w : World) (base : Nat) (a1 : Option Addr) (c1 : Nat) (a2 : Option Addr) (c2 : Nat) (ss : List ByteArray) (ps : List Wr) : Prop where
 s : SOwn w base (.slice a1 ss.length c1) ss
 p : POwn w base (.slice a2 ps.length c2) ps
theorem SOwn.srow {w : World} {base : Nat} {a : Option Addr} {c : Nat} {l : List ByteArray} (h : SOwn w base (.slice a l.length c) l) : SRow w a l := by
 obtain ⟨ao, cap, hv, hr⟩ := h.row
 cases hv
 exact hr
theorem POwn.prow {w : World} {base : Nat} {a : Option Addr} {c : Nat} {l : List Wr} (h : POwn w base (.slice a l.length c) l) : PRow w a l := by
 obtain ⟨ao, cap, hv, hr⟩ := h.row
 cases hv
 exact hr
theorem DOwn.below {w w' : World} {base : Nat} {a1 a2 : Option Addr} {c1 c2 : Nat} {ss : List ByteArray} {ps : List Wr} (h : DOwn w base a1 c1 a2 c2 ss ps) (hb : Below w.heap.size w w') : DOwn w' base a1 c1 a2 c2 ss ps := ⟨h.s.below hb, h.p.below hb⟩
theorem DOwn.mono {w : World} {base base' : Nat} {a1 a2 : Option Addr} {c1 c2 : Nat} {ss : List ByteArray} {ps : List Wr} (h : DOwn w base a1 c1 a2 c2 ss ps) (hb : base' ≤ base) : DOwn w base' a1 c1 a2 c2 ss ps := ⟨h.s.mono hb, h.p.mono hb⟩

theorem SOwn.set {w : World} {base : Nat} {v : Value} {l : List ByteArray} (h : SOwn w base v l) {a : Addr} (ha : a.block < base) (u : Value) : SOwn (w.setCell a u) base v l := ownsRow_setCell_below h ha u
theorem POwn.set {w : World} {base : Nat} {v : Value} {l : List Wr} (h : POwn w base v l) {a : Addr} (ha : a.block < base) (u : Value) : POwn (w.setCell a u) base v l := ownsRow_setCell_below h ha u

theorem sown_of {w : World} {base g n : Nat} {xs : List Value} {ss : List ByteArray} (hn : n = ss.length) (h : w.ownsRow base 9 1 (.slice (some ⟨g, 0, none⟩) n n) n xs) (hx : ∀ j, j < n → xs[j]? = (scs ss)[j]?) : SOwn w base (.slice (some ⟨g, 0, none⟩) ss.length n) ss := by
 have e : xs = scs ss := by
  apply List.ext_getElem?
  intro j
  by_cases hj : j < n
  ·exact hx j hj
  ·rw [List.getElem?_eq_none (by have := h.1; omega), List.getElem?_eq_none (by rw [scs_len]; omega)]
 subst hn
 rw [e] at h
 exact h

set_option maxRecDepth 100000 in
set_option maxHeartbeats 1000000 in
theorem to80 (ss : List ByteArray) (a : Option Addr) (c : Nat) (hn : ss.length ≤ 100000000) (w : World) (hs : SRow w a ss) :
  Calls Tryz.prog 17 #[.slice a ss.length c] w fun e w' => ∃ a1 c1, e = .returned (.slice a1 ss.length c1) ∧ SOwn w' w.heap.size (.slice a1 ss.length c1) ss ∧ Below w.heap.size w w' := by
 have HS : Hid (SRow w a ss) := hs
 clear hs
 have hmk := mkRow 28 9 1 16 _ Tryz.underlying28 Tryz.info9 ss.length hn (by omega)
 go_enter Tryz.func17, Tryz.ntmps17
 go_wp2
 clear hmk
 have HO : Hid ((w.alloc (.cells (madeCells #[Value.string ByteArray.empty] ss.length) 9)).ownsRow w.heap.size 9 1 (.slice (some ⟨w.heap.size, 0, none⟩) ss.length ss.length) ss.length (madeCells #[Value.string ByteArray.empty] ss.length).toList) :=
  World.ownsRow_lit w _ _ (Nat.le_refl _) (by unfold maxLen; omega) (by rw [size_madeCells, Nat.mul_one])
 go_loopw [4] (fun t wr => ∃ (k : Nat) (xs : List Value), k ≤ ss.length ∧ t = .int .i64 k ∧ Hid (wr.ownsRow w.heap.size 9 1 (.slice (some ⟨w.heap.size, 0, none⟩) ss.length ss.length) ss.length xs) ∧ Hid (∀ j, j < k → xs[j]? = (scs ss)[j]?) ∧ Hid (Below w.heap.size w wr)) (fun t _ => ss.length - (intOf t).toNat)
 case atStart => exact ⟨0, _, Nat.zero_le _, rfl, HO, fun j hj => by omega, (belowRefl w).alloc (Nat.le_refl _) _⟩
 case round =>
  obtain ⟨k, xs, hk, rfl, HX, HA, HB⟩ := hrel
  by_cases hlt : k < ss.length
  ·have hlt' : (k : Int) < (ss.length : Int) := by omega
   have h0 : (0 : Int) ≤ (k : Int) := by omega
   obtain ⟨b, off, rfl, hbl, hc⟩ := (HS.out.below HB.out) (by omega)
   have hck := hc k hlt
   clear hc
   have hlen := HX.out.1
   have hq : wr.cell? ⟨w.heap.size, k, none⟩ = some (xs[k]'(by omega)) := by
    rw [World.ownsRow.cellAt HX.out k (by omega)]; simp
   have hfz := World.ownsRow.frozenAt HX.out k
   have HX2 := (World.ownsRow.stored HX.out k (.string ss[k])).1
   have HA2 : Hid (∀ j, j < k + 1 → (xs.set k (.string ss[k]))[j]? = (scs ss)[j]?) := fun j hj => by
    by_cases e : j = k
    ·subst e
     rw [List.getElem?_set_self (by omega)]
     simp [scs, hlt]
    ·rw [List.getElem?_set_ne (by omega)]
     exact HA.out j (by omega)
   have HX3 : Hid _ := HX2
   clear HX2
   go_wp2
   go_roundw
   case rel => exact ⟨k + 1, _, by omega, by go_num, HX3, HA2, HB.out.setCell (Nat.le_refl _) _⟩
   case measure => simp [intOf]; omega
  ·have hlt' : ¬ (k : Int) < (ss.length : Int) := by omega
   have hk2 : k = ss.length := by omega
   have HD : Hid (SOwn wr w.heap.size (.slice (some ⟨w.heap.size, 0, none⟩) ss.length ss.length) ss) := sown_of rfl HX.out (fun j hj => HA.out j (by omega))
   clear hk2
   go_wp2
   go_ret
   exact ⟨_, _, rfl, HD.out, HB.out⟩

set_option maxHeartbeats 400000 in
theorem to89 (x : Int) (t : ByteArray) (w : World) :
  Calls Tryz.prog 85 #[.agg #[.int .i64 x, .string t]] w fun e w' => e = .returned (.agg #[.int .i64 x, .string t]) ∧ Below w.heap.size w w' := by
 go_enter Tryz.func85, Tryz.ntmps85
 go_wp2
 exact bodyPost_ret (v := .agg #[.int .i64 x, .string t]) (by simp [results, Tryz.results85, go_sem]) rfl ⟨rfl, (((belowRefl w).alloc (Nat.le_refl _) _).alloc (by simp) _).alloc (by simp; omega) _⟩

theorem pown_of {w : World} {base g n : Nat} {xs : List Value} {ps : List Wr} (hn : n = ps.length) (h : w.ownsRow base 154 2 (.slice (some ⟨g, 0, none⟩) n n) n xs) (hx : ∀ j, j < n * 2 → xs[j]? = (pcs ps)[j]?) : POwn w base (.slice (some ⟨g, 0, none⟩) ps.length n) ps := by
 have e : xs = pcs ps := by
  apply List.ext_getElem?
  intro j
  by_cases hj : j < n * 2
  ·exact hx j hj
  ·rw [List.getElem?_eq_none (by have := h.1; omega), List.getElem?_eq_none (by rw [pcs_len]; omega)]
 subst hn
 rw [e] at h
 exact h

set_option maxRecDepth 100000 in
set_option maxHeartbeats 1000000 in
theorem to81 (ps : List Wr) (a : Option Addr) (c : Nat) (hn : ps.length ≤ 100000000) (w : World) (hp : PRow w a ps) :
  Calls Tryz.prog 58 #[.slice a ps.length c] w fun e w' => ∃ a1 c1, e = .returned (.slice a1 ps.length c1) ∧ POwn w' w.heap.size (.slice a1 ps.length c1) ps ∧ Below w.heap.size w w' := by
 have HP : Hid (PRow w a ps) := hp
 clear hp
 have hmk := mkRow 45 154 2 24 _ Tryz.underlying45 Tryz.info154 ps.length hn (by omega)
 go_enter Tryz.func58, Tryz.ntmps58
 go_wp2
 clear hmk
 have HO : Hid ((w.alloc (.cells (madeCells (Value.agg #[.int .i64 0, .string ByteArray.empty]).cells (ps.length * 2)) 154)).ownsRow w.heap.size 154 2 (.slice (some ⟨w.heap.size, 0, none⟩) ps.length ps.length) ps.length (madeCells (Value.agg #[.int .i64 0, .string ByteArray.empty]).cells (ps.length * 2)).toList) :=
  World.ownsRow_lit w _ _ (Nat.le_refl _) (by unfold maxLen; omega) (by rw [size_madeCells])
 go_loopw [4] (fun t wr => ∃ (k : Nat) (xs : List Value), k ≤ ps.length ∧ t = .int .i64 k ∧ Hid (wr.ownsRow w.heap.size 154 2 (.slice (some ⟨w.heap.size, 0, none⟩) ps.length ps.length) ps.length xs) ∧ Hid (∀ j, j < k * 2 → xs[j]? = (pcs ps)[j]?) ∧ Hid (Below w.heap.size w wr)) (fun t _ => ps.length - (intOf t).toNat)
 case atStart => exact ⟨0, _, Nat.zero_le _, rfl, HO, fun j hj => by omega, (belowRefl w).alloc (Nat.le_refl _) _⟩
 case round =>
  obtain ⟨k, xs, hk, rfl, HX, HA, HB⟩ := hrel
  by_cases hlt : k < ps.length
  ·have hlt' : (k : Int) < (ps.length : Int) := by omega
   have h0 : (0 : Int) ≤ (k : Int) := by omega
   obtain ⟨b, off, rfl, hbl, hc⟩ := (HP.out.below HB.out) (by omega)
   have hck := (hc k hlt).1
   have hcl := (hc k hlt).2
   clear hc
   have hgl : w.heap.size < wr.heap.size := (World.ownsRow.lt HX.out _ rfl).2
   go_wp2_with fail
   refine (to89 _ _ _).mono ?_
   rintro e w2 ⟨rfl, hb2⟩
   have HX0 : Hid (w2.ownsRow w.heap.size 154 2 (.slice (some ⟨w.heap.size, 0, none⟩) ps.length ps.length) ps.length xs) := ownsBelow HX.out hb2
   have HB2 : Hid (Below w.heap.size w w2) := HB.out.trans (hb2.mono HB.out.size)
   clear hck hcl hb2
   have hlen := HX0.out.1
   have hq0 : w2.cell? ⟨w.heap.size, k * 2, none⟩ = some (xs[k * 2]'(by omega)) := by
    rw [World.ownsRow.cellAt HX0.out (k * 2) (by omega)]; simp
   have hq1 : w2.cell? ⟨w.heap.size, k * 2 + 1, none⟩ = some (xs[k * 2 + 1]'(by omega)) := by
    rw [World.ownsRow.cellAt HX0.out (k * 2 + 1) (by omega)]; simp
   have hf0 := World.ownsRow.frozenAt HX0.out (k * 2)
   have hf1 := World.ownsRow.frozenAt HX0.out (k * 2 + 1)
   have hx2 := (World.ownsRow.stored (World.ownsRow.stored HX0.out (k * 2) (.int .i64 ps[k].1)).1 (k * 2 + 1) (.string ps[k].2)).1
   have HX3 : Hid _ := hx2
   clear hx2
   have HA2 : Hid (∀ j, j < (k + 1) * 2 → ((xs.set (k * 2) (.int .i64 ps[k].1)).set (k * 2 + 1) (.string ps[k].2))[j]? = (pcs ps)[j]?) := fun j hj => by
    by_cases e : j = k * 2
    ·subst e
     rw [List.getElem?_set_ne (by omega), List.getElem?_set_self (by omega), (pcs_at ps k hlt).1]
    ·by_cases e2 : j = k * 2 + 1
     ·subst e2
      rw [List.getElem?_set_self (by simp; omega), (pcs_at ps k hlt).2]
     ·rw [List.getElem?_set_ne (by omega), List.getElem?_set_ne (by omega)]
      exact HA.out j (by omega)
   go_wp2
   go_roundw
   case rel => exact ⟨k + 1, _, by omega, by go_num, HX3, HA2, (HB2.out.setCell (Nat.le_refl _) _).setCell (Nat.le_refl _) _⟩
   case measure => simp [intOf]; omega
  ·have hlt' : ¬ (k : Int) < (ps.length : Int) := by omega
   have HD : Hid (POwn wr w.heap.size (.slice (some ⟨w.heap.size, 0, none⟩) ps.length ps.length) ps) := pown_of rfl HX.out (fun j hj => HA.out j (by omega))
   go_wp2
   go_ret
   exact ⟨_, _, rfl, HD.out, HB.out⟩

set_option maxRecDepth 100000 in
set_option maxHeartbeats 1000000 in
theorem to44 (ss : List ByteArray) (ps : List Wr) (a1 a2 : Option Addr) (c1 c2 : Nat) (hn : ss.length ≤ 100000000) (hm : ps.length ≤ 100000000) (w : World) (hs : SRow w a1 ss) (hp : PRow w a2 ps) :
  Calls Tryz.prog 33 #[.agg #[.slice a1 ss.length c1, .slice a2 ps.length c2]] w fun e w' => ∃ b1 d1 b2 d2, e = .returned (.agg #[.slice b1 ss.length d1, .slice b2 ps.length d2]) ∧ DOwn w' w.heap.size b1 d1 b2 d2 ss ps ∧ Below w.heap.size w w' := by
 have HS : Hid (SRow w a1 ss) := hs
 have HP : Hid (PRow w a2 ps) := hp
 clear hs hp
 go_enter Tryz.func33, Tryz.ntmps33
 go_wp2_with fail
 refine (to80 ss a1 c1 hn _ (HS.out.below ((((belowRefl w).alloc (Nat.le_refl _) _).alloc (by simp) _).alloc (by simp; omega) _))).mono ?_
 rintro e w1 ⟨b1, d1, rfl, hd1, hb1⟩
 have HD1 : Hid (SOwn w1 (w.heap.size + 1 + 1 + 1) (.slice b1 ss.length d1) ss) := by show SOwn _ _ _ _; simpa using hd1
 obtain ⟨hc1, hf1⟩ := bcell hb1
 have hz1 : w.heap.size + 1 + 1 < w1.heap.size := by have := hb1.size; simp at this; omega
 have hz1' : w.heap.size < w1.heap.size := by omega
 have hz1'' : w.heap.size + 1 < w1.heap.size := by omega
 have HB1 : Hid (Below w.heap.size w w1) := ((((belowRefl w).alloc (Nat.le_refl _) _).alloc (by simp) _).alloc (by simp; omega) _).trans (hb1.mono (by simp; omega))
 clear hd1 hb1
 go_wp2_with fail
 have HB1' : Hid (Below w.heap.size w (w1.setCell ⟨w.heap.size + 1 + 1, 0, none⟩ (.slice b1 ss.length d1))) := HB1.out.setCell (by show _ ≤ _ + 1 + 1; omega) _
 refine (to81 ps a2 c2 hm _ (HP.out.below HB1'.out)).mono ?_
 rintro e w2 ⟨b2, d2, rfl, hd2, hb2⟩
 have HD2 : Hid (POwn w2 (w.heap.size + 1 + 1 + 1) (.slice b2 ps.length d2) ps) := by show POwn _ _ _ _; exact hd2.mono (by simp; omega)
 have HD3 : Hid (SOwn w2 (w.heap.size + 1 + 1 + 1) (.slice b1 ss.length d1) ss) := (HD1.out.set (by show _ + 1 + 1 < _; omega) _).below hb2
 have HB2 : Hid (Below w.heap.size w w2) := HB1'.out.trans (hb2.mono (by simp; omega))
 obtain ⟨hc2, hf2⟩ := bcell hb2
 have hz2 : w.heap.size + 1 + 1 < w2.heap.size := by have := hb2.size; simp at this; omega
 clear hd2 hb2
 go_wp2
 refine bodyPost_ret (v := .agg #[.slice b1 ss.length d1, .slice b2 ps.length d2]) (by simp [results, Tryz.results33, go_sem, hc2, hc1, hz1'']) rfl ⟨b1, d1, b2, d2, rfl, ⟨?_, ?_⟩, ?_⟩
 ·exact (((HD3.out.set (by show _ + 1 + 1 < _; omega) _).set (by show _ + 1 < _; omega) _).set (by show _ + 1 < _; omega) _).mono (by omega)
 ·exact (((HD2.out.set (by show _ + 1 + 1 < _; omega) _).set (by show _ + 1 < _; omega) _).set (by show _ + 1 < _; omega) _).mono (by omega)
 ·exact ((HB2.out.setCell (by show _ ≤ _ + 1 + 1; omega) _).setCell (by show _ ≤ _ + 1; omega) _).setCell (by show _ ≤ _ + 1; omega) _

/-! szDisk -/
set_option maxRecDepth 100000 in
set_option maxHeartbeats 1000000 in
theorem sz78 (ss : List ByteArray) (a : Option Addr) (c : Nat) (hn : ss.length ≤ 9223372036854775807) (hl : ∀ s ∈ ss, s.size ≤ 9223372036854775807) (L : Int) (h0 : 0 ≤ L) (h1 : L ≤ 1048576) (w : World) (hs : SRow w a ss) :
  Calls Tryz.prog 12 #[.slice a ss.length c, .int .i64 L] w fun e w' => w' = w ∧ ∃ r : Int, e = .returned (.int .i64 r) ∧ r ≤ 1048576 ∧ (0 ≤ r → (ss.length : Int) ≤ 1048576 ∧ ∀ s ∈ ss, s.size ≤ 1048576) := by
 have HS : Hid (SRow w a ss) := hs
 have HL : Hid (∀ s ∈ ss, s.size ≤ 9223372036854775807) := hl
 clear hs hl
 by_cases hneg : L - (ss.length : Int) < 0
 ·go_enter Tryz.func12, Tryz.ntmps12
  go_wp2
  go_ret
  exact ⟨rfl, -1, rfl, by omega, fun h => by omega⟩
 ·have hneg' : decide (L - (ss.length : Int) < 0) = false := by simpa using hneg
  go_enter Tryz.func12, Tryz.ntmps12
  go_wp2
  go_loop [1, 5] (fun tl t => ∃ (k : Nat) (l : Int), k ≤ ss.length ∧ t = .int .i64 k ∧ tl = .int .i64 l ∧ 0 ≤ l ∧ l ≤ 1048576 ∧ Hid (∀ j (hj : j < ss.length), j < k → ss[j].size ≤ 1048576)) (fun _ t => ss.length - (intOf t).toNat)
  case atStart => exact ⟨0, L - (ss.length : Int), Nat.zero_le _, rfl, rfl, by omega, by omega, fun j hj h => by omega⟩
  case round =>
   obtain ⟨k, l, hk, rfl, rfl, hl0, hl1, HA⟩ := hrel
   by_cases hlt : k < ss.length
   ·have hlt' : (k : Int) < (ss.length : Int) := by omega
    have hk0 : (0 : Int) ≤ (k : Int) := by omega
    obtain ⟨b, off, rfl, hbl, hc⟩ := HS.out (by omega)
    have hck := hc k hlt
    have hsz := HL.out _ (List.getElem_mem hlt)
    clear hc
    by_cases hn2 : l - (ss[k].size : Int) < 0
    ·go_wp2
     go_ret
     exact ⟨rfl, -1, rfl, by omega, fun h => by omega⟩
    ·have hn2' : ¬ l - (ss[k].size : Int) < 0 := hn2
     have HA2 : Hid (∀ j (hj : j < ss.length), j < k + 1 → ss[j].size ≤ 1048576) := fun j hj h => by
      by_cases e : j = k
      ·subst e; omega
      ·exact HA.out j hj (by omega)
     have hl2 : l - (ss[k].size : Int) ≤ 1048576 := by omega
     go_wp2
     go_round
     case rel => exact ⟨k + 1, l - (ss[k].size : Int), by omega, by go_num, rfl, by omega, hl2, HA2⟩
     case measure => simp [intOf]; omega
   ·have hlt' : ¬ (k : Int) < (ss.length : Int) := by omega
    have HA2 : Hid (∀ s ∈ ss, s.size ≤ 1048576) := fun s hs => by
     obtain ⟨j, hj, rfl⟩ := List.getElem_of_mem hs
     exact HA.out j hj (by omega)
    go_wp2
    go_ret
    exact ⟨rfl, l, rfl, hl1, fun _ => ⟨by omega, HA2.out⟩⟩

def lft (L : Int) (t : ByteArray) : Int := if L < (t.size : Int) then -1 else L - (t.size : Int)
def PFits (ps : List Wr) : Prop := ∀ p ∈ ps, p.2.size ≤ 1048576

set_option maxHeartbeats 400000 in
theorem sz88 (x : Int) (t : ByteArray) (ht : t.size ≤ 9223372036854775807) (L : Int) (h0 : 0 ≤ L) (h1 : L ≤ 1048576) (w : World) :
  Calls Tryz.prog 78 #[.agg #[.int .i64 x, .string t], .int .i64 L] w fun e w' => e = .returned (.int .i64 (lft L t)) ∧ Below w.heap.size w w' := by
 by_cases hneg : L < (t.size : Int)
 ·have hneg' : L - (t.size : Int) < 0 := by omega
  have HV : Hid (-1 = lft L t) := (if_pos hneg).symm
  clear hneg
  go_enter Tryz.func78, Tryz.ntmps78
  go_wp2
  go_ret
  exact ⟨ret_int HV.out, (belowRefl w).alloc (Nat.le_refl _) _⟩
 ·have hneg' : ¬ L - (t.size : Int) < 0 := by omega
  have HV : Hid (L - (t.size : Int) = lft L t) := (if_neg hneg).symm
  clear hneg
  go_enter Tryz.func78, Tryz.ntmps78
  go_wp2
  go_ret
  exact ⟨ret_int HV.out, (belowRefl w).alloc (Nat.le_refl _) _⟩

def Fits (ss : List ByteArray) (ps : List Wr) : Prop := ss.length ≤ 1048576 ∧ ps.length ≤ 1048576 ∧ (∀ s ∈ ss, s.size ≤ 1048576) ∧ PFits ps

end Go.Proofs.YtmijppfppigjcaaGreat

namespace Go.Proofs.YtmijppfppigjcaaGreat
open Go.RowKit
open DM
attribute [local go_sem ↓] Go.wp_at_zero Go.wp_at_succ

/-! marks -/
structure Kept2 (w w' : World) (v1 v2 : Value) : Prop where
 os : w'.os = w.os
 tape : w'.tape = w.tape
 output : w'.output = w.output
 size : w.heap.size ≤ w'.heap.size
 block : ∀ k, k < w.heap.size → some k ≠ v1.ownBlock → some k ≠ v2.ownBlock → w'.heap[k]? = w.heap[k]?

theorem Kept2.below {w w' : World} {v1 v2 : Value} (h : Kept2 w w' v1 v2) (B : Nat) (hB : B ≤ w.heap.size) (h1 : ∀ k, v1.ownBlock = some k → B ≤ k) (h2 : ∀ k, v2.ownBlock = some k → B ≤ k) : Below B w w' :=
 ⟨h.os, h.tape, h.output, h.size, fun k hk => h.block k (Nat.lt_of_lt_of_le hk hB) (fun e => by have := h1 k e.symm; omega) (fun e => by have := h2 k e.symm; omega)⟩

/-! held -/
end Go.Proofs.YtmijppfppigjcaaGreat

namespace Go.Proofs.YtmijppfppigjcaaGreat
open Go.RowKit
open KM
open VM
attribute [local go_sem ↓] Go.wp_at_zero Go.wp_at_succ

theorem own_apartJ {w : World} {b b' e e' s s' n n' : Nat} {v v' : Value} {xs xs' : List Value} (h : w.ownsRow b e s v n xs) (h' : w.ownsRow b' e' s' v' n' xs') (hne : e ≠ e') : ∀ g, v.ownBlock = some g → v'.ownBlock ≠ some g := by
 intro g hg hg'
 rcases h.2 with ⟨rfl, _⟩ | ⟨g1, cap, cur, rfl, _, hh, _⟩
 ·cases hg
 ·rcases h'.2 with ⟨rfl, _⟩ | ⟨g2, cap', cur', rfl, _, hh', _⟩
  ·cases hg'
  ·have e1 : g1 = g := by simpa [Value.ownBlock] using hg
   have e2 : g2 = g := by simpa [Value.ownBlock] using hg'
   rw [e1] at hh
   rw [e2, hh] at hh'
   cases hh'
   exact hne rfl
theorem own_grown {α : Type} {E : Enc α} {e : TypeId} {w w' : World} {base : Nat} {v : Value} {xs : List α} {row : Option Nat} (h : GOwn E e w base v xs) (hg : w.grownBy w' row) (hne : ∀ g, v.ownBlock = some g → row ≠ some g) : GOwn E e w' base v xs := by
 obtain ⟨h1, h2⟩ := h
 refine ⟨h1, ?_⟩
 rcases h2 with h2 | ⟨g, cap, cur, hv, hg', hh, r⟩
 ·exact Or.inl h2
 ·refine Or.inr ⟨g, cap, cur, hv, hg', ?_, r⟩
  have hlt : g < w.heap.size := (Array.getElem?_eq_some_iff.1 hh).1
  rw [hg.block g hlt (fun e => hne g (by rw [hv]; rfl) e.symm)]
  exact hh
theorem own_kn {α : Type} {E : Enc α} {e : TypeId} {w w' : World} {base : Nat} {v : Value} {xs : List α} {bs : List Nat} (h : GOwn E e w base v xs) (hk : Kn bs w w') (hne : ∀ g, v.ownBlock = some g → g ∉ bs) : GOwn E e w' base v xs := by
 obtain ⟨h1, h2⟩ := h
 refine ⟨h1, ?_⟩
 rcases h2 with h2 | ⟨g, cap, cur, hv, hg', hh, r⟩
 ·exact Or.inl h2
 ·refine Or.inr ⟨g, cap, cur, hv, hg', ?_, r⟩
  have hlt : g < w.heap.size := (Array.getElem?_eq_some_iff.1 hh).1
  rw [hk.block g hlt (hne g (by rw [hv]; rfl))]
  exact hh
theorem Lies.kn {α : Type} {E : Enc α} {e : TypeId} {w w' : World} {lo hi : Nat} {v : Value} {xs : List α} {bs : List Nat} (h : Lies E e w lo hi v xs) (hk : Kn bs w w') (hne : ∀ x ∈ bs, x < lo ∨ hi ≤ x) : Lies E e w' lo hi v xs :=
 ⟨own_kn h.own hk (fun g hg hm => by have := h.lo g hg; have := hne g hm; omega), h.up⟩
theorem TLie.kn {w w' : World} {lo hi : Nat} {t : Tx} {ra wa : Option Addr} {rc wc : Nat} {bs : List Nat} (h : TLie w lo hi t ra rc wa wc) (hk : Kn bs w w') (hne : ∀ x ∈ bs, x < lo ∨ hi ≤ x) : TLie w' lo hi t ra rc wa wc := by
 obtain ⟨m, h1, h2, h3, h4⟩ := h.ex
 exact ⟨m, h1, h2, h3.kn hk (fun x hx => by have := hne x hx; omega), h4.kn hk (fun x hx => by have := hne x hx; omega)⟩
theorem TLie.part {w w' : World} {lo hi b : Nat} {t : Tx} {ra wa : Option Addr} {rc wc : Nat} {v : Value} {ys : List Ta} (h : TLie w lo hi t ra rc wa wc) (hv : GOwn encT 62 w b v ys) (hg : w.grownBy w' v.ownBlock) : TLie w' lo hi t ra rc wa wc := by
 obtain ⟨m, h1, h2, h3, h4⟩ := h.ex
 exact ⟨m, h1, h2, ⟨own_grown h3.own hg (own_apartJ h3.own hv (by decide)), h3.up⟩, ⟨own_grown h4.own hg (own_apartJ h4.own hv (by decide)), h4.up⟩⟩
def Ea (w : World) (lo hi : Nat) (ys : List Ta) : Prop := ∀ y ∈ ys, ∃ p q, lo ≤ p ∧ q ≤ hi ∧ TLie w p q y.t y.ra y.rc y.wa y.wc
theorem Ea.below {w w' : World} {lo hi : Nat} {ys : List Ta} (h : Ea w lo hi ys) (hb : Below w.heap.size w w') : Ea w' lo hi ys := fun y hy => by
 obtain ⟨p, q, h1, h2, h3⟩ := h y hy
 exact ⟨p, q, h1, h2, h3.below hb⟩
theorem Ea.mono {w : World} {lo hi lo' hi' : Nat} {ys : List Ta} (h : Ea w lo hi ys) (k : lo' ≤ lo) (k' : hi ≤ hi') : Ea w lo' hi' ys := fun y hy => by
 obtain ⟨p, q, h1, h2, h3⟩ := h y hy
 exact ⟨p, q, by omega, by omega, h3⟩
theorem Ea.kn {w w' : World} {lo hi : Nat} {ys : List Ta} {bs : List Nat} (h : Ea w lo hi ys) (hk : Kn bs w w') (hne : ∀ x ∈ bs, x < lo ∨ hi ≤ x) : Ea w' lo hi ys := fun y hy => by
 obtain ⟨p, q, h1, h2, h3⟩ := h y hy
 exact ⟨p, q, h1, h2, h3.kn hk (fun x hx => by have := hne x hx; omega)⟩
theorem Ea.part {w w' : World} {lo hi b : Nat} {ys zs : List Ta} {v : Value} (h : Ea w lo hi ys) (hv : GOwn encT 62 w b v zs) (hg : w.grownBy w' v.ownBlock) : Ea w' lo hi ys := fun y hy => by
 obtain ⟨p, q, h1, h2, h3⟩ := h y hy
 exact ⟨p, q, h1, h2, h3.part hv hg⟩
theorem Ea.rows {w : World} {lo hi : Nat} {ys : List Ta} (h : Ea w lo hi ys) : ∀ y ∈ ys, TRow w y.t y.ra y.wa := fun y hy => by
 obtain ⟨p, q, _, _, h3⟩ := h y hy
 exact h3.row
theorem Ea.any {w : World} {lo hi : Nat} {ys : List Ta} (h : Ea w lo hi ys) : ∀ y ∈ ys, ∃ p q, TLie w p q y.t y.ra y.rc y.wa y.wc := fun y hy => by
 obtain ⟨p, q, _, _, h3⟩ := h y hy
 exact ⟨p, q, h3⟩
theorem Ea.sub {w : World} {lo hi : Nat} {ys zs : List Ta} (h : Ea w lo hi ys) (hs : ∀ y ∈ zs, y ∈ ys) : Ea w lo hi zs := fun y hy => h y (hs y hy)
theorem Ea.snoc {w : World} {lo hi : Nat} {ys : List Ta} {y : Ta} (h : Ea w lo hi ys) {p q : Nat} (h1 : lo ≤ p) (h2 : q ≤ hi) (hT : TLie w p q y.t y.ra y.rc y.wa y.wc) : Ea w lo hi (ys ++ [y]) := fun z hz => by
 rcases List.mem_append.1 hz with hz | hz
 ·exact h z hz
 ·rw [List.mem_singleton.1 hz]; exact ⟨p, q, h1, h2, hT⟩
theorem Zs.ea {w : World} {v : Value} : ∀ {ys : List Ta} {lo hi : Nat}, Zs w v lo hi ys → Ea w lo hi ys
 | [], _, _, _ => fun _ hy => by cases hy
 | _ :: _, lo, hi, ⟨p, q, h1, h2, h3, _, h5⟩ => fun y hy => by
  rcases List.mem_cons.1 hy with rfl | hy
  ·exact ⟨p, q, h1, h5.le, h3⟩
  ·exact h5.ea.mono (by omega) (Nat.le_refl _) y hy
structure Lo (w : World) (lo hi : Nat) (v : Value) (ys : List Ta) : Prop where
 own : Lies encT 62 w lo hi v ys
 ea : Ea w lo hi ys
theorem Lo.below {w w' : World} {lo hi : Nat} {v : Value} {ys : List Ta} (h : Lo w lo hi v ys) (hb : Below w.heap.size w w') : Lo w' lo hi v ys := ⟨h.own.below hb, h.ea.below hb⟩
theorem Lo.mono {w : World} {lo hi lo' hi' : Nat} {v : Value} {ys : List Ta} (h : Lo w lo hi v ys) (k : lo' ≤ lo) (k' : hi ≤ hi') : Lo w lo' hi' v ys := ⟨h.own.mono k k', h.ea.mono k k'⟩
theorem Lo.kn {w w' : World} {lo hi : Nat} {v : Value} {ys : List Ta} {bs : List Nat} (h : Lo w lo hi v ys) (hk : Kn bs w w') (hne : ∀ x ∈ bs, x < lo ∨ hi ≤ x) : Lo w' lo hi v ys := ⟨h.own.kn hk hne, h.ea.kn hk hne⟩
theorem Lo.rows {w : World} {lo hi c : Nat} {a : Option Addr} {ys : List Ta} (h : Lo w lo hi (.slice a ys.length c) ys) : TRows w a ys := ⟨h.own.own.grow, h.ea.rows⟩
theorem LLie.lo {w : World} {lo hi : Nat} {v : Value} {ys : List Ta} (h : LLie w lo hi v ys) : Lo w lo hi v ys := ⟨h.own, h.zs.ea⟩
theorem LLie.kn {w w' : World} {lo hi : Nat} {v : Value} {ys : List Ta} {bs : List Nat} (h : LLie w lo hi v ys) (hk : Kn bs w w') (hne : ∀ x ∈ bs, x < lo ∨ hi ≤ x) : LLie w' lo hi v ys := by
 refine ⟨h.own.kn hk hne, ?_⟩
 have : ∀ (zs : List Ta) (l m : Nat), Zs w v l m zs → lo ≤ l → m ≤ hi → Zs w' v l m zs := by
  intro zs
  induction zs with
  | nil => intro l m hz _ _; exact hz
  | cons z zs ih =>
   rintro l m ⟨p, q, h1, h2, h3, h4, h5⟩ k1 k2
   have := h5.le
   exact ⟨p, q, h1, h2, h3.kn hk (fun x hx => by have := hne x hx; omega), h4, ih q m h5 (by omega) k2⟩
 exact this ys lo hi h.zs (Nat.le_refl _) (Nat.le_refl _)
theorem Lo.push {w w' : World} {lo hi n0 cap g' p q : Nat} {v : Value} {ys : List Ta} {y : Ta} (h : Lo w lo hi v ys) (hT : TLie w p q y.t y.ra y.rc y.wa y.wc) (h1 : lo ≤ p) (h2 : q ≤ w'.heap.size) (h3 : hi ≤ w'.heap.size)
  (ho : GOwn encT 62 w' lo (.slice (some ⟨g', 0, none⟩) n0 cap) (ys ++ [y])) (hg : w.grownBy w' v.ownBlock) : Lo w' lo w'.heap.size (.slice (some ⟨g', 0, none⟩) n0 cap) (ys ++ [y]) :=
 ⟨Lies.of ho, ((h.ea.part h.own.own hg).mono (Nat.le_refl _) h3).snoc h1 h2 (hT.part h.own.own hg)⟩
structure Bo (w : World) (lo hi : Nat) (c : Bb) : Prop where
 v : Lies encV 150 w lo hi (.slice c.va c.vs.length c.vc) c.vs
 p : Lo w lo hi (.slice c.pa c.ps.length c.pc) c.ps
 q : Lo w lo hi (.slice c.qa c.qs.length c.qc) c.qs
theorem Bo.below {w w' : World} {lo hi : Nat} {c : Bb} (h : Bo w lo hi c) (hb : Below w.heap.size w w') : Bo w' lo hi c := ⟨h.v.below hb, h.p.below hb, h.q.below hb⟩
theorem Bo.mono {w : World} {lo hi lo' hi' : Nat} {c : Bb} (h : Bo w lo hi c) (k : lo' ≤ lo) (k' : hi ≤ hi') : Bo w lo' hi' c := ⟨h.v.mono k k', h.p.mono k k', h.q.mono k k'⟩
theorem Bo.kn {w w' : World} {lo hi : Nat} {c : Bb} {bs : List Nat} (h : Bo w lo hi c) (hk : Kn bs w w') (hne : ∀ x ∈ bs, x < lo ∨ hi ≤ x) : Bo w' lo hi c := ⟨h.v.kn hk hne, h.p.kn hk hne, h.q.kn hk hne⟩
theorem Bo.rows {w : World} {lo hi : Nat} {c : Bb} (h : Bo w lo hi c) : BRows w c := ⟨h.v.own.grow, h.p.rows, h.q.rows⟩
theorem BLie.bo {w : World} {lo hi : Nat} {c : Bb} (h : BLie w lo hi c) : Bo w lo hi c := by
 obtain ⟨m1, m2, k1, k2, k3, h1, h2, h3⟩ := h.ex
 exact ⟨h1.mono (Nat.le_refl _) (by omega), h2.lo.mono k1 k3, h3.lo.mono (by omega) (Nat.le_refl _)⟩
theorem BLie.kn {w w' : World} {lo hi : Nat} {c : Bb} {bs : List Nat} (h : BLie w lo hi c) (hk : Kn bs w w') (hne : ∀ x ∈ bs, x < lo ∨ hi ≤ x) : BLie w' lo hi c := by
 obtain ⟨m1, m2, k1, k2, k3, h1, h2, h3⟩ := h.ex
 exact ⟨m1, m2, k1, k2, k3, h1.kn hk (fun x hx => by have := hne x hx; omega), h2.kn hk (fun x hx => by have := hne x hx; omega), h3.kn hk (fun x hx => by have := hne x hx; omega)⟩
structure BLd (w : World) (lo hi : Nat) (c : Bb) : Prop where
 ex : ∃ v1 v2 p1 p2 q1 q2, (lo ≤ v1 ∧ v2 ≤ hi ∧ lo ≤ p1 ∧ p2 ≤ hi ∧ lo ≤ q1 ∧ q2 ≤ hi) ∧ (v2 ≤ p1 ∨ p2 ≤ v1) ∧ (v2 ≤ q1 ∨ q2 ≤ v1) ∧ (p2 ≤ q1 ∨ q2 ≤ p1) ∧ Lies encV 150 w v1 v2 (.slice c.va c.vs.length c.vc) c.vs ∧ LLie w p1 p2 (.slice c.pa c.ps.length c.pc) c.ps ∧ LLie w q1 q2 (.slice c.qa c.qs.length c.qc) c.qs
theorem BLd.below {w w' : World} {lo hi : Nat} {c : Bb} (h : BLd w lo hi c) (hb : Below w.heap.size w w') : BLd w' lo hi c := by
 obtain ⟨a1, a2, a3, a4, a5, a6, k1, k2, k3, k4, h1, h2, h3⟩ := h.ex
 exact ⟨a1, a2, a3, a4, a5, a6, k1, k2, k3, k4, h1.below hb, h2.below hb, h3.below hb⟩
theorem BLd.mono {w : World} {lo hi lo' hi' : Nat} {c : Bb} (h : BLd w lo hi c) (k : lo' ≤ lo) (k' : hi ≤ hi') : BLd w lo' hi' c := by
 obtain ⟨a1, a2, a3, a4, a5, a6, k1, k2, k3, k4, h1, h2, h3⟩ := h.ex
 exact ⟨a1, a2, a3, a4, a5, a6, by omega, k2, k3, k4, h1, h2, h3⟩
theorem BLd.zn {w w' : World} {lo hi l h : Nat} {c : Bb} (k : BLd w lo hi c) (hz : Zn l h w w') (hne : hi ≤ l ∨ h ≤ lo) : BLd w' lo hi c := by
 obtain ⟨a1, a2, a3, a4, a5, a6, k1, k2, k3, k4, h1, h2, h3⟩ := k.ex
 exact ⟨a1, a2, a3, a4, a5, a6, k1, k2, k3, k4, h1.zn hz (by omega), h2.zn hz (by omega), h3.zn hz (by omega)⟩
theorem BLd.kn {w w' : World} {lo hi : Nat} {c : Bb} {bs : List Nat} (h : BLd w lo hi c) (hk : Kn bs w w') (hne : ∀ x ∈ bs, x < lo ∨ hi ≤ x) : BLd w' lo hi c := by
 obtain ⟨a1, a2, a3, a4, a5, a6, k1, k2, k3, k4, h1, h2, h3⟩ := h.ex
 exact ⟨a1, a2, a3, a4, a5, a6, k1, k2, k3, k4, h1.kn hk (fun x hx => by have := hne x hx; omega), h2.kn hk (fun x hx => by have := hne x hx; omega), h3.kn hk (fun x hx => by have := hne x hx; omega)⟩
theorem BLd.rows {w : World} {lo hi : Nat} {c : Bb} (h : BLd w lo hi c) : BRows w c := by
 obtain ⟨a1, a2, a3, a4, a5, a6, k1, k2, k3, k4, h1, h2, h3⟩ := h.ex
 exact ⟨h1.own.grow, h2.rows, h3.rows⟩
theorem BLd.bo {w : World} {lo hi : Nat} {c : Bb} (h : BLd w lo hi c) : Bo w lo hi c := by
 obtain ⟨a1, a2, a3, a4, a5, a6, k1, k2, k3, k4, h1, h2, h3⟩ := h.ex
 exact ⟨h1.mono (by omega) (by omega), h2.lo.mono (by omega) (by omega), h3.lo.mono (by omega) (by omega)⟩
theorem kn_s5 (w : World) (b : Nat) (v0 v1 v2 v3 v4 : Value) : Kn [b] w (((((w.setCell ⟨b, 0, none⟩ v0).setCell ⟨b, 1, none⟩ v1).setCell ⟨b, 2, none⟩ v2).setCell ⟨b, 3, none⟩ v3).setCell ⟨b, 4, none⟩ v4) :=
 ((((Kn.set w b 0 v0).trans (Kn.set _ b 1 v1)).trans (Kn.set _ b 2 v2)).trans (Kn.set _ b 3 v3)).trans (Kn.set _ b 4 v4)
end Go.Proofs.YtmijppfppigjcaaGreat

/- What laws' sz, to and eq do over rows of writes and of ranges. -/
import Derived.Test.YtjieojfcmigcdaaGreatDoorPw04
import Derived.Test.YtjieojfcmigcdaaGreatDoorPw05
import Derived.Test.YtjieojfcmigcdaaGreatDoorPw02
import Derived.Deep.RegionHeld
import Derived.Test.YtjieojfcmigcdaaGreatDoorPw03
namespace Go.Proofs.YtjieojfcmigcdaaGreatDoor
open Go.RowKit
open KM
attribute [local go_sem ↓] Go.wp_at_zero Go.wp_at_succ

set_option maxRecDepth 100000 in
set_option maxHeartbeats 1000000 in
theorem szSW (xs : List Wt) (a : Option Addr) (c : Nat) (hn : xs.length ≤ maxLen) (hl : ∀ x ∈ xs, x.1.size ≤ maxLen ∧ x.2.1.size ≤ maxLen) (L : Int) (h0 : 0 ≤ L) (h1 : L ≤ 1048576) (w : World) (hp : GRow encW w a xs) :
  Calls Tryz.prog 73 #[.slice a xs.length c, .int .i64 L] w fun e w' => Below w.heap.size w w' ∧ ∃ r : Int, e = .returned (.int .i64 r) ∧ r ≤ 1048576 ∧ (0 ≤ r → xs.length ≤ 1048576 ∧ WFit xs) := by
 have HP : Hid (GRow encW w a xs) := hp
 have HL : Hid (∀ x ∈ xs, x.1.size ≤ maxLen ∧ x.2.1.size ≤ maxLen) := hl
 clear hp hl
 unfold maxLen at hn
 by_cases hneg : L - (xs.length : Int) < 0
 ·go_enter Tryz.func73, Tryz.ntmps73
  go_wp2
  go_ret
  exact ⟨belowRefl w, -1, rfl, by omega, fun h => by omega⟩
 ·have hneg' : decide (L - (xs.length : Int) < 0) = false := by simpa using hneg
  go_enter Tryz.func73, Tryz.ntmps73
  go_wp2
  go_loopw [1, 5] (fun tl t wr => ∃ (k : Nat) (l : Int), k ≤ xs.length ∧ t = .int .i64 k ∧ tl = .int .i64 l ∧ 0 ≤ l ∧ l ≤ 1048576 ∧ Hid (∀ j (hj : j < xs.length), j < k → xs[j].1.size ≤ 1048576 ∧ xs[j].2.1.size ≤ 1048576) ∧ Hid (Below w.heap.size w wr)) (fun _ t _ => xs.length - (intOf t).toNat)
  case atStart => exact ⟨0, L - (xs.length : Int), Nat.zero_le _, rfl, rfl, by omega, by omega, fun j hj h => by omega, belowRefl w⟩
  case round =>
   obtain ⟨k, l, hk, rfl, rfl, hl0, hl1, HA, HB⟩ := hrel
   by_cases hlt : k < xs.length
   ·have hlt' : (k : Int) < (xs.length : Int) := by omega
    have hk0 : (0 : Int) ≤ (k : Int) := by omega
    obtain ⟨b, off, rfl, hbl, hc⟩ := (HP.out.below HB.out) (by omega)
    have r0 := ((wat hc) k hlt).1
    have r1 := ((wat hc) k hlt).2.1
    have r2 := ((wat hc) k hlt).2.2
    have HZ : Hid (xs[k].1.size ≤ maxLen ∧ xs[k].2.1.size ≤ maxLen) := HL.out _ (List.getElem_mem hlt)
    clear hc
    go_wp2_with fail
    refine (szw xs[k].1 xs[k].2.1 xs[k].2.2 l hl0 hl1 HZ.out.1 HZ.out.2 _).mono ?_
    rintro e w2 ⟨r, rfl, hr, hb2⟩
    have HB2 : Hid (Below w.heap.size w w2) := HB.out.trans (hb2.mono HB.out.size)
    clear hb2 r0 r1 r2
    by_cases hn2 : r < 0
    ·clear hr
     go_wp2
     go_ret
     exact ⟨HB2.out, -1, rfl, by omega, fun h => by omega⟩
    ·have hn3 : ¬ r < 0 := hn2
     have HR : Hid (0 ≤ r ∧ r ≤ l ∧ (xs[k].1.size : Int) + xs[k].2.1.size + r = l) := by
      rcases hr with hr | hr
      ·exact absurd hr hn2
      ·exact hr
     have HA2 : Hid (∀ j (hj : j < xs.length), j < k + 1 → xs[j].1.size ≤ 1048576 ∧ xs[j].2.1.size ≤ 1048576) := fun j hj h => by
      by_cases e : j = k
      ·subst e; have := HR.out; omega
      ·exact HA.out j hj (by omega)
     have hr0 : 0 ≤ r := HR.out.1
     have hr1 : r ≤ 1048576 := Int.le_trans HR.out.2.1 hl1
     clear hn2 hr
     go_wp2
     go_roundw
     case rel => exact ⟨k + 1, r, by omega, by go_num, rfl, hr0, hr1, HA2, HB2⟩
     case measure => simp [intOf]; omega
   ·have hlt' : ¬ (k : Int) < (xs.length : Int) := by omega
    have HA2 : Hid (∀ x ∈ xs, x.1.size ≤ 1048576 ∧ x.2.1.size ≤ 1048576) := fun s hs => by
     obtain ⟨j, hj, rfl⟩ := List.getElem_of_mem hs
     exact HA.out j hj (by omega)
    go_wp2
    go_ret
    exact ⟨HB.out, l, rfl, hl1, fun _ => ⟨by omega, HA2.out⟩⟩

set_option maxRecDepth 100000 in
set_option maxHeartbeats 1000000 in
theorem toSW (xs : List Wt) (a : Option Addr) (c : Nat) (hn : xs.length ≤ 100000000) (w : World) (hp : GRow encW w a xs) :
  Calls Tryz.prog 75 #[.slice a xs.length c] w fun e w' => ∃ a1 c1, e = .returned (.slice a1 xs.length c1) ∧ GOwn encW 166 w' w.heap.size (.slice a1 xs.length c1) xs ∧ Below w.heap.size w w' := by
 have HP : Hid (GRow encW w a xs) := hp
 clear hp
 have hmk := mkRow 114 166 3 _ _ Tryz.underlying114 Tryz.info166 xs.length hn (by omega)
 go_enter Tryz.func75, Tryz.ntmps75
 go_wp2
 clear hmk
 obtain ⟨cs0, hcs0⟩ : ∃ cs, cs = madeCells (Value.agg #[.string ByteArray.empty, .string ByteArray.empty, .bool false]).cells (xs.length * 3) := ⟨_, rfl⟩
 have HO : Hid ((w.alloc (.cells cs0 166)).ownsRow w.heap.size 166 3 (.slice (some ⟨w.heap.size, 0, none⟩) xs.length xs.length) xs.length cs0.toList) :=
  World.ownsRow_lit w _ _ (Nat.le_refl _) (by unfold maxLen; omega) (by rw [hcs0, size_madeCells])
 rw [hcs0] at HO
 clear hcs0 cs0
 go_loopw [4] (fun t wr => ∃ (k : Nat) (cs : List Value), k ≤ xs.length ∧ t = .int .i64 k ∧ Hid (wr.ownsRow w.heap.size 166 3 (.slice (some ⟨w.heap.size, 0, none⟩) xs.length xs.length) xs.length cs) ∧ Hid (∀ j, j < k * 3 → cs[j]? = (encW.cells xs)[j]?) ∧ Hid (Below w.heap.size w wr)) (fun t _ => xs.length - (intOf t).toNat)
 case atStart => exact ⟨0, _, Nat.zero_le _, rfl, HO, fun j hj => by omega, (belowRefl w).alloc (Nat.le_refl _) _⟩
 case round =>
  obtain ⟨k, cs, hk, rfl, HX, HA, HB⟩ := hrel
  by_cases hlt : k < xs.length
  ·have hlt' : (k : Int) < (xs.length : Int) := by omega
   have h0 : (0 : Int) ≤ (k : Int) := by omega
   obtain ⟨b, off, rfl, hbl, hc⟩ := (HP.out.below HB.out) (by omega)
   have r0 := ((wat hc) k hlt).1
   have r1 := ((wat hc) k hlt).2.1
   have r2 := ((wat hc) k hlt).2.2
   clear hc
   have hgl : w.heap.size < wr.heap.size := (World.ownsRow.lt HX.out _ rfl).2
   go_wp2_with fail
   refine (tow xs[k].1 xs[k].2.1 xs[k].2.2 _).mono ?_
   rintro e w2 ⟨rfl, hb2⟩
   have HX0 : Hid (w2.ownsRow w.heap.size 166 3 (.slice (some ⟨w.heap.size, 0, none⟩) xs.length xs.length) xs.length cs) := ownsBelow HX.out hb2
   have HB2 : Hid (Below w.heap.size w w2) := HB.out.trans (hb2.mono HB.out.size)
   clear r0 r1 r2 hb2
   have hlen := HX0.out.1
   have hq0 : w2.cell? ⟨w.heap.size, k * 3, none⟩ = some (cs[k * 3]'(by omega)) := by
    rw [World.ownsRow.cellAt HX0.out (k * 3) (by omega)]; simp
   have hf0 := World.ownsRow.frozenAt HX0.out (k * 3)
   have hq1 : w2.cell? ⟨w.heap.size, k * 3 + 1, none⟩ = some (cs[k * 3 + 1]'(by omega)) := by
    rw [World.ownsRow.cellAt HX0.out (k * 3 + 1) (by omega)]; simp
   have hf1 := World.ownsRow.frozenAt HX0.out (k * 3 + 1)
   have hq2 : w2.cell? ⟨w.heap.size, k * 3 + 2, none⟩ = some (cs[k * 3 + 2]'(by omega)) := by
    rw [World.ownsRow.cellAt HX0.out (k * 3 + 2) (by omega)]; simp
   have hf2 := World.ownsRow.frozenAt HX0.out (k * 3 + 2)
   have hx2 := (World.ownsRow.stored (World.ownsRow.stored (World.ownsRow.stored HX0.out (k * 3) (.string xs[k].1)).1 (k * 3 + 1) (.string xs[k].2.1)).1 (k * 3 + 2) (.bool xs[k].2.2)).1
   have HX3 : Hid _ := hx2
   clear hx2
   have HA2 : Hid (∀ j, j < (k + 1) * 3 → (((cs.set (k * 3) (.string xs[k].1)).set (k * 3 + 1) (.string xs[k].2.1)).set (k * 3 + 2) (.bool xs[k].2.2))[j]? = (encW.cells xs)[j]?) := fun j hj => by
    by_cases e0 : j = k * 3
    ·subst e0
     rw [List.getElem?_set_ne (by omega), List.getElem?_set_ne (by omega), List.getElem?_set_self (by omega)]
     have := encW.cells_at xs k hlt 0 (by decide)
     simp only [encW, Nat.add_zero] at this ⊢
     rw [this]; rfl
    by_cases e1 : j = k * 3 + 1
    ·subst e1
     rw [List.getElem?_set_ne (by omega), List.getElem?_set_self (by simp; omega)]
     have := encW.cells_at xs k hlt 1 (by decide)
     simp only [encW] at this ⊢
     rw [this]; rfl
    by_cases e2 : j = k * 3 + 2
    ·subst e2
     rw [List.getElem?_set_self (by simp; omega)]
     have := encW.cells_at xs k hlt 2 (by decide)
     simp only [encW] at this ⊢
     rw [this]; rfl
    rw [List.getElem?_set_ne (by omega), List.getElem?_set_ne (by omega), List.getElem?_set_ne (by omega)]
    exact HA.out j (by omega)
   go_wp2
   go_roundw
   case rel => exact ⟨k + 1, _, by omega, by go_num, HX3, HA2, (((HB2.out.setCell (Nat.le_refl _) _).setCell (Nat.le_refl _) _).setCell (Nat.le_refl _) _)⟩
   case measure => simp [intOf]; omega
  ·have hlt' : ¬ (k : Int) < (xs.length : Int) := by omega
   have HD : Hid (GOwn encW 166 wr w.heap.size (.slice (some ⟨w.heap.size, 0, none⟩) xs.length xs.length) xs) := gown_of rfl HX.out (fun j hj => HA.out j (Nat.lt_of_lt_of_le hj (Nat.mul_le_mul_right _ (by omega))))
   go_wp2
   go_ret
   exact ⟨_, _, rfl, HD.out, HB.out⟩

set_option maxHeartbeats 400000 in
theorem eqw (x0 : ByteArray) (x1 : ByteArray) (x2 : Bool) (w : World) :
  Calls Tryz.prog 93 #[.agg #[.string x0, .string x1, .bool x2], .agg #[.string x0, .string x1, .bool x2]] w fun e w' => e = .returned (.bool true) ∧ Below w.heap.size w w' := by
 have hbn2 := bne_self' x2
 go_enter Tryz.func93, Tryz.ntmps93
 go_wp2
 go_ret
 exact ⟨rfl, ((belowRefl w).alloc (Nat.le_refl _) _).alloc (by simp) _⟩

set_option maxRecDepth 100000 in
set_option maxHeartbeats 1000000 in
theorem eqSW (a1 a2 : Option Addr) (c1 c2 : Nat) (xs : List Wt) (hn : xs.length ≤ 100000000) (w : World) (h1 : GRow encW w a1 xs) (h2 : GRow encW w a2 xs) :
  Calls Tryz.prog 77 #[.slice a1 xs.length c1, .slice a2 xs.length c2] w fun e w' => e = .returned (.bool true) ∧ Below w.heap.size w w' := by
 have H1 : Hid (GRow encW w a1 xs) := h1
 have H2 : Hid (GRow encW w a2 xs) := h2
 clear h1 h2
 go_enter Tryz.func77, Tryz.ntmps77
 go_wp2
 go_loopw [5] (fun t wr => ∃ k : Nat, k ≤ xs.length ∧ t = .int .i64 k ∧ Hid (Below w.heap.size w wr)) (fun t _ => xs.length - (intOf t).toNat)
 case atStart => exact ⟨0, Nat.zero_le _, rfl, Below.refl _ _⟩
 case round =>
  obtain ⟨k, hk, rfl, HB⟩ := hrel
  by_cases hlt : k < xs.length
  ·have hlt' : (k : Int) < (xs.length : Int) := by omega
   have h0 : (0 : Int) ≤ (k : Int) := by omega
   obtain ⟨b1, off1, rfl, hl1, q1⟩ := (H1.out.below HB.out) (by omega)
   obtain ⟨b2, off2, rfl, hl2, q2⟩ := (H2.out.below HB.out) (by omega)
   have r10 := ((wat q1) k hlt).1
   have r11 := ((wat q1) k hlt).2.1
   have r12 := ((wat q1) k hlt).2.2
   have r20 := ((wat q2) k hlt).1
   have r21 := ((wat q2) k hlt).2.1
   have r22 := ((wat q2) k hlt).2.2
   clear q1 q2
   go_wp2
   go_region_held3 (fun w' => w'.cell? ⟨b1, off1 + k * 3, none⟩ = some (.string xs[k].1) ∧ w'.cell? ⟨b1, off1 + k * 3 + 1, none⟩ = some (.string xs[k].2.1) ∧ w'.cell? ⟨b1, off1 + k * 3 + 2, none⟩ = some (.bool xs[k].2.2) ∧ w'.cell? ⟨b2, off2 + k * 3, none⟩ = some (.string xs[k].1) ∧ w'.cell? ⟨b2, off2 + k * 3 + 1, none⟩ = some (.string xs[k].2.1) ∧ w'.cell? ⟨b2, off2 + k * 3 + 2, none⟩ = some (.bool xs[k].2.2)) (first | go_keep | exact ⟨(hbm.cell (p := ⟨b1, off1 + k * 3, none⟩) hl1).trans r10, (hbm.cell (p := ⟨b1, off1 + k * 3 + 1, none⟩) hl1).trans r11, (hbm.cell (p := ⟨b1, off1 + k * 3 + 2, none⟩) hl1).trans r12, (hbm.cell (p := ⟨b2, off2 + k * 3, none⟩) hl2).trans r20, (hbm.cell (p := ⟨b2, off2 + k * 3 + 1, none⟩) hl2).trans r21, (hbm.cell (p := ⟨b2, off2 + k * 3 + 2, none⟩) hl2).trans r22⟩) ((go_at_call 93; refine (eqw _ _ _ _).mono ?_; rintro e w2 ⟨rfl, hbm⟩))
   all_goals
    go_wp2
    go_roundw
    case rel => exact ⟨k + 1, by omega, by go_num, (HB.out.drew).trans (hbm.mono HB.out.size)⟩
    case measure => simp [intOf]; omega
  ·have hd : ¬ (k : Int) < (xs.length : Int) := by omega
   go_wp2
   go_ret
   exact ⟨rfl, HB.out⟩

set_option maxRecDepth 100000 in
set_option maxHeartbeats 1000000 in
theorem szSR (xs : List Rg) (a : Option Addr) (c : Nat) (hn : xs.length ≤ maxLen) (hl : ∀ x ∈ xs, x.1.size ≤ maxLen ∧ x.2.size ≤ maxLen) (L : Int) (h0 : 0 ≤ L) (h1 : L ≤ 1048576) (w : World) (hp : GRow encR w a xs) :
  Calls Tryz.prog 72 #[.slice a xs.length c, .int .i64 L] w fun e w' => Below w.heap.size w w' ∧ ∃ r : Int, e = .returned (.int .i64 r) ∧ r ≤ 1048576 ∧ (0 ≤ r → xs.length ≤ 1048576 ∧ RFit xs) := by
 have HP : Hid (GRow encR w a xs) := hp
 have HL : Hid (∀ x ∈ xs, x.1.size ≤ maxLen ∧ x.2.size ≤ maxLen) := hl
 clear hp hl
 unfold maxLen at hn
 by_cases hneg : L - (xs.length : Int) < 0
 ·go_enter Tryz.func72, Tryz.ntmps72
  go_wp2
  go_ret
  exact ⟨belowRefl w, -1, rfl, by omega, fun h => by omega⟩
 ·have hneg' : decide (L - (xs.length : Int) < 0) = false := by simpa using hneg
  go_enter Tryz.func72, Tryz.ntmps72
  go_wp2
  go_loopw [1, 5] (fun tl t wr => ∃ (k : Nat) (l : Int), k ≤ xs.length ∧ t = .int .i64 k ∧ tl = .int .i64 l ∧ 0 ≤ l ∧ l ≤ 1048576 ∧ Hid (∀ j (hj : j < xs.length), j < k → xs[j].1.size ≤ 1048576 ∧ xs[j].2.size ≤ 1048576) ∧ Hid (Below w.heap.size w wr)) (fun _ t _ => xs.length - (intOf t).toNat)
  case atStart => exact ⟨0, L - (xs.length : Int), Nat.zero_le _, rfl, rfl, by omega, by omega, fun j hj h => by omega, belowRefl w⟩
  case round =>
   obtain ⟨k, l, hk, rfl, rfl, hl0, hl1, HA, HB⟩ := hrel
   by_cases hlt : k < xs.length
   ·have hlt' : (k : Int) < (xs.length : Int) := by omega
    have hk0 : (0 : Int) ≤ (k : Int) := by omega
    obtain ⟨b, off, rfl, hbl, hc⟩ := (HP.out.below HB.out) (by omega)
    have r0 := ((rat hc) k hlt).1
    have r1 := ((rat hc) k hlt).2
    have HZ : Hid (xs[k].1.size ≤ maxLen ∧ xs[k].2.size ≤ maxLen) := HL.out _ (List.getElem_mem hlt)
    clear hc
    go_wp2_with fail
    refine (szr xs[k].1 xs[k].2 l hl0 hl1 HZ.out.1 HZ.out.2 _).mono ?_
    rintro e w2 ⟨r, rfl, hr, hb2⟩
    have HB2 : Hid (Below w.heap.size w w2) := HB.out.trans (hb2.mono HB.out.size)
    clear hb2 r0 r1
    by_cases hn2 : r < 0
    ·clear hr
     go_wp2
     go_ret
     exact ⟨HB2.out, -1, rfl, by omega, fun h => by omega⟩
    ·have hn3 : ¬ r < 0 := hn2
     have HR : Hid (0 ≤ r ∧ r ≤ l ∧ (xs[k].1.size : Int) + xs[k].2.size + r = l) := by
      rcases hr with hr | hr
      ·exact absurd hr hn2
      ·exact hr
     have HA2 : Hid (∀ j (hj : j < xs.length), j < k + 1 → xs[j].1.size ≤ 1048576 ∧ xs[j].2.size ≤ 1048576) := fun j hj h => by
      by_cases e : j = k
      ·subst e; have := HR.out; omega
      ·exact HA.out j hj (by omega)
     have hr0 : 0 ≤ r := HR.out.1
     have hr1 : r ≤ 1048576 := Int.le_trans HR.out.2.1 hl1
     clear hn2 hr
     go_wp2
     go_roundw
     case rel => exact ⟨k + 1, r, by omega, by go_num, rfl, hr0, hr1, HA2, HB2⟩
     case measure => simp [intOf]; omega
   ·have hlt' : ¬ (k : Int) < (xs.length : Int) := by omega
    have HA2 : Hid (∀ x ∈ xs, x.1.size ≤ 1048576 ∧ x.2.size ≤ 1048576) := fun s hs => by
     obtain ⟨j, hj, rfl⟩ := List.getElem_of_mem hs
     exact HA.out j hj (by omega)
    go_wp2
    go_ret
    exact ⟨HB.out, l, rfl, hl1, fun _ => ⟨by omega, HA2.out⟩⟩

set_option maxRecDepth 100000 in
set_option maxHeartbeats 1000000 in
theorem toSR (xs : List Rg) (a : Option Addr) (c : Nat) (hn : xs.length ≤ 100000000) (w : World) (hp : GRow encR w a xs) :
  Calls Tryz.prog 74 #[.slice a xs.length c] w fun e w' => ∃ a1 c1, e = .returned (.slice a1 xs.length c1) ∧ GOwn encR 67 w' w.heap.size (.slice a1 xs.length c1) xs ∧ Below w.heap.size w w' := by
 have HP : Hid (GRow encR w a xs) := hp
 clear hp
 have hmk := mkRow 113 67 2 _ _ Tryz.underlying113 Tryz.info67 xs.length hn (by omega)
 go_enter Tryz.func74, Tryz.ntmps74
 go_wp2
 clear hmk
 obtain ⟨cs0, hcs0⟩ : ∃ cs, cs = madeCells (Value.agg #[.string ByteArray.empty, .string ByteArray.empty]).cells (xs.length * 2) := ⟨_, rfl⟩
 have HO : Hid ((w.alloc (.cells cs0 67)).ownsRow w.heap.size 67 2 (.slice (some ⟨w.heap.size, 0, none⟩) xs.length xs.length) xs.length cs0.toList) :=
  World.ownsRow_lit w _ _ (Nat.le_refl _) (by unfold maxLen; omega) (by rw [hcs0, size_madeCells])
 rw [hcs0] at HO
 clear hcs0 cs0
 go_loopw [4] (fun t wr => ∃ (k : Nat) (cs : List Value), k ≤ xs.length ∧ t = .int .i64 k ∧ Hid (wr.ownsRow w.heap.size 67 2 (.slice (some ⟨w.heap.size, 0, none⟩) xs.length xs.length) xs.length cs) ∧ Hid (∀ j, j < k * 2 → cs[j]? = (encR.cells xs)[j]?) ∧ Hid (Below w.heap.size w wr)) (fun t _ => xs.length - (intOf t).toNat)
 case atStart => exact ⟨0, _, Nat.zero_le _, rfl, HO, fun j hj => by omega, (belowRefl w).alloc (Nat.le_refl _) _⟩
 case round =>
  obtain ⟨k, cs, hk, rfl, HX, HA, HB⟩ := hrel
  by_cases hlt : k < xs.length
  ·have hlt' : (k : Int) < (xs.length : Int) := by omega
   have h0 : (0 : Int) ≤ (k : Int) := by omega
   obtain ⟨b, off, rfl, hbl, hc⟩ := (HP.out.below HB.out) (by omega)
   have r0 := ((rat hc) k hlt).1
   have r1 := ((rat hc) k hlt).2
   clear hc
   have hgl : w.heap.size < wr.heap.size := (World.ownsRow.lt HX.out _ rfl).2
   go_wp2_with fail
   refine (tor xs[k].1 xs[k].2 _).mono ?_
   rintro e w2 ⟨rfl, hb2⟩
   have HX0 : Hid (w2.ownsRow w.heap.size 67 2 (.slice (some ⟨w.heap.size, 0, none⟩) xs.length xs.length) xs.length cs) := ownsBelow HX.out hb2
   have HB2 : Hid (Below w.heap.size w w2) := HB.out.trans (hb2.mono HB.out.size)
   clear r0 r1 hb2
   have hlen := HX0.out.1
   have hq0 : w2.cell? ⟨w.heap.size, k * 2, none⟩ = some (cs[k * 2]'(by omega)) := by
    rw [World.ownsRow.cellAt HX0.out (k * 2) (by omega)]; simp
   have hf0 := World.ownsRow.frozenAt HX0.out (k * 2)
   have hq1 : w2.cell? ⟨w.heap.size, k * 2 + 1, none⟩ = some (cs[k * 2 + 1]'(by omega)) := by
    rw [World.ownsRow.cellAt HX0.out (k * 2 + 1) (by omega)]; simp
   have hf1 := World.ownsRow.frozenAt HX0.out (k * 2 + 1)
   have hx2 := (World.ownsRow.stored (World.ownsRow.stored HX0.out (k * 2) (.string xs[k].1)).1 (k * 2 + 1) (.string xs[k].2)).1
   have HX3 : Hid _ := hx2
   clear hx2
   have HA2 : Hid (∀ j, j < (k + 1) * 2 → ((cs.set (k * 2) (.string xs[k].1)).set (k * 2 + 1) (.string xs[k].2))[j]? = (encR.cells xs)[j]?) := fun j hj => by
    by_cases e0 : j = k * 2
    ·subst e0
     rw [List.getElem?_set_ne (by omega), List.getElem?_set_self (by omega)]
     have := encR.cells_at xs k hlt 0 (by decide)
     simp only [encR, Nat.add_zero] at this ⊢
     rw [this]; rfl
    by_cases e1 : j = k * 2 + 1
    ·subst e1
     rw [List.getElem?_set_self (by simp; omega)]
     have := encR.cells_at xs k hlt 1 (by decide)
     simp only [encR] at this ⊢
     rw [this]; rfl
    rw [List.getElem?_set_ne (by omega), List.getElem?_set_ne (by omega)]
    exact HA.out j (by omega)
   go_wp2
   go_roundw
   case rel => exact ⟨k + 1, _, by omega, by go_num, HX3, HA2, ((HB2.out.setCell (Nat.le_refl _) _).setCell (Nat.le_refl _) _)⟩
   case measure => simp [intOf]; omega
  ·have hlt' : ¬ (k : Int) < (xs.length : Int) := by omega
   have HD : Hid (GOwn encR 67 wr w.heap.size (.slice (some ⟨w.heap.size, 0, none⟩) xs.length xs.length) xs) := gown_of rfl HX.out (fun j hj => HA.out j (Nat.lt_of_lt_of_le hj (Nat.mul_le_mul_right _ (by omega))))
   go_wp2
   go_ret
   exact ⟨_, _, rfl, HD.out, HB.out⟩

set_option maxHeartbeats 400000 in
theorem eqr (x0 : ByteArray) (x1 : ByteArray) (w : World) :
  Calls Tryz.prog 92 #[.agg #[.string x0, .string x1], .agg #[.string x0, .string x1]] w fun e w' => e = .returned (.bool true) ∧ Below w.heap.size w w' := by
 go_enter Tryz.func92, Tryz.ntmps92
 go_wp2
 go_ret
 exact ⟨rfl, ((belowRefl w).alloc (Nat.le_refl _) _).alloc (by simp) _⟩

set_option maxRecDepth 100000 in
set_option maxHeartbeats 1000000 in
theorem eqSR (a1 a2 : Option Addr) (c1 c2 : Nat) (xs : List Rg) (hn : xs.length ≤ 100000000) (w : World) (h1 : GRow encR w a1 xs) (h2 : GRow encR w a2 xs) :
  Calls Tryz.prog 76 #[.slice a1 xs.length c1, .slice a2 xs.length c2] w fun e w' => e = .returned (.bool true) ∧ Below w.heap.size w w' := by
 have H1 : Hid (GRow encR w a1 xs) := h1
 have H2 : Hid (GRow encR w a2 xs) := h2
 clear h1 h2
 go_enter Tryz.func76, Tryz.ntmps76
 go_wp2
 go_loopw [5] (fun t wr => ∃ k : Nat, k ≤ xs.length ∧ t = .int .i64 k ∧ Hid (Below w.heap.size w wr)) (fun t _ => xs.length - (intOf t).toNat)
 case atStart => exact ⟨0, Nat.zero_le _, rfl, Below.refl _ _⟩
 case round =>
  obtain ⟨k, hk, rfl, HB⟩ := hrel
  by_cases hlt : k < xs.length
  ·have hlt' : (k : Int) < (xs.length : Int) := by omega
   have h0 : (0 : Int) ≤ (k : Int) := by omega
   obtain ⟨b1, off1, rfl, hl1, q1⟩ := (H1.out.below HB.out) (by omega)
   obtain ⟨b2, off2, rfl, hl2, q2⟩ := (H2.out.below HB.out) (by omega)
   have r10 := ((rat q1) k hlt).1
   have r11 := ((rat q1) k hlt).2
   have r20 := ((rat q2) k hlt).1
   have r21 := ((rat q2) k hlt).2
   clear q1 q2
   go_wp2
   go_region_held3 (fun w' => w'.cell? ⟨b1, off1 + k * 2, none⟩ = some (.string xs[k].1) ∧ w'.cell? ⟨b1, off1 + k * 2 + 1, none⟩ = some (.string xs[k].2) ∧ w'.cell? ⟨b2, off2 + k * 2, none⟩ = some (.string xs[k].1) ∧ w'.cell? ⟨b2, off2 + k * 2 + 1, none⟩ = some (.string xs[k].2)) (first | go_keep | exact ⟨(hbm.cell (p := ⟨b1, off1 + k * 2, none⟩) hl1).trans r10, (hbm.cell (p := ⟨b1, off1 + k * 2 + 1, none⟩) hl1).trans r11, (hbm.cell (p := ⟨b2, off2 + k * 2, none⟩) hl2).trans r20, (hbm.cell (p := ⟨b2, off2 + k * 2 + 1, none⟩) hl2).trans r21⟩) ((go_at_call 92; refine (eqr _ _ _).mono ?_; rintro e w2 ⟨rfl, hbm⟩))
   all_goals
    go_wp2
    go_roundw
    case rel => exact ⟨k + 1, by omega, by go_num, (HB.out.drew).trans (hbm.mono HB.out.size)⟩
    case measure => simp [intOf]; omega
  ·have hd : ¬ (k : Int) < (xs.length : Int) := by omega
   go_wp2
   go_ret
   exact ⟨rfl, HB.out⟩
end Go.Proofs.YtjieojfcmigcdaaGreatDoor

namespace Go.Proofs.YtjieojfcmigcdaaGreatDoor
open Go.RowKit
open KM
attribute [local go_sem ↓] Go.wp_at_zero Go.wp_at_succ

end Go.Proofs.YtjieojfcmigcdaaGreatDoor

namespace Go.Proofs.YtjieojfcmigcdaaGreatDoor
open Go.RowKit
open KM
attribute [local go_sem ↓] Go.wp_at_zero Go.wp_at_succ

section
variable {w : World} {b : Nat}
theorem Bx.c5 {x0 x1 x2 x3 x4 x5 : Value} {r : List Value} (h : Bx w b (x0 :: x1 :: x2 :: x3 :: x4 :: x5 :: r)) : w.cell? ⟨b, 5, none⟩ = some x5 := h.at' 5 (by simp)
theorem Bx.c6 {x0 x1 x2 x3 x4 x5 x6 : Value} {r : List Value} (h : Bx w b (x0 :: x1 :: x2 :: x3 :: x4 :: x5 :: x6 :: r)) : w.cell? ⟨b, 6, none⟩ = some x6 := h.at' 6 (by simp)
theorem Bx.c7 {x0 x1 x2 x3 x4 x5 x6 x7 : Value} {r : List Value} (h : Bx w b (x0 :: x1 :: x2 :: x3 :: x4 :: x5 :: x6 :: x7 :: r)) : w.cell? ⟨b, 7, none⟩ = some x7 := h.at' 7 (by simp)
end
end Go.Proofs.YtjieojfcmigcdaaGreatDoor

namespace Go.Proofs.YtjieojfcmigcdaaGreatDoor
open Go.RowKit
open KM
attribute [local go_sem ↓] Go.wp_at_zero Go.wp_at_succ

structure Lies {α : Type} (E : Enc α) (e : TypeId) (w : World) (lo hi : Nat) (v : Value) (xs : List α) : Prop where
 own : GOwn E e w lo v xs
 up : ∀ g, v.ownBlock = some g → g < hi
section
variable {α : Type} {E : Enc α} {e : TypeId}
theorem Lies.of {w : World} {lo : Nat} {v : Value} {xs : List α} (h : GOwn E e w lo v xs) : Lies E e w lo w.heap.size v xs := ⟨h, fun g hg => (World.ownsRow.lt h g hg).2⟩
theorem Lies.below {w w' : World} {lo hi : Nat} {v : Value} {xs : List α} (h : Lies E e w lo hi v xs) (hb : Below w.heap.size w w') : Lies E e w' lo hi v xs := ⟨h.own.below hb, h.up⟩
theorem Lies.lo {w : World} {lo hi : Nat} {v : Value} {xs : List α} (h : Lies E e w lo hi v xs) : ∀ g, v.ownBlock = some g → lo ≤ g ∧ g < hi := fun g hg => ⟨(World.ownsRow.lt h.own g hg).1, h.up g hg⟩
end
theorem ne_self_int (x : Int) : (x != x) = false := by simp

end Go.Proofs.YtjieojfcmigcdaaGreatDoor

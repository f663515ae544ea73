/- Ranges and writes in their cells. -/
import Derived.Test.YtjieojfcmigcdaaGreatDoorPw01
import Derived.Shelf.Small.Strs
import Derived.Shelf.Small.Wraps
import Derived.Shelf.LaysM
import Derived.Shelf.Strconv.Clone
import Derived.Test.YtjieojfcmigcdaaGreatDoorProg
import Derived.Deep.RegionHeld
namespace Go.Proofs.YtjieojfcmigcdaaGreatDoor
open Go.RowKit
open KM

def encR : Enc Rg := ⟨fun r => [.string r.1, .string r.2], 2, by decide, fun _ => rfl⟩
def encW : Enc Wt := ⟨fun x => [.string x.1, .string x.2.1, .bool x.2.2], 3, by decide, fun _ => rfl⟩

theorem Tryz.info9 : (Tryz.prog.info? 9).map (fun i => (i.zero, i.size, i.bytes)) = some (some (.string ByteArray.empty), 1, 16) := by kernel_rfl
theorem Tryz.info67 : (Tryz.prog.info? 67).map (fun i => (i.zero, i.size, i.bytes)) = some (some (.agg #[.string ByteArray.empty, .string ByteArray.empty]), 2, 32) := by kernel_rfl
theorem Tryz.info166 : (Tryz.prog.info? 166).map (fun i => (i.zero, i.size, i.bytes)) = some (some (.agg #[.string ByteArray.empty, .string ByteArray.empty, .bool false]), 3, 40) := by kernel_rfl

theorem rat {w : World} {b off : Nat} {xs : List Rg} (hc : ∀ j (hj : j < xs.length) i, i < encR.size → w.cell? ⟨b, off + j * encR.size + i, none⟩ = (encR.enc xs[j])[i]?) (j : Nat) (hj : j < xs.length) :
  w.cell? ⟨b, off + j * 2, none⟩ = some (.string xs[j].1) ∧ w.cell? ⟨b, off + j * 2 + 1, none⟩ = some (.string xs[j].2) := ⟨by simpa [encR] using hc j hj 0 (by decide), by simpa [encR] using hc j hj 1 (by decide)⟩
theorem wat {w : World} {b off : Nat} {xs : List Wt} (hc : ∀ j (hj : j < xs.length) i, i < encW.size → w.cell? ⟨b, off + j * encW.size + i, none⟩ = (encW.enc xs[j])[i]?) (j : Nat) (hj : j < xs.length) :
  w.cell? ⟨b, off + j * 3, none⟩ = some (.string xs[j].1) ∧ w.cell? ⟨b, off + j * 3 + 1, none⟩ = some (.string xs[j].2.1) ∧ w.cell? ⟨b, off + j * 3 + 2, none⟩ = some (.bool xs[j].2.2) := ⟨by simpa [encW] using hc j hj 0 (by decide), by simpa [encW] using hc j hj 1 (by decide), by simpa [encW] using hc j hj 2 (by decide)⟩

abbrev Vr := ByteArray × ByteArray × Bool × Int
def encV : Enc Vr := ⟨fun x => [.string x.1, .string x.2.1, .bool x.2.2.1, .int .i64 x.2.2.2], 4, by decide, fun _ => rfl⟩
def encS : Enc ByteArray := ⟨fun x => [.string x], 1, by decide, fun _ => rfl⟩
def encI : Enc Int := ⟨fun x => [.int .i64 x], 1, by decide, fun _ => rfl⟩
theorem Tryz.info124 : (Tryz.prog.info? 124).map (fun i => (i.zero, i.size, i.bytes)) = some (some (.agg #[.string ByteArray.empty, .string ByteArray.empty, .bool false, .int .i64 0]), 4, 48) := by kernel_rfl
theorem Tryz.info3 : (Tryz.prog.info? 3).map (fun i => (i.zero, i.size, i.bytes)) = some (some (.int .i64 0), 1, 8) := by kernel_rfl
theorem vat {w : World} {b off : Nat} {xs : List Vr} (hc : ∀ j (hj : j < xs.length) i, i < encV.size → w.cell? ⟨b, off + j * encV.size + i, none⟩ = (encV.enc xs[j])[i]?) (j : Nat) (hj : j < xs.length) :
  w.cell? ⟨b, off + j * 4, none⟩ = some (.string xs[j].1) ∧ w.cell? ⟨b, off + j * 4 + 1, none⟩ = some (.string xs[j].2.1) ∧ w.cell? ⟨b, off + j * 4 + 2, none⟩ = some (.bool xs[j].2.2.1) ∧ w.cell? ⟨b, off + j * 4 + 3, none⟩ = some (.int .i64 xs[j].2.2.2) := ⟨by simpa [encV] using hc j hj 0 (by decide), by simpa [encV] using hc j hj 1 (by decide), by simpa [encV] using hc j hj 2 (by decide), by simpa [encV] using hc j hj 3 (by decide)⟩
theorem sat {w : World} {b off : Nat} {xs : List ByteArray} (hc : ∀ j (hj : j < xs.length) i, i < encS.size → w.cell? ⟨b, off + j * encS.size + i, none⟩ = (encS.enc xs[j])[i]?) (j : Nat) (hj : j < xs.length) :
  w.cell? ⟨b, off + j, none⟩ = some (.string xs[j]) := by simpa [encS] using hc j hj 0 (by decide)
theorem iat {w : World} {b off : Nat} {xs : List Int} (hc : ∀ j (hj : j < xs.length) i, i < encI.size → w.cell? ⟨b, off + j * encI.size + i, none⟩ = (encI.enc xs[j])[i]?) (j : Nat) (hj : j < xs.length) :
  w.cell? ⟨b, off + j, none⟩ = some (.int .i64 xs[j]) := by simpa [encI] using hc j hj 0 (by decide)
end Go.Proofs.YtjieojfcmigcdaaGreatDoor

namespace Go.Proofs.YtjieojfcmigcdaaGreatDoor
open Go.RowKit
open KM
attribute [local go_sem ↓] Go.wp_at_zero Go.wp_at_succ

def VFit (xs : List Vr) : Prop := ∀ x ∈ xs, x.1.size ≤ 1048576 ∧ x.2.1.size ≤ 1048576

set_option maxRecDepth 100000 in
set_option maxHeartbeats 1000000 in
theorem szSV (xs : List Vr) (a : Option Addr) (c : Nat) (hn : xs.length ≤ maxLen) (hl : ∀ x ∈ xs, x.1.size ≤ maxLen ∧ x.2.1.size ≤ maxLen) (L : Int) (h0 : 0 ≤ L) (h1 : L ≤ 1048576) (w : World) (hp : GRow encV w a xs) :
  Calls Tryz.prog 57 #[.slice a xs.length c, .int .i64 L] w fun e w' => Below w.heap.size w w' ∧ ∃ r : Int, e = .returned (.int .i64 r) ∧ r ≤ 1048576 ∧ (0 ≤ r → xs.length ≤ 1048576 ∧ VFit xs) := by
 have HP : Hid (GRow encV w a xs) := hp
 have HL : Hid (∀ x ∈ xs, x.1.size ≤ maxLen ∧ x.2.1.size ≤ maxLen) := hl
 clear hp hl
 unfold maxLen at hn
 by_cases hneg : L - (xs.length : Int) < 0
 ·go_enter Tryz.func57, Tryz.ntmps57
  go_wp2
  go_ret
  exact ⟨belowRefl w, -1, rfl, by omega, fun h => by omega⟩
 ·have hneg' : decide (L - (xs.length : Int) < 0) = false := by simpa using hneg
  go_enter Tryz.func57, Tryz.ntmps57
  go_wp2
  go_loopw [1, 5] (fun tl t wr => ∃ (k : Nat) (l : Int), k ≤ xs.length ∧ t = .int .i64 k ∧ tl = .int .i64 l ∧ 0 ≤ l ∧ l ≤ 1048576 ∧ Hid (∀ j (hj : j < xs.length), j < k → xs[j].1.size ≤ 1048576 ∧ xs[j].2.1.size ≤ 1048576) ∧ Hid (Below w.heap.size w wr)) (fun _ t _ => xs.length - (intOf t).toNat)
  case atStart => exact ⟨0, L - (xs.length : Int), Nat.zero_le _, rfl, rfl, by omega, by omega, fun j hj h => by omega, belowRefl w⟩
  case round =>
   obtain ⟨k, l, hk, rfl, rfl, hl0, hl1, HA, HB⟩ := hrel
   by_cases hlt : k < xs.length
   ·have hlt' : (k : Int) < (xs.length : Int) := by omega
    have hk0 : (0 : Int) ≤ (k : Int) := by omega
    obtain ⟨b, off, rfl, hbl, hc⟩ := (HP.out.below HB.out) (by omega)
    have r0 := ((vat hc) k hlt).1
    have r1 := ((vat hc) k hlt).2.1
    have r2 := ((vat hc) k hlt).2.2.1
    have r3 := ((vat hc) k hlt).2.2.2
    have HZ : Hid (xs[k].1.size ≤ maxLen ∧ xs[k].2.1.size ≤ maxLen) := HL.out _ (List.getElem_mem hlt)
    clear hc
    go_wp2_with fail
    refine (szv xs[k].1 xs[k].2.1 xs[k].2.2.1 xs[k].2.2.2 l hl0 hl1 HZ.out.1 HZ.out.2 _).mono ?_
    rintro e w2 ⟨r, rfl, hr, hb2⟩
    have HB2 : Hid (Below w.heap.size w w2) := HB.out.trans (hb2.mono HB.out.size)
    clear hb2 r0 r1 r2 r3
    by_cases hn2 : r < 0
    ·clear hr
     go_wp2
     go_ret
     exact ⟨HB2.out, -1, rfl, by omega, fun h => by omega⟩
    ·have hn3 : ¬ r < 0 := hn2
     have HR : Hid (0 ≤ r ∧ r ≤ l ∧ (xs[k].1.size : Int) + xs[k].2.1.size + r = l) := by
      rcases hr with hr | hr
      ·exact absurd hr hn2
      ·exact hr
     have HA2 : Hid (∀ j (hj : j < xs.length), j < k + 1 → xs[j].1.size ≤ 1048576 ∧ xs[j].2.1.size ≤ 1048576) := fun j hj h => by
      by_cases e : j = k
      ·subst e; have := HR.out; omega
      ·exact HA.out j hj (by omega)
     have hr0 : 0 ≤ r := HR.out.1
     have hr1 : r ≤ 1048576 := Int.le_trans HR.out.2.1 hl1
     clear hn2 hr
     go_wp2
     go_roundw
     case rel => exact ⟨k + 1, r, by omega, by go_num, rfl, hr0, hr1, HA2, HB2⟩
     case measure => simp [intOf]; omega
   ·have hlt' : ¬ (k : Int) < (xs.length : Int) := by omega
    have HA2 : Hid (∀ x ∈ xs, x.1.size ≤ 1048576 ∧ x.2.1.size ≤ 1048576) := fun s hs => by
     obtain ⟨j, hj, rfl⟩ := List.getElem_of_mem hs
     exact HA.out j hj (by omega)
    go_wp2
    go_ret
    exact ⟨HB.out, l, rfl, hl1, fun _ => ⟨by omega, HA2.out⟩⟩

set_option maxRecDepth 100000 in
set_option maxHeartbeats 1000000 in
theorem toSV (xs : List Vr) (a : Option Addr) (c : Nat) (hn : xs.length ≤ 100000000) (w : World) (hp : GRow encV w a xs) :
  Calls Tryz.prog 61 #[.slice a xs.length c] w fun e w' => ∃ a1 c1, e = .returned (.slice a1 xs.length c1) ∧ GOwn encV 124 w' w.heap.size (.slice a1 xs.length c1) xs ∧ Below w.heap.size w w' := by
 have HP : Hid (GRow encV w a xs) := hp
 clear hp
 have hmk := mkRow 36 124 4 _ _ Tryz.underlying36 Tryz.info124 xs.length hn (by omega)
 go_enter Tryz.func61, Tryz.ntmps61
 go_wp2
 clear hmk
 obtain ⟨cs0, hcs0⟩ : ∃ cs, cs = madeCells (Value.agg #[.string ByteArray.empty, .string ByteArray.empty, .bool false, .int .i64 0]).cells (xs.length * 4) := ⟨_, rfl⟩
 have HO : Hid ((w.alloc (.cells cs0 124)).ownsRow w.heap.size 124 4 (.slice (some ⟨w.heap.size, 0, none⟩) xs.length xs.length) xs.length cs0.toList) :=
  World.ownsRow_lit w _ _ (Nat.le_refl _) (by unfold maxLen; omega) (by rw [hcs0, size_madeCells])
 rw [hcs0] at HO
 clear hcs0 cs0
 go_loopw [4] (fun t wr => ∃ (k : Nat) (cs : List Value), k ≤ xs.length ∧ t = .int .i64 k ∧ Hid (wr.ownsRow w.heap.size 124 4 (.slice (some ⟨w.heap.size, 0, none⟩) xs.length xs.length) xs.length cs) ∧ Hid (∀ j, j < k * 4 → cs[j]? = (encV.cells xs)[j]?) ∧ Hid (Below w.heap.size w wr)) (fun t _ => xs.length - (intOf t).toNat)
 case atStart => exact ⟨0, _, Nat.zero_le _, rfl, HO, fun j hj => by omega, (belowRefl w).alloc (Nat.le_refl _) _⟩
 case round =>
  obtain ⟨k, cs, hk, rfl, HX, HA, HB⟩ := hrel
  by_cases hlt : k < xs.length
  ·have hlt' : (k : Int) < (xs.length : Int) := by omega
   have h0 : (0 : Int) ≤ (k : Int) := by omega
   obtain ⟨b, off, rfl, hbl, hc⟩ := (HP.out.below HB.out) (by omega)
   have r0 := ((vat hc) k hlt).1
   have r1 := ((vat hc) k hlt).2.1
   have r2 := ((vat hc) k hlt).2.2.1
   have r3 := ((vat hc) k hlt).2.2.2
   clear hc
   have hgl : w.heap.size < wr.heap.size := (World.ownsRow.lt HX.out _ rfl).2
   go_wp2_with fail
   refine (tov xs[k].1 xs[k].2.1 xs[k].2.2.1 xs[k].2.2.2 _).mono ?_
   rintro e w2 ⟨rfl, hb2⟩
   have HX0 : Hid (w2.ownsRow w.heap.size 124 4 (.slice (some ⟨w.heap.size, 0, none⟩) xs.length xs.length) xs.length cs) := ownsBelow HX.out hb2
   have HB2 : Hid (Below w.heap.size w w2) := HB.out.trans (hb2.mono HB.out.size)
   clear r0 r1 r2 r3 hb2
   have hlen := HX0.out.1
   have hq0 : w2.cell? ⟨w.heap.size, k * 4, none⟩ = some (cs[k * 4]'(by omega)) := by
    rw [World.ownsRow.cellAt HX0.out (k * 4) (by omega)]; simp
   have hf0 := World.ownsRow.frozenAt HX0.out (k * 4)
   have hq1 : w2.cell? ⟨w.heap.size, k * 4 + 1, none⟩ = some (cs[k * 4 + 1]'(by omega)) := by
    rw [World.ownsRow.cellAt HX0.out (k * 4 + 1) (by omega)]; simp
   have hf1 := World.ownsRow.frozenAt HX0.out (k * 4 + 1)
   have hq2 : w2.cell? ⟨w.heap.size, k * 4 + 2, none⟩ = some (cs[k * 4 + 2]'(by omega)) := by
    rw [World.ownsRow.cellAt HX0.out (k * 4 + 2) (by omega)]; simp
   have hf2 := World.ownsRow.frozenAt HX0.out (k * 4 + 2)
   have hq3 : w2.cell? ⟨w.heap.size, k * 4 + 3, none⟩ = some (cs[k * 4 + 3]'(by omega)) := by
    rw [World.ownsRow.cellAt HX0.out (k * 4 + 3) (by omega)]; simp
   have hf3 := World.ownsRow.frozenAt HX0.out (k * 4 + 3)
   have hx2 := (World.ownsRow.stored (World.ownsRow.stored (World.ownsRow.stored (World.ownsRow.stored HX0.out (k * 4) (.string xs[k].1)).1 (k * 4 + 1) (.string xs[k].2.1)).1 (k * 4 + 2) (.bool xs[k].2.2.1)).1 (k * 4 + 3) (.int .i64 xs[k].2.2.2)).1
   have HX3 : Hid _ := hx2
   clear hx2
   have HA2 : Hid (∀ j, j < (k + 1) * 4 → ((((cs.set (k * 4) (.string xs[k].1)).set (k * 4 + 1) (.string xs[k].2.1)).set (k * 4 + 2) (.bool xs[k].2.2.1)).set (k * 4 + 3) (.int .i64 xs[k].2.2.2))[j]? = (encV.cells xs)[j]?) := fun j hj => by
    by_cases e0 : j = k * 4
    ·subst e0
     rw [List.getElem?_set_ne (by omega), List.getElem?_set_ne (by omega), List.getElem?_set_ne (by omega), List.getElem?_set_self (by omega)]
     have := encV.cells_at xs k hlt 0 (by decide)
     simp only [encV, Nat.add_zero] at this ⊢
     rw [this]; rfl
    by_cases e1 : j = k * 4 + 1
    ·subst e1
     rw [List.getElem?_set_ne (by omega), List.getElem?_set_ne (by omega), List.getElem?_set_self (by simp; omega)]
     have := encV.cells_at xs k hlt 1 (by decide)
     simp only [encV] at this ⊢
     rw [this]; rfl
    by_cases e2 : j = k * 4 + 2
    ·subst e2
     rw [List.getElem?_set_ne (by omega), List.getElem?_set_self (by simp; omega)]
     have := encV.cells_at xs k hlt 2 (by decide)
     simp only [encV] at this ⊢
     rw [this]; rfl
    by_cases e3 : j = k * 4 + 3
    ·subst e3
     rw [List.getElem?_set_self (by simp; omega)]
     have := encV.cells_at xs k hlt 3 (by decide)
     simp only [encV] at this ⊢
     rw [this]; rfl
    rw [List.getElem?_set_ne (by omega), List.getElem?_set_ne (by omega), List.getElem?_set_ne (by omega), List.getElem?_set_ne (by omega)]
    exact HA.out j (by omega)
   go_wp2
   go_roundw
   case rel => exact ⟨k + 1, _, by omega, by go_num, HX3, HA2, ((((HB2.out.setCell (Nat.le_refl _) _).setCell (Nat.le_refl _) _).setCell (Nat.le_refl _) _).setCell (Nat.le_refl _) _)⟩
   case measure => simp [intOf]; omega
  ·have hlt' : ¬ (k : Int) < (xs.length : Int) := by omega
   have HD : Hid (GOwn encV 124 wr w.heap.size (.slice (some ⟨w.heap.size, 0, none⟩) xs.length xs.length) xs) := gown_of rfl HX.out (fun j hj => HA.out j (Nat.lt_of_lt_of_le hj (Nat.mul_le_mul_right _ (by omega))))
   go_wp2
   go_ret
   exact ⟨_, _, rfl, HD.out, HB.out⟩

set_option maxHeartbeats 400000 in
theorem eqv (x0 : ByteArray) (x1 : ByteArray) (x2 : Bool) (x3 : Int) (w : World) :
  Calls Tryz.prog 87 #[.agg #[.string x0, .string x1, .bool x2, .int .i64 x3], .agg #[.string x0, .string x1, .bool x2, .int .i64 x3]] w fun e w' => e = .returned (.bool true) ∧ Below w.heap.size w w' := by
 have hbn2 := bne_self' x2
 go_enter Tryz.func87, Tryz.ntmps87
 go_wp2
 go_ret
 exact ⟨rfl, ((belowRefl w).alloc (Nat.le_refl _) _).alloc (by simp) _⟩

set_option maxRecDepth 100000 in
set_option maxHeartbeats 1000000 in
theorem eqSV (a1 a2 : Option Addr) (c1 c2 : Nat) (xs : List Vr) (hn : xs.length ≤ 100000000) (w : World) (h1 : GRow encV w a1 xs) (h2 : GRow encV w a2 xs) :
  Calls Tryz.prog 70 #[.slice a1 xs.length c1, .slice a2 xs.length c2] w fun e w' => e = .returned (.bool true) ∧ Below w.heap.size w w' := by
 have H1 : Hid (GRow encV w a1 xs) := h1
 have H2 : Hid (GRow encV w a2 xs) := h2
 clear h1 h2
 go_enter Tryz.func70, Tryz.ntmps70
 go_wp2
 go_loopw [5] (fun t wr => ∃ k : Nat, k ≤ xs.length ∧ t = .int .i64 k ∧ Hid (Below w.heap.size w wr)) (fun t _ => xs.length - (intOf t).toNat)
 case atStart => exact ⟨0, Nat.zero_le _, rfl, Below.refl _ _⟩
 case round =>
  obtain ⟨k, hk, rfl, HB⟩ := hrel
  by_cases hlt : k < xs.length
  ·have hlt' : (k : Int) < (xs.length : Int) := by omega
   have h0 : (0 : Int) ≤ (k : Int) := by omega
   obtain ⟨b1, off1, rfl, hl1, q1⟩ := (H1.out.below HB.out) (by omega)
   obtain ⟨b2, off2, rfl, hl2, q2⟩ := (H2.out.below HB.out) (by omega)
   have r10 := ((vat q1) k hlt).1
   have r11 := ((vat q1) k hlt).2.1
   have r12 := ((vat q1) k hlt).2.2.1
   have r13 := ((vat q1) k hlt).2.2.2
   have r20 := ((vat q2) k hlt).1
   have r21 := ((vat q2) k hlt).2.1
   have r22 := ((vat q2) k hlt).2.2.1
   have r23 := ((vat q2) k hlt).2.2.2
   clear q1 q2
   go_wp2
   go_region_held3 (fun w' => w'.cell? ⟨b1, off1 + k * 4, none⟩ = some (.string xs[k].1) ∧ w'.cell? ⟨b1, off1 + k * 4 + 1, none⟩ = some (.string xs[k].2.1) ∧ w'.cell? ⟨b1, off1 + k * 4 + 2, none⟩ = some (.bool xs[k].2.2.1) ∧ w'.cell? ⟨b1, off1 + k * 4 + 3, none⟩ = some (.int .i64 xs[k].2.2.2) ∧ w'.cell? ⟨b2, off2 + k * 4, none⟩ = some (.string xs[k].1) ∧ w'.cell? ⟨b2, off2 + k * 4 + 1, none⟩ = some (.string xs[k].2.1) ∧ w'.cell? ⟨b2, off2 + k * 4 + 2, none⟩ = some (.bool xs[k].2.2.1) ∧ w'.cell? ⟨b2, off2 + k * 4 + 3, none⟩ = some (.int .i64 xs[k].2.2.2)) (first | go_keep | exact ⟨(hbm.cell (p := ⟨b1, off1 + k * 4, none⟩) hl1).trans r10, (hbm.cell (p := ⟨b1, off1 + k * 4 + 1, none⟩) hl1).trans r11, (hbm.cell (p := ⟨b1, off1 + k * 4 + 2, none⟩) hl1).trans r12, (hbm.cell (p := ⟨b1, off1 + k * 4 + 3, none⟩) hl1).trans r13, (hbm.cell (p := ⟨b2, off2 + k * 4, none⟩) hl2).trans r20, (hbm.cell (p := ⟨b2, off2 + k * 4 + 1, none⟩) hl2).trans r21, (hbm.cell (p := ⟨b2, off2 + k * 4 + 2, none⟩) hl2).trans r22, (hbm.cell (p := ⟨b2, off2 + k * 4 + 3, none⟩) hl2).trans r23⟩) ((go_at_call 87; refine (eqv _ _ _ _ _).mono ?_; rintro e w2 ⟨rfl, hbm⟩))
   all_goals
    go_wp2
    go_roundw
    case rel => exact ⟨k + 1, by omega, by go_num, (HB.out.drew).trans (hbm.mono HB.out.size)⟩
    case measure => simp [intOf]; omega
  ·have hd : ¬ (k : Int) < (xs.length : Int) := by omega
   go_wp2
   go_ret
   exact ⟨rfl, HB.out⟩

end Go.Proofs.YtjieojfcmigcdaaGreatDoor

namespace Go.Proofs
open Go.Shelf
end Go.Proofs
namespace Go.Proofs
open Go.Shelf
def Tryz.laysM316_ren : Go.Shelf.Ren := ⟨fun | 316 => 99 | n => n, fun | 9 => 9 | 3 => 3 | 4 => 4 | 37 => 72 | 0 => 0 | 127 => 105 | 5 => 5 | n => n, fun | n => n⟩
theorem Tryz.laysM316 : Go.Proofs.LaysM.n316 Tryz.prog Tryz.laysM316_ren := {
 mixed := by kernel_rfl
 f316 := Tryz.func99.trans (congrArg some (by kernel_rfl))
 t0 := Tryz.underlying0
 a0 := Tryz.isAgg0
 z0 := Tryz.sizeOf0
 v0 := Tryz.zeroValue0
 t3 := Tryz.underlying3
 a3 := Tryz.isAgg3
 z3 := Tryz.sizeOf3
 v3 := Tryz.zeroValue3
 t4 := Tryz.underlying4
 a4 := Tryz.isAgg4
 z4 := Tryz.sizeOf4
 v4 := Tryz.zeroValue4
 t9 := Tryz.underlying9
 a9 := Tryz.isAgg9
 z9 := Tryz.sizeOf9
 v9 := Tryz.zeroValue9
 t37 := Tryz.underlying72
 a37 := Tryz.isAgg72
 z37 := Tryz.sizeOf72
 v37 := Tryz.zeroValue72
 t127 := Tryz.underlying105
 a127 := Tryz.isAgg105
 z127 := Tryz.sizeOf105
 v127 := Tryz.zeroValue105
 t5 := Tryz.underlying5
 a5 := Tryz.isAgg5
 z5 := Tryz.sizeOf5
 v5 := Tryz.zeroValue5
 i0 := by kernel_rfl
 i3 := by kernel_rfl
 i4 := by kernel_rfl
 i5 := by kernel_rfl
 i9 := by kernel_rfl
 i37 := by kernel_rfl
 i127 := by kernel_rfl }
open Go.RowKit in
theorem Tryz.stringslite_Clone (s : ByteArray) (w : World) (hlim : s.size ≤ 281474976710656) :
  Calls Tryz.prog 99 #[.string s] w fun e w' => e = .returned (.string s) ∧ Below w.heap.size w w' := Any.stringslite_Clone Tryz.laysM316 s w hlim
end Go.Proofs

namespace Go.Proofs.YtjieojfcmigcdaaGreatDoor
open Go.RowKit
open KM
attribute [local go_sem ↓] Go.wp_at_zero Go.wp_at_succ

theorem undrew {w w' : World} (h : Below w.drew.heap.size w.drew w') : Below w.heap.size w w' := (belowRefl w).drew.trans h
theorem ret_int {a b : Int} (h : a = b) : Ending.returned (.int .i64 a) = .returned (.int .i64 b) := by rw [h]
end Go.Proofs.YtjieojfcmigcdaaGreatDoor

namespace Go.Proofs.YtjieojfcmigcdaaGreatDoor
open Go.RowKit
open KM
attribute [local go_sem ↓] Go.wp_at_zero Go.wp_at_succ

theorem toList_data (s : ByteArray) : s.toList = s.data.toList := by
 obtain ⟨⟨l⟩⟩ := s
 exact ByteArray.toList_mk l
theorem toList_inj {a b : ByteArray} (h : a.toList = b.toList) : a = b := by
 rw [toList_data, toList_data] at h
 obtain ⟨⟨a⟩⟩ := a
 obtain ⟨⟨b⟩⟩ := b
 have h' : a = b := h
 rw [h']
theorem beq_text (a b : ByteArray) : (a.toList == b.toList) = decide (a = b) := by
 by_cases h : a = b
 ·subst h; simp
 ·rw [decide_eq_false h, beq_eq_false_iff_ne]
  exact fun e => h (toList_inj e)
end Go.Proofs.YtjieojfcmigcdaaGreatDoor

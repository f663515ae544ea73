/- What ScanAt does, on both sides. -/
import Derived.Test.YtjieojfcmigcdaaGreatDoorProg
import Derived.WalkKit
import Derived.Test.YtjieojfcmigcdaaGreatDoorPw01
import Derived.WalkSpells
import Derived.WalkLawsBesides
import Derived.Deep.QuietTactic
import Derived.BigQuiet
import Derived.Deep.RegionHeld3
import Derived.Deep.DrawnRows
import Derived.Test.YtjieojfcmigcdaaGreatDoorPw05
import Derived.Deep.AppendLies
import Derived.Test.YtjieojfcmigcdaaGreatDoorPw02
import Derived.Deep.RegionHeld
import Derived.Test.YtjieojfcmigcdaaGreatDoorPw03
import Derived.Test.YtjieojfcmigcdaaGreatDoorPw08
import Derived.Lib.SlicesCompact
import Derived.Sort.Walk0
import Derived.Test.YtjieojfcmigcdaaGreatDoorPw09
import Derived.Sort.OwnSorted
import Derived.Lib.RowBridge
import Derived.Test.YtjieojfcmigcdaaGreatDoorPw11
import Derived.Test.YtjieojfcmigcdaaGreatDoorPw12
namespace Go.Proofs.YtjieojfcmigcdaaGreatDoor
open Go.RowKit
open KM
open VM
attribute [local go_sem ↓] Go.wp_at_zero Go.wp_at_succ

set_option maxRecDepth 100000 in
set_option maxHeartbeats 4000000 in
theorem keys69 (vs : List Vr) (a : Option Addr) (c : Nat) (rg : Rg) (hn : vs.length ≤ 10000000) (w : World) (hp : GRow encV w a vs) :
  Calls Tryz.prog 42 #[.slice a vs.length c, .agg #[.string rg.1, .string rg.2]] w fun e w' => ∃ a1 c1, e = .returned (.slice a1 ((keysB (vs.map (·.1))).filter (inB rg)).length c1) ∧ GOwn encS 9 w' w.heap.size (.slice a1 ((keysB (vs.map (·.1))).filter (inB rg)).length c1) ((keysB (vs.map (·.1))).filter (inB rg)) ∧ Below w.heap.size w w' := by
 have HP : Hid (GRow encV w a vs) := hp
 clear hp
 have X0 : Hid (Bx (w.alloc (.cells #[.string rg.1, .string rg.2] 67)) w.heap.size [.string rg.1, .string rg.2]) := Bx.new w [.string rg.1, .string rg.2] 67
 have HB0 : Hid (Below w.heap.size w (w.alloc (.cells #[.string rg.1, .string rg.2] 67))) := (belowRefl w).alloc (Nat.le_refl _) _
 go_enter Tryz.func42, Tryz.ntmps42
 go_wp2
 go_loopw [5, 6] (fun v t wr => ∃ (i : Nat) (ks : List ByteArray), i ≤ vs.length ∧ t = .int .i64 i ∧ Hid (GOwn encS 9 wr (w.heap.size + 1) v ks) ∧ Hid (KI vs rg i ks) ∧ Hid (Bx wr w.heap.size [.string rg.1, .string rg.2]) ∧ Hid (Below w.heap.size w wr)) (fun _ t _ => vs.length - (intOf t).toNat)
 case atStart =>
  refine ⟨0, [], Nat.zero_le _, rfl, ?_, ⟨by simp, fun x => by simp, by simp⟩, X0.out.alloc _, HB0.out.alloc HB0.out.size _⟩
  have h := GOwn.empty (E := encS) (e := 9) (w.alloc (.cells #[.string rg.1, .string rg.2] 67)) (w.heap.size + 1) (by rw [World.size_alloc]; exact Nat.le_refl _)
  rw [World.size_alloc] at h
  exact h
 case round =>
  clear X0 HB0
  obtain ⟨i, ks, hi, rfl, HO, HK, HX, HB⟩ := hrel
  by_cases hlt : i < vs.length
  ·have hlt' : (i : Int) < (vs.length : Int) := by omega
   have hi0 : (0 : Int) ≤ (i : Int) := by omega
   obtain ⟨b, off, rfl, hbl, hc⟩ := (HP.out.below HB.out) (by omega)
   have c0 := (vat hc i hlt).1
   clear hc
   have x0 := HX.out.c0
   have x1 := HX.out.c1
   have hkl : ks.length ≤ 10000000 := by have := HK.out.len; omega
   obtain ⟨ao, cap, rfl, hrow⟩ := HO.out.row
   have HRo : Hid (GRow encS wr ao ks) := hrow
   clear hrow
   cases hin : inB rg vs[i].1
   ·have C1 : Hid (∀ w, Calls Tryz.prog 59 #[.agg #[.string rg.1, .string rg.2], .string vs[i].1] w fun e w' => e = .returned (.bool false) ∧ Below w.heap.size w w') := fun w => hin ▸ sin rg.1 rg.2 vs[i].1 w
    have HK2 : Hid (KI vs rg (i + 1) ks) := HK.out.no hlt hin
    clear hin
    go_wp2_with fail
    refine (C1.out _).mono ?_
    rintro e w2 ⟨rfl, hb2⟩
    have HO3 := hide (HO.out.below hb2)
    have HX3 : Hid (Bx w2 w.heap.size [.string rg.1, .string rg.2]) := HX.out.below hb2
    have HB3 : Hid (Below w.heap.size w w2) := HB.out.trans (hb2.mono HB.out.size)
    clear hb2
    go_wp2
    go_roundw
    case rel => exact ⟨i + 1, ks, by omega, by go_num, HO3, HK2, HX3, HB3⟩
    case measure => simp [intOf]; omega
   ·have C1 : Hid (∀ w, Calls Tryz.prog 59 #[.agg #[.string rg.1, .string rg.2], .string vs[i].1] w fun e w' => e = .returned (.bool true) ∧ Below w.heap.size w w') := fun w => hin ▸ sin rg.1 rg.2 vs[i].1 w
    have HK2 : Hid (KI vs rg (i + 1) (insK ks vs[i].1)) := HK.out.yes hlt hin
    have HM : Hid (vs.length - (i + 1) < vs.length - i) := by show _ < _; omega
    have HI2 : Hid (i + 1 ≤ vs.length) := hlt
    have hi9 : i ≤ 10000000 := by omega
    clear hin
    go_wp2_with fail
    refine (C1.out _).mono ?_
    rintro e w2 ⟨rfl, hb2⟩
    have HR2 : Hid (GRow encS w2 ao ks) := HRo.out.below hb2
    have HX2 : Hid (Bx w2 w.heap.size [.string rg.1, .string rg.2]) := HX.out.below hb2
    have HB2 : Hid (Below w.heap.size w w2) := HB.out.trans (hb2.mono HB.out.size)
    have HS2 : Hid (w.heap.size + 1 ≤ w2.heap.size) := HX2.out.lt
    clear hb2 x0 x1 c0 HO HX HB HRo
    generalize vs[i].1 = k at HK2 ⊢
    go_wp2
    go_loopw [8, 9] (fun v t wj => ∃ j : Nat, j ≤ ks.length ∧ t = .int .i64 j ∧ Hid (GOwn encS 9 wj w2.heap.size v ((ks.take j).filter fun y => lt y k)) ∧ Hid (Below w2.heap.size w2 wj)) (fun _ t _ => ks.length - (intOf t).toNat)
    case atStart => exact ⟨0, Nat.zero_le _, rfl, GOwn.empty w2 _ (Nat.le_refl _), (belowRefl w2).alloc (Nat.le_refl _) _⟩
    case round =>
     obtain ⟨j, hj, rfl, HN, HBj⟩ := hrel
     by_cases hjl : j < ks.length
     ·have hjl' : (j : Int) < (ks.length : Int) := by omega
      have hj0 : (0 : Int) ≤ (j : Int) := by omega
      obtain ⟨b', off', rfl, hbl', hc'⟩ := (HR2.out.below HBj.out) (by omega)
      have k0 := sat hc' j hjl
      clear hc'
      cases hl : lt ks[j] k
      ·have hl' : Op.bytesLess ks[j].toList k.toList = false := hl
       have ho2 := HN.out
       rw [← filter_no (p := fun y => lt y k) hjl hl] at ho2
       have HN2 := hide ho2
       clear ho2 hl
       go_wp2
       go_roundw
       case rel => exact ⟨j + 1, by omega, by go_num, HN2, HBj⟩
       case measure => simp [intOf]; omega
      ·have hl' : Op.bytesLess ks[j].toList k.toList = true := hl
       have hlen := filt_len (fun y => lt y k) ks j 100000000 (by omega)
       go_wp2_with (at_builtin; refine wpAppS rfl _ _ rfl ks[j] rfl HN.out rfl hlen HBj.out.size ?_)
       intro v' w' ho' hb'
       have HN2 : Hid (GOwn encS 9 w' w2.heap.size v' ((ks.take (j + 1)).filter fun y => lt y k)) := by
        show GOwn _ _ _ _ _ _
        rw [filter_yes hjl hl]; exact ho'
       have HB3 : Hid (Below w2.heap.size w2 w') := HBj.out.trans hb'
       clear ho' hb' hl
       go_wp2
       go_roundw
       case rel => exact ⟨j + 1, by omega, by go_num, HN2, HB3⟩
       case measure => simp [intOf]; omega
     ·have hjl' : ¬ (j : Int) < (ks.length : Int) := by omega
      have ho := HN.out
      rw [List.take_of_length_le (by omega)] at ho
      have HN1 := hide ho
      clear ho HN
      have hlen : (ks.filter fun y => lt y k).length ≤ 100000000 := Nat.le_trans (List.length_filter_le _ _) (by omega)
      go_wp2_with (at_builtin; refine wpAppS rfl _ _ rfl k rfl HN1.out rfl hlen HBj.out.size ?_)
      intro v' w' ho' hb'
      have HN2 : Hid (GOwn encS 9 w' w2.heap.size v' (ks.filter (fun y => lt y k) ++ [k])) := ho'
      have HB3 : Hid (Below w2.heap.size w2 w') := HBj.out.trans hb'
      clear ho' hb' HN1 HBj
      go_wp2
      go_loopw [8, 10] (fun v t wj => ∃ j : Nat, j ≤ ks.length ∧ t = .int .i64 j ∧ Hid (GOwn encS 9 wj w2.heap.size v (ks.filter (fun y => lt y k) ++ [k] ++ (ks.take j).filter fun y => lt k y)) ∧ Hid (Below w2.heap.size w2 wj)) (fun _ t _ => ks.length - (intOf t).toNat)
      case atStart =>
       refine ⟨0, Nat.zero_le _, rfl, ?_, HB3⟩
       show GOwn _ _ _ _ _ _
       simpa using HN2.out
      case round =>
       clear HN2 HB3
       obtain ⟨m, hm, rfl, HN, HBm⟩ := hrel
       by_cases hml : m < ks.length
       ·have hml' : (m : Int) < (ks.length : Int) := by omega
        have hm0 : (0 : Int) ≤ (m : Int) := by omega
        obtain ⟨b', off', rfl, hbl', hc'⟩ := (HR2.out.below HBm.out) (by omega)
        have k0 := sat hc' m hml
        clear hc'
        cases hl : lt k ks[m]
        ·have hl' : (!(Op.bytesLess ks[m].toList k.toList || ks[m].toList == k.toList)) = false := (not_le _ _).trans hl
         have ho2 := HN.out
         rw [← filter_no (p := fun y => lt k y) hml hl] at ho2
         have HN2 := hide ho2
         clear ho2 hl
         go_wp2
         go_roundw
         case rel => exact ⟨m + 1, by omega, by go_num, HN2, HBm⟩
         case measure => simp [intOf]; omega
        ·have hl' : (!(Op.bytesLess ks[m].toList k.toList || ks[m].toList == k.toList)) = true := (not_le _ _).trans hl
         have hlen : (ks.filter (fun y => lt y k) ++ [k] ++ (ks.take m).filter fun y => lt k y).length ≤ 100000000 := by
          have h1 := filt_len (fun y => lt k y) ks m 10000000 hkl
          have h2 : (ks.filter fun y => lt y k).length ≤ 10000000 := Nat.le_trans (List.length_filter_le _ _) hkl
          simp only [List.length_append, List.length_singleton]
          omega
         go_wp2_with (at_builtin; refine wpAppS rfl _ _ rfl ks[m] rfl HN.out rfl hlen HBm.out.size ?_)
         intro v' w' ho' hb'
         have HN2 : Hid (GOwn encS 9 w' w2.heap.size v' (ks.filter (fun y => lt y k) ++ [k] ++ (ks.take (m + 1)).filter fun y => lt k y)) := by
          show GOwn _ _ _ _ _ _
          rw [filter_yes hml hl]; simpa [List.append_assoc] using ho'
         have HB3 : Hid (Below w2.heap.size w2 w') := HBm.out.trans hb'
         clear ho' hb' hl
         go_wp2
         go_roundw
         case rel => exact ⟨m + 1, by omega, by go_num, HN2, HB3⟩
         case measure => simp [intOf]; omega
       ·have hml' : ¬ (m : Int) < (ks.length : Int) := by omega
        have ho := HN.out
        rw [List.take_of_length_le (by omega)] at ho
        have HN1 : Hid (GOwn encS 9 wr (w.heap.size + 1) u8 (insK ks k)) := ho.mono HS2.out
        have HX3 : Hid (Bx wr w.heap.size [.string rg.1, .string rg.2]) := HX2.out.below HBm.out
        have HB3 : Hid (Below w.heap.size w wr) := HB2.out.trans (HBm.out.mono HB2.out.size)
        clear ho HN HBm
        go_wp2
        go_roundw
        case rel => exact ⟨i + 1, _, HI2.out, by go_num, HN1, HK2, HX3, HB3⟩
        case measure => simp [intOf]; exact HM.out
  ·have hlt' : ¬ (i : Int) < (vs.length : Int) := by omega
   have hil : i = vs.length := by omega
   subst hil
   have ho := HO.out
   rw [HK.out.whole] at ho
   obtain ⟨a1, c1, rfl, _⟩ := ho.row
   have HR := hide (ho.mono (Nat.le_succ w.heap.size))
   clear ho HO
   go_wp2
   go_ret
   exact ⟨a1, c1, rfl, HR.out, HB.out⟩
end Go.Proofs.YtjieojfcmigcdaaGreatDoor

namespace Go.Proofs.YtjieojfcmigcdaaGreatDoor
open Go.RowKit
open KM
open VM
attribute [local go_sem ↓] Go.wp_at_zero Go.wp_at_succ

theorem fm_no {α β : Type} {f : α → Option β} {l : List α} {i : Nat} (h : i < l.length) (hf : f l[i] = none) : (l.take (i + 1)).filterMap f = (l.take i).filterMap f := by
 rw [List.take_succ_eq_append_getElem h, List.filterMap_append]
 simp [hf]
theorem fm_yes {α β : Type} {f : α → Option β} {l : List α} {i : Nat} {p : β} (h : i < l.length) (hf : f l[i] = some p) : (l.take (i + 1)).filterMap f = (l.take i).filterMap f ++ [p] := by
 rw [List.take_succ_eq_append_getElem h, List.filterMap_append]
 simp [hf]
def pairF (vs : List Vr) (s : Int) (k : ByteArray) : Option Rg := (seenB vs k s).map fun v => (k, v)

set_option maxRecDepth 100000 in
set_option maxHeartbeats 4000000 in
theorem sscan (vs : List Vr) (a : Option Addr) (c : Nat) (rg : Rg) (s : Int) (hn : vs.length ≤ 10000000) (w : World) (hp : GRow encV w a vs) :
  Calls Tryz.prog 20 #[.slice a vs.length c, .agg #[.string rg.1, .string rg.2], .int .i64 s] w fun e w' => ∃ a1 c1, e = .returned (.slice a1 (scanB vs rg s).length c1) ∧ GOwn encR 97 w' w.heap.size (.slice a1 (scanB vs rg s).length c1) (scanB vs rg s) ∧ Below w.heap.size w w' := by
 have HP : Hid (GRow encV w a vs) := hp
 clear hp
 have X0 : Hid (Bx (w.alloc (.cells #[.string rg.1, .string rg.2] 67)) w.heap.size [.string rg.1, .string rg.2]) := Bx.new w [.string rg.1, .string rg.2] 67
 have HB0 : Hid (Below w.heap.size w (w.alloc (.cells #[.string rg.1, .string rg.2] 67))) := (belowRefl w).alloc (Nat.le_refl _) _
 have HS0 : Hid ((w.alloc (.cells #[.string rg.1, .string rg.2] 67)).heap.size = w.heap.size + 1) := World.size_alloc _ _
 have HO0 : Hid (GOwn encR 97 ((w.alloc (.cells #[.string rg.1, .string rg.2] 67)).alloc (.cells #[] 97)) (w.heap.size + 1) (.slice (some ⟨w.heap.size + 1, 0, none⟩) 0 0) []) := by
  have h := GOwn.empty (E := encR) (e := 97) (w.alloc (.cells #[.string rg.1, .string rg.2] 67)) (w.heap.size + 1) (by rw [World.size_alloc]; exact Nat.le_refl _)
  rw [World.size_alloc] at h
  exact h
 have HAw : Hid (Away (.slice (some ⟨w.heap.size + 1, 0, none⟩) 0 0) (w.heap.size + 2) (w.heap.size + 2)) := fun g hg => by have := Option.some.inj hg; simp at this; omega
 have HSa : Hid (((w.alloc (.cells #[.string rg.1, .string rg.2] 67)).alloc (.cells #[] 97)).heap.size = w.heap.size + 2) := by show _ = _; simp
 have HBa : Hid (Below w.heap.size w ((w.alloc (.cells #[.string rg.1, .string rg.2] 67)).alloc (.cells #[] 97))) := HB0.out.alloc HB0.out.size _
 have Xa : Hid (Bx ((w.alloc (.cells #[.string rg.1, .string rg.2] 67)).alloc (.cells #[] 97)) w.heap.size [.string rg.1, .string rg.2]) := X0.out.alloc _
 have x0 := Xa.out.c0
 have x1 := Xa.out.c1
 go_enter Tryz.func20, Tryz.ntmps20
 go_wp2_with fail
 generalize (w.alloc (.cells #[.string rg.1, .string rg.2] 67)).alloc (.cells #[] 97) = W at *
 refine (keys69 vs a c rg hn _ (HP.out.below HBa.out)).mono ?_
 rintro e w1 ⟨ao, cap, rfl, hr, hb1⟩
 have HL : Hid (scanB vs rg s = ((keysB (vs.map (·.1))).filter (inB rg)).filterMap (pairF vs s)) := scan_filter vs rg s
 have hkl : ((keysB (vs.map (·.1))).filter (inB rg)).length ≤ 10000000 := by
  refine Nat.le_trans (List.length_filter_le _ _) (Nat.le_trans (keys_len _) ?_)
  rw [List.length_map]; exact hn
 generalize (keysB (vs.map (·.1))).filter (inB rg) = ks at hr HL hkl ⊢
 have HR : Hid (GRow encS w1 ao ks) := hr.grow
 have HRb : Hid (∀ b off, ao = some ⟨b, off, none⟩ → W.heap.size ≤ b ∧ b < w1.heap.size) := fun b off e => by
  subst e
  exact World.ownsRow.lt hr b rfl
 have HO1 := hide (HO0.out.below hb1)
 have HA1 : Hid (Away (.slice (some ⟨w.heap.size + 1, 0, none⟩) 0 0) W.heap.size w1.heap.size) := fun g hg => by have := Option.some.inj hg; have := HSa.out; simp at *; omega
 have HB1 : Hid (Below w.heap.size w w1) := HBa.out.trans (hb1.mono HBa.out.size)
 have HS1 : Hid (w.heap.size + 1 ≤ w1.heap.size) := Nat.le_trans Xa.out.lt hb1.size
 clear hr hb1 x0 x1 Xa HBa HO0 X0 HB0 HS0
 go_wp2
 go_loopw [7, 9] (fun v t wr => ∃ i : Nat, i ≤ ks.length ∧ t = .int .i64 i ∧ Hid (GOwn encR 97 wr (w.heap.size + 1) v ((ks.take i).filterMap (pairF vs s))) ∧ Hid (GRow encS wr ao ks) ∧ Hid (Away v W.heap.size w1.heap.size) ∧ Hid (w1.heap.size ≤ wr.heap.size) ∧ Hid (Below w.heap.size w wr)) (fun _ t _ => ks.length - (intOf t).toNat)
 case atStart => exact ⟨0, Nat.zero_le _, rfl, HO1, HR, HA1, Nat.le_refl _, HB1⟩
 case round =>
  obtain ⟨i, hi, rfl, HO, HRi, HAv, HSr, HB⟩ := hrel
  by_cases hlt : i < ks.length
  ·have hlt' : (i : Int) < (ks.length : Int) := by omega
   have hi0 : (0 : Int) ≤ (i : Int) := by omega
   obtain ⟨b, off, rfl, hbl, hc⟩ := HRi.out (by omega)
   have k0 := sat hc i hlt
   have HK : Hid (wr.cell? ⟨b, off + i, none⟩ = some (.string ks[i])) := k0
   clear hc
   have hll : ((ks.take i).filterMap (pairF vs s)).length ≤ 100000000 := Nat.le_trans (fmap_len _ _) (by rw [List.length_take]; omega)
   go_wp2_with fail
   refine (sseen vs a c ks[i] s (by omega) _ (HP.out.below HB.out)).mono ?_
   rintro e w2 ⟨rfl, hb2⟩
   have HO2 := hide (HO.out.below hb2)
   have HR2 := hide (HRi.out.below hb2)
   have HB2 : Hid (Below w.heap.size w w2) := HB.out.trans (hb2.mono HB.out.size)
   have HS2 : Hid (w1.heap.size ≤ w2.heap.size) := Nat.le_trans HSr.out hb2.size
   have k2 := (hb2.cell (p := ⟨b, off + i, none⟩) hbl).trans HK.out
   clear hb2 k0 HK HO HRi HB
   cases hs : seenB vs ks[i] s with
   | none =>
    rw [sawB_none]
    have ho2 := HO2.out
    rw [← fm_no (f := pairF vs s) hlt (by unfold pairF; rw [hs]; rfl)] at ho2
    have HO3 := hide ho2
    clear ho2 hs
    go_wp2
    go_roundw
    case rel => exact ⟨i + 1, by omega, by go_num, HO3, HR2, HAv, HS2, HB2⟩
    case measure => simp [intOf]; omega
   | some t =>
    rw [sawB_some]
    have HP2 : Hid ((ks.take (i + 1)).filterMap (pairF vs s) = (ks.take i).filterMap (pairF vs s) ++ [(ks[i], t)]) := fm_yes hlt (by unfold pairF; rw [hs]; rfl)
    have hsz : w.heap.size + 1 ≤ w2.heap.size := Nat.le_trans HS1.out HS2.out
    clear hs
    go_wp2_with (at_builtin; refine wpAppKP rfl _ _ rfl (ks[i], t) rfl HO2.out rfl hll hsz ?_)
    intro v' w' ho' hb' hg' hv'
    have HR3 : Hid (GRow encS w' (some ⟨b, off, none⟩) ks) := HR2.out.grown hg' (fun b1 off1 e he => by
     have h1 := HRb.out b1 off1 e
     rcases HAv.out b1 he with h | h <;> omega)
    have HA3 : Hid (Away v' W.heap.size w1.heap.size) := HAv.out.next HS2.out hv'
    have HS3 : Hid (w1.heap.size ≤ w'.heap.size) := Nat.le_trans HS2.out hg'.size
    have HO3 : Hid (GOwn encR 97 w' (w.heap.size + 1) v' ((ks.take (i + 1)).filterMap (pairF vs s))) := by
     show GOwn _ _ _ _ _ _
     rw [HP2.out]; exact ho'
    have HB3 : Hid (Below w.heap.size w w') := HB2.out.trans (hb'.mono (by omega))
    clear ho' hb' hg' hv'
    go_wp2
    go_roundw
    case rel => exact ⟨i + 1, by omega, by go_num, HO3, HR3, HA3, HS3, HB3⟩
    case measure => simp [intOf]; omega
  ·have hlt' : ¬ (i : Int) < (ks.length : Int) := by omega
   have ho := HO.out
   rw [List.take_of_length_le (by omega), ← HL.out] at ho
   obtain ⟨a1, c1, rfl, _⟩ := ho.row
   have HO1 : Hid (GOwn encR 97 wr w.heap.size (.slice a1 (scanB vs rg s).length c1) (scanB vs rg s)) := ho.mono (by omega)
   clear ho HO
   go_wp2
   go_ret
   exact ⟨a1, c1, rfl, HO1.out, HB.out⟩
end Go.Proofs.YtjieojfcmigcdaaGreatDoor

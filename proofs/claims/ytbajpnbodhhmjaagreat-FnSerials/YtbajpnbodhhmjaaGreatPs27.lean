/- What ViewOf answers, the program's and the document's. -/
import Derived.Test.YtbajpnbodhhmjaaGreatPs01
import Derived.Test.YtbajpnbodhhmjaaGreatProg
import Derived.WalkKit
import Derived.WalkSpells
import Derived.WalkLawsBesides
import Derived.Deep.QuietTactic
import Derived.BigQuiet
import Derived.Deep.RegionHeld3
import Derived.Deep.DrawnRows
import Derived.Deep.AppendLies
import Derived.Sort.OwnSorted
import Derived.Lib.RowBridge
import Derived.Test.YtbajpnbodhhmjaaGreatPs02
import Derived.Lib.ItoaNum
import Derived.Lib.ItoaLen
import Derived.Deep.RegionHeld
import Derived.Test.YtbajpnbodhhmjaaGreatPs03
import Derived.Maps.OwnSet
import Derived.StringKeys
import Derived.Shelf.LaysM
import Derived.Shelf.Strconv.Clone
import Derived.Deep.Cut
import Derived.Test.YtbajpnbodhhmjaaGreatPs15
import Derived.Test.YtbajpnbodhhmjaaGreatPs16
import Derived.Test.YtbajpnbodhhmjaaGreatPs21
import Derived.Test.YtbajpnbodhhmjaaGreatPs24
import Derived.Test.YtbajpnbodhhmjaaGreatPs25
import Derived.Test.YtbajpnbodhhmjaaGreatPs26
import Derived.Test.YtbajpnbodhhmjaaGreatPs23
namespace Go.Proofs.YtbajpnbodhhmjaaGreat
open Go.RowKit
open KM
attribute [local go_sem ↓] Go.wp_at_zero Go.wp_at_succ

set_option maxRecDepth 100000 in
set_option maxHeartbeats 4000000 in
theorem sview (ms : List Rg) (a : Option Addr) (c n : Nat) (rg : Rg) (hx : n = ms.length) (hn : n ≤ 1048576) (w : World) (hp : GRow encR w a ms) :
  Calls Tryz.prog 19 #[.slice a n c, .agg #[.string rg.1, .string rg.2]] w fun e w' => ∃ (a1 : Option Addr) (c1 : Nat), e = .returned (.slice a1 (viewB ms rg).length c1) ∧ GOwn encR 75 w' w.heap.size (.slice a1 (viewB ms rg).length c1) (viewB ms rg) ∧ Below w.heap.size w w' := by
 have HP : Hid (GRow encR w a ms) := hp
 have HX : Hid (n = ms.length) := hx
 clear hp hx
 have X0 : Hid (Bx (w.alloc (.cells #[.string rg.1, .string rg.2] 35)) w.heap.size [.string rg.1, .string rg.2]) := Bx.new w [.string rg.1, .string rg.2] 35
 have HB0 : Hid (Below w.heap.size w (w.alloc (.cells #[.string rg.1, .string rg.2] 35))) := (belowRefl w).alloc (Nat.le_refl _) _
 have HO0 : Hid (GOwn encR 75 ((w.alloc (.cells #[.string rg.1, .string rg.2] 35)).alloc (.cells #[] 75)) (w.heap.size + 1) (.slice (some ⟨w.heap.size + 1, 0, none⟩) 0 0) []) := by
  have h := GOwn.empty (E := encR) (e := 75) (w.alloc (.cells #[.string rg.1, .string rg.2] 35)) (w.heap.size + 1) (by rw [World.size_alloc]; exact Nat.le_refl _)
  rw [World.size_alloc] at h
  exact h
 have HBa : Hid (Below w.heap.size w ((w.alloc (.cells #[.string rg.1, .string rg.2] 35)).alloc (.cells #[] 75))) := HB0.out.alloc HB0.out.size _
 have Xa : Hid (Bx ((w.alloc (.cells #[.string rg.1, .string rg.2] 35)).alloc (.cells #[] 75)) w.heap.size [.string rg.1, .string rg.2]) := X0.out.alloc _
 clear X0 HB0
 go_enter Tryz.func19, Tryz.ntmps19
 go_wp2
 go_loopw [5, 6] (fun v s wr => ∃ k : Nat, k ≤ n ∧ s = .int .i64 k ∧ Hid (GOwn encR 75 wr (w.heap.size + 1) v (viewB (ms.take k) rg)) ∧ Hid (Bx wr w.heap.size [.string rg.1, .string rg.2]) ∧ Hid (Below w.heap.size w wr)) (fun _ s _ => n - (intOf s).toNat)
 case atStart => exact ⟨0, Nat.zero_le _, rfl, HO0, Xa, HBa⟩
 case round =>
  obtain ⟨k, hk, rfl, HO, HXr, HB⟩ := hrel
  by_cases hlt : k < n
  ·have hlt' : (k : Int) < (n : Int) := by omega
   have h0 : (0 : Int) ≤ (k : Int) := by omega
   have hkx : k < ms.length := by rw [← HX.out]; exact hlt
   obtain ⟨b, off, rfl, hbl, hc⟩ := (HP.out.below HB.out) (by omega)
   have r0 := (rat hc k hkx).1
   have r1 := (rat hc k hkx).2
   obtain ⟨b9, o9, e9, hbw, hc9⟩ := HP.out (by omega)
   cases e9
   clear hc9
   have HN := hide (view_next ms rg k hkx)
   have hvl : (viewB (ms.take k) rg).length ≤ 100000000 := Nat.le_trans (view_len ms rg k) (by omega)
   
   obtain ⟨x, hx⟩ : ∃ x, x = ms[k] := ⟨_, rfl⟩
   rw [← hx] at r0 r1 HN 
   clear hx hkx hc
   have HBL := hide hbl
   have x0 := HXr.out.c0
   have x1 := HXr.out.c1
   go_wp2
   refine wp_region_held_drew (S := fun w' => w'.cell? ⟨b, off + k * 2, none⟩ = some (.string x.1) ∧ w'.cell? ⟨w.heap.size, 0, none⟩ = some (.string rg.1) ∧ w'.cell? ⟨w.heap.size, 1, none⟩ = some (.string rg.2)) (by kernel_rfl) ⟨r0, x0, x1⟩ (fun hHeld => ?_)
   (refine tk 0 ?_ rfl (Or.inl ⟨by rfl, ?_⟩) ?_; rotate_left; (focus (intro w h; (try dsimp only at h); go_simp; (try with_reducible rfl))); simp only [Act.put, tA, tB, tD, tE, tF])
   (refine tk 1 ?_ rfl (Or.inl ⟨by rfl, ?_⟩) ?_; rotate_left; (focus (intro w h; (try dsimp only at h); go_simp; (try with_reducible rfl))); simp only [Act.put, tA, tB, tC, tD, tE, tF])
   (refine tk 2 ?_ rfl (Or.inl ⟨by rfl, ?_⟩) ?_; rotate_left; (focus (intro w h; (try dsimp only at h); go_simp; (try with_reducible rfl))); simp only [Act.put, tA, tB, tC, tD, tE, tF])
   (refine tk 3 ?_ rfl (Or.inl ⟨by rfl, ?_⟩) ?_; rotate_left; (focus (intro w h; (try dsimp only at h); go_simp; (try with_reducible rfl))); simp only [Act.put, tA, tB, tC, tD, tE, tF])
   (refine tk 4 ?_ rfl (Or.inl ⟨by rfl, ?_⟩) ?_; rotate_left; (focus (intro w h; (try dsimp only at h); go_simp; (try with_reducible rfl))); simp only [Act.put, tA, tB, tC, tD, tE, tF])
   (refine tk 5 ?_ rfl (Or.inl ⟨by rfl, ?_⟩) ?_; rotate_left; (focus (intro w h; (try dsimp only at h); go_simp; (try with_reducible rfl))); simp only [Act.put, tA, tB, tC, tD, tE, tF])
   refine wpAnyH_ready (rs := [6]) (by kernel_rfl) (by simp) ?_
   refine AllReadyH.cons rfl (fun K hK => ?_) AllReadyH.nil
   go_simp
   go_wp2_with fail
   refine (sin rg.1 rg.2 x.1 _).mono ?_
   rintro e w2 ⟨rfl, hb2⟩
   have hbu2 := undrew hb2
   have HB2 : Hid (Below w.heap.size w w2) := HB.out.trans (hbu2.mono HB.out.size)
   have X2 : Hid (Bx w2 w.heap.size [.string rg.1, .string rg.2]) := HXr.out.below hbu2
   have O2 := hide (HO.out.below hbu2)
   have R0 := hide ((hbu2.cell (p := ⟨b, off + k * 2, none⟩) hbl).trans r0)
   have R1 := hide ((hbu2.cell (p := ⟨b, off + k * 2 + 1, none⟩) hbl).trans r1)
   have HBL2 : Hid (b < w2.heap.size) := Nat.lt_of_lt_of_le hbl hbu2.size
   go_wp2_with fail
   refine hK.out _ _ ⟨R0.out, X2.out.c0, X2.out.c1⟩ (fun hHeld2 => ?_)
   clear hK K hb2 hbu2
   refine wpAnyH_done (by kernel_rfl) ?_ _
   clear r0 r1 x0 x1 HO HXr HB
   cases hin : inB rg x.1
   ·rw [hin] at HN
    have O3 : Hid (GOwn encR 75 w2 (w.heap.size + 1) u5 (viewB (ms.take (k + 1)) rg)) := by
     show GOwn _ _ _ _ _ _
     rw [HN.out]
     simp only [Bool.false_eq_true, if_false, List.append_nil]
     exact O2.out
    clear hin HN R0 R1
    go_wp2
    go_roundw
    case rel => exact ⟨k + 1, by omega, by go_num, O3, X2, HB2⟩
    case measure => simp [intOf]; omega
   ·rw [hin] at HN
    clear hin
    have q0 := R0.out
    have q1 := R1.out
    have hq : (⟨b, off + k * 2, none⟩ : Addr).block < w2.heap.size := HBL2.out
    go_wp2
    refine wp_region_held_drew (S := fun w' => w'.cell? ⟨b, off + k * 2, none⟩ = some (.string x.1) ∧ w'.cell? ⟨b, off + k * 2 + 1, none⟩ = some (.string x.2)) (by kernel_rfl) ⟨q0, q1⟩ (fun hHeld => ?_)
    (refine tk 0 ?_ rfl (Or.inl ⟨by rfl, ?_⟩) ?_; rotate_left; (focus (intro w h; (try dsimp only at h); go_simp; (try with_reducible rfl))); simp only [Act.put, tA, tB, tD, tE, tF])
    (refine tk 1 ?_ rfl (Or.inl ⟨by rfl, ?_⟩) ?_; rotate_left; (focus (intro w h; (try dsimp only at h); go_simp; (try with_reducible rfl))); simp only [Act.put, tA, tB, tC, tD, tE, tF])
    (refine tk 2 ?_ rfl (Or.inl ⟨by rfl, ?_⟩) ?_; rotate_left; (focus (intro w h; (try dsimp only at h); go_simp; (try with_reducible rfl))); simp only [Act.put, tA, tB, tC, tD, tE, tF])
    (refine tk 3 ?_ rfl (Or.inl ⟨by rfl, ?_⟩) ?_; rotate_left; (focus (intro w h; (try dsimp only at h); go_simp; (try with_reducible rfl))); simp only [Act.put, tA, tB, tC, tD, tE, tF])
    (refine tk 4 ?_ rfl (Or.inl ⟨by rfl, ?_⟩) ?_; rotate_left; (focus (intro w h; (try dsimp only at h); go_simp; (try with_reducible rfl))); simp only [Act.put, tA, tB, tC, tD, tE, tF])
    (refine tk 5 ?_ rfl (Or.inl ⟨by rfl, ?_⟩) ?_; rotate_left; (focus (intro w h; (try dsimp only at h); go_simp; (try with_reducible rfl))); simp only [Act.put, tA, tB, tC, tD, tE, tF])
    (refine tk 6 ?_ rfl (Or.inl ⟨by rfl, ?_⟩) ?_; rotate_left; (focus (intro w h; (try dsimp only at h); go_simp; (try with_reducible rfl))); simp only [Act.put, tA, tB, tC, tD, tE, tF])
    (refine tk 7 ?_ rfl (Or.inl ⟨by rfl, ?_⟩) ?_; rotate_left; (focus (intro w h; (try dsimp only at h); go_simp; (try with_reducible rfl))); simp only [Act.put, tA, tB, tC, tD, tE, tF])
    (refine tk 8 ?_ rfl (Or.inl ⟨by rfl, ?_⟩) ?_; rotate_left; (focus (intro w h; (try dsimp only at h); go_simp; (try with_reducible rfl))); simp only [Act.put, tA, tB, tC, tD, tE, tF])
    (refine tk 9 ?_ rfl (Or.inl ⟨by rfl, ?_⟩) ?_; rotate_left; (focus (intro w h; (try dsimp only at h); go_simp; (try with_reducible rfl))); simp only [Act.put, tA, tB, tC, tD, tE, tF])
    (refine tk 10 ?_ rfl (Or.inl ⟨by rfl, ?_⟩) ?_; rotate_left; (focus (intro w h; (try dsimp only at h); go_simp; (try with_reducible rfl))); simp only [Act.put, tA, tB, tC, tD, tE, tF])
    (refine tk 11 ?_ rfl (Or.inl ⟨by rfl, ?_⟩) ?_; rotate_left; (focus (intro w h; (try dsimp only at h); go_simp; (try with_reducible rfl))); simp only [Act.put, tA, tB, tC, tD, tE, tF])
    have hxl : w.heap.size + 1 ≤ w2.heap.size := Nat.succ_le_of_lt X2.out.lt
    have hd4 : Below w2.heap.size w2 (w2.drew.alloc (.cells #[.string x.1, .string x.2] 75)) := ((belowRefl w2).drew).alloc (Nat.le_refl _) _
    have O5 : Hid (GOwn encR 75 (w2.drew.alloc (.cells #[.string x.1, .string x.2] 75)) (w.heap.size + 1) u5 (viewB (ms.take k) rg)) := O2.out.below hd4
    refine wpAnyH_ready (rs := [12]) (by kernel_rfl) (by simp) ?_
    refine AllReadyH.cons rfl (fun K hK => ?_) AllReadyH.nil
    go_simp
    refine hK.out _ _ ⟨(hd4.cell (p := ⟨b, off + k * 2, none⟩) hq).trans q0, (hd4.cell (p := ⟨b, off + k * 2 + 1, none⟩) hq).trans q1⟩ (fun hHeld5 => ?_)
    clear hK K
    refine wpAnyH_ready (rs := [13]) (by kernel_rfl) (by simp) ?_
    refine AllReadyH.cons rfl (fun K hK => ?_) AllReadyH.nil
    refine stepAppK (E := encR) 44 75 32 _ Tryz.underlying44 Tryz.info75 rfl (by omega) rfl _ _ rfl (base := w.heap.size + 1) (v := u5) (xs := viewB (ms.take k) rg) x oneR rfl O5.out rfl (heap_alloc_new w2.drew _) hvl (by simp; omega) ?_
    intro g' cap' w6 ho6 hg6 hg7 hlt6
    have hb6 : Below (w.heap.size + 1) w2 w6 := (((Below.refl _ _).drew).alloc hxl _).trans ((Below.refl _ _).grown hg6 (by simp; omega) (fun j hj => (World.ownsRow.lt O5.out j hj).1))
    have HB6 : Hid (Below w.heap.size w w6) := HB2.out.trans (hb6.mono (Nat.le_succ _))
    have X6 : Hid (Bx w6 w.heap.size [.string rg.1, .string rg.2]) := bx_low X2.out hb6 (Nat.lt_succ_self _)
    have O6 : Hid (GOwn encR 75 w6 (w.heap.size + 1) (.slice (some ⟨g', 0, none⟩) ((viewB (ms.take k) rg).length + 1) cap') (viewB (ms.take (k + 1)) rg)) := by
     show GOwn _ _ _ _ _ _
     rw [HN.out]
     exact ho6
    refine hK.out _ _ ⟨(hb6.cell (p := ⟨b, off + k * 2, none⟩) (Nat.lt_succ_of_lt hbw)).trans q0, (hb6.cell (p := ⟨b, off + k * 2 + 1, none⟩) (Nat.lt_succ_of_lt hbw)).trans q1⟩ (fun hHeld6 => ?_)
    clear hK K ho6 hg6 hg7 hlt6 hb6
    (refine tk 14 ?_ rfl (Or.inl ⟨by rfl, ?_⟩) ?_; rotate_left; (focus (intro w h; (try dsimp only at h); go_simp; (try with_reducible rfl))); simp only [Act.put, tA, tB, tC, tD, tE, tF])
    refine wpAnyH_done (by kernel_rfl) ?_ _
    clear q0 q1 HN R0 R1
    go_wp2
    go_roundw
    case rel => exact ⟨k + 1, by omega, by go_num, O6, X6, HB6⟩
    case measure => simp [intOf]; omega
  ·have hd : ¬ (k : Int) < (n : Int) := by omega
   have ho := HO.out
   rw [List.take_of_length_le (by rw [← HX.out]; omega)] at ho
   obtain ⟨a1, c1, rfl, _⟩ := ho.row
   have O1 := hide (ho.mono (Nat.le_succ _))
   clear ho
   go_wp2
   go_ret
   exact ⟨a1, c1, rfl, O1.out, HB.out⟩
end Go.Proofs.YtbajpnbodhhmjaaGreat

namespace Go.Proofs.YtbajpnbodhhmjaaGreat
open Go.RowKit
open KM
open VM
attribute [local go_sem ↓] Go.wp_at_zero Go.wp_at_succ

set_option maxRecDepth 100000 in
set_option maxHeartbeats 1000000 in
theorem lcells (ps qs : List Rg) (a1 a2 : Option Addr) (c1 c2 : Nat) (hn : ps.length ≤ 100000000) (w : World) (h1 : GRow encR w a1 ps) (h2 : GRow encR w a2 qs) :
  Calls Tryz.prog 17 #[.slice a1 ps.length c1, .slice a2 qs.length c2] w fun e w' => e = .returned (.bool (decide (ps = qs))) ∧ Below w.heap.size w w' := by
 have H1 : Hid (GRow encR w a1 ps) := h1
 have H2 : Hid (GRow encR w a2 qs) := h2
 clear h1 h2
 by_cases hl : ps.length = qs.length
 ·have hl' : ((ps.length : Int) != (qs.length : Int)) = false := by rw [hl]; simp
  have HLe : Hid (ps.length = qs.length) := hl
  clear hl
  go_enter Tryz.func17, Tryz.ntmps17
  go_wp2
  go_loopw [5] (fun t wr => ∃ k : Nat, k ≤ ps.length ∧ t = .int .i64 k ∧ Hid (ps.take k = qs.take k) ∧ Hid (Below w.heap.size w wr)) (fun t _ => ps.length - (intOf t).toNat)
  case atStart => exact ⟨0, Nat.zero_le _, rfl, rfl, Below.refl _ _⟩
  case round =>
   obtain ⟨k, hk, rfl, HT, HB⟩ := hrel
   by_cases hlt : k < ps.length
   ·have hlt' : (k : Int) < (ps.length : Int) := by omega
    have h0 : (0 : Int) ≤ (k : Int) := by omega
    have hltq : k < qs.length := by have := HLe.out; omega
    have hltq' : (k : Int) < (qs.length : Int) := by omega
    obtain ⟨b1, o1, rfl, hb1, q1⟩ := (H1.out.below HB.out) (by omega)
    obtain ⟨b2, o2, rfl, hb2, q2⟩ := (H2.out.below HB.out) (by omega)
    have r0 := (rat q1 k hlt).1
    have r1 := (rat q1 k hlt).2
    have r2 := (rat q2 k hltq).1
    have r3 := (rat q2 k hltq).2
    clear q1 q2
    by_cases f1 : ps[k].1.toList = qs[k].1.toList
    ·by_cases f2 : ps[k].2.toList = qs[k].2.toList
     ·have HT2 : Hid (ps.take (k + 1) = qs.take (k + 1)) := by
       show _ = _
       have he : ps[k] = qs[k] := Prod.ext (toList_inj f1) (toList_inj f2)
       rw [List.take_succ_eq_append_getElem hlt, List.take_succ_eq_append_getElem hltq, HT.out, he]
      go_wp2
      refine wp_region_held_drew (S := fun w' => w'.cell? ⟨b1, o1 + k * 2, none⟩ = some (.string ps[k].1) ∧ w'.cell? ⟨b1, o1 + k * 2 + 1, none⟩ = some (.string ps[k].2) ∧ w'.cell? ⟨b2, o2 + k * 2, none⟩ = some (.string qs[k].1) ∧ w'.cell? ⟨b2, o2 + k * 2 + 1, none⟩ = some (.string qs[k].2)) (by kernel_rfl) ⟨r0, r1, r2, r3⟩ (fun hHeld => ?_)
      (refine tk 0 ?_ rfl (Or.inl ⟨by rfl, ?_⟩) ?_; rotate_left; (focus (intro w h; (try dsimp only at h); go_simp; (try with_reducible rfl))); simp only [Act.put, tA, tB, tD, tE, tF])
      (refine tk 1 ?_ rfl (Or.inl ⟨by rfl, ?_⟩) ?_; rotate_left; (focus (intro w h; (try dsimp only at h); go_simp; (try with_reducible rfl))); simp only [Act.put, tA, tB, tC, tD, tE, tF])
      (refine tk 2 ?_ rfl (Or.inl ⟨by rfl, ?_⟩) ?_; rotate_left; (focus (intro w h; (try dsimp only at h); go_simp; (try with_reducible rfl))); simp only [Act.put, tA, tB, tC, tD, tE, tF])
      (refine tk 3 ?_ rfl (Or.inl ⟨by rfl, ?_⟩) ?_; rotate_left; (focus (intro w h; (try dsimp only at h); go_simp; (try with_reducible rfl))); simp only [Act.put, tA, tB, tC, tD, tE, tF])
      (refine tk 4 ?_ rfl (Or.inl ⟨by rfl, ?_⟩) ?_; rotate_left; (focus (intro w h; (try dsimp only at h); go_simp; (try with_reducible rfl))); simp only [Act.put, tA, tB, tC, tD, tE, tF])
      (refine tk 5 ?_ rfl (Or.inl ⟨by rfl, ?_⟩) ?_; rotate_left; (focus (intro w h; (try dsimp only at h); go_simp; (try with_reducible rfl))); simp only [Act.put, tA, tB, tC, tD, tE, tF])
      (refine tk 6 ?_ rfl (Or.inl ⟨by rfl, ?_⟩) ?_; rotate_left; (focus (intro w h; (try dsimp only at h); go_simp; (try with_reducible rfl))); simp only [Act.put, tA, tB, tC, tD, tE, tF])
      (refine tk 7 ?_ rfl (Or.inl ⟨by rfl, ?_⟩) ?_; rotate_left; (focus (intro w h; (try dsimp only at h); go_simp; (try with_reducible rfl))); simp only [Act.put, tA, tB, tC, tD, tE, tF])
      (refine tk 8 ?_ rfl (Or.inl ⟨by rfl, ?_⟩) ?_; rotate_left; (focus (intro w h; (try dsimp only at h); go_simp; (try with_reducible rfl))); simp only [Act.put, tA, tB, tC, tD, tE, tF])
      refine wpAnyH_done (by kernel_rfl) ?_ _
      go_wp2
      go_roundw
      case rel => exact ⟨k + 1, by omega, by go_num, HT2, HB.out.drew⟩
      case measure => simp [intOf]; omega
     ·have HR : Hid (decide (ps = qs) = false) := by
       show _ = _
       rw [decide_eq_false_iff_not]
       intro e
       subst e
       exact f2 rfl
      go_wp2
      refine wp_region_held_drew (S := fun w' => w'.cell? ⟨b1, o1 + k * 2, none⟩ = some (.string ps[k].1) ∧ w'.cell? ⟨b1, o1 + k * 2 + 1, none⟩ = some (.string ps[k].2) ∧ w'.cell? ⟨b2, o2 + k * 2, none⟩ = some (.string qs[k].1) ∧ w'.cell? ⟨b2, o2 + k * 2 + 1, none⟩ = some (.string qs[k].2)) (by kernel_rfl) ⟨r0, r1, r2, r3⟩ (fun hHeld => ?_)
      (refine tk 0 ?_ rfl (Or.inl ⟨by rfl, ?_⟩) ?_; rotate_left; (focus (intro w h; (try dsimp only at h); go_simp; (try with_reducible rfl))); simp only [Act.put, tA, tB, tD, tE, tF])
      (refine tk 1 ?_ rfl (Or.inl ⟨by rfl, ?_⟩) ?_; rotate_left; (focus (intro w h; (try dsimp only at h); go_simp; (try with_reducible rfl))); simp only [Act.put, tA, tB, tC, tD, tE, tF])
      (refine tk 2 ?_ rfl (Or.inl ⟨by rfl, ?_⟩) ?_; rotate_left; (focus (intro w h; (try dsimp only at h); go_simp; (try with_reducible rfl))); simp only [Act.put, tA, tB, tC, tD, tE, tF])
      (refine tk 3 ?_ rfl (Or.inl ⟨by rfl, ?_⟩) ?_; rotate_left; (focus (intro w h; (try dsimp only at h); go_simp; (try with_reducible rfl))); simp only [Act.put, tA, tB, tC, tD, tE, tF])
      (refine tk 4 ?_ rfl (Or.inl ⟨by rfl, ?_⟩) ?_; rotate_left; (focus (intro w h; (try dsimp only at h); go_simp; (try with_reducible rfl))); simp only [Act.put, tA, tB, tC, tD, tE, tF])
      (refine tk 5 ?_ rfl (Or.inl ⟨by rfl, ?_⟩) ?_; rotate_left; (focus (intro w h; (try dsimp only at h); go_simp; (try with_reducible rfl))); simp only [Act.put, tA, tB, tC, tD, tE, tF])
      (refine tk 6 ?_ rfl (Or.inl ⟨by rfl, ?_⟩) ?_; rotate_left; (focus (intro w h; (try dsimp only at h); go_simp; (try with_reducible rfl))); simp only [Act.put, tA, tB, tC, tD, tE, tF])
      (refine tk 7 ?_ rfl (Or.inl ⟨by rfl, ?_⟩) ?_; rotate_left; (focus (intro w h; (try dsimp only at h); go_simp; (try with_reducible rfl))); simp only [Act.put, tA, tB, tC, tD, tE, tF])
      (refine tk 8 ?_ rfl (Or.inl ⟨by rfl, ?_⟩) ?_; rotate_left; (focus (intro w h; (try dsimp only at h); go_simp; (try with_reducible rfl))); simp only [Act.put, tA, tB, tC, tD, tE, tF])
      refine wpAnyH_done (by kernel_rfl) ?_ _
      go_wp2
      go_ret
      exact ⟨ret_bool HR.out.symm, HB.out.drew⟩
    ·have HR : Hid (decide (ps = qs) = false) := by
      show _ = _
      rw [decide_eq_false_iff_not]
      intro e
      subst e
      exact f1 rfl
     go_wp2
     refine wp_region_held_drew (S := fun w' => w'.cell? ⟨b1, o1 + k * 2, none⟩ = some (.string ps[k].1) ∧ w'.cell? ⟨b1, o1 + k * 2 + 1, none⟩ = some (.string ps[k].2) ∧ w'.cell? ⟨b2, o2 + k * 2, none⟩ = some (.string qs[k].1) ∧ w'.cell? ⟨b2, o2 + k * 2 + 1, none⟩ = some (.string qs[k].2)) (by kernel_rfl) ⟨r0, r1, r2, r3⟩ (fun hHeld => ?_)
     (refine tk 0 ?_ rfl (Or.inl ⟨by rfl, ?_⟩) ?_; rotate_left; (focus (intro w h; (try dsimp only at h); go_simp; (try with_reducible rfl))); simp only [Act.put, tA, tB, tD, tE, tF])
     (refine tk 1 ?_ rfl (Or.inl ⟨by rfl, ?_⟩) ?_; rotate_left; (focus (intro w h; (try dsimp only at h); go_simp; (try with_reducible rfl))); simp only [Act.put, tA, tB, tC, tD, tE, tF])
     (refine tk 2 ?_ rfl (Or.inl ⟨by rfl, ?_⟩) ?_; rotate_left; (focus (intro w h; (try dsimp only at h); go_simp; (try with_reducible rfl))); simp only [Act.put, tA, tB, tC, tD, tE, tF])
     (refine tk 3 ?_ rfl (Or.inl ⟨by rfl, ?_⟩) ?_; rotate_left; (focus (intro w h; (try dsimp only at h); go_simp; (try with_reducible rfl))); simp only [Act.put, tA, tB, tC, tD, tE, tF])
     (refine tk 4 ?_ rfl (Or.inl ⟨by rfl, ?_⟩) ?_; rotate_left; (focus (intro w h; (try dsimp only at h); go_simp; (try with_reducible rfl))); simp only [Act.put, tA, tB, tC, tD, tE, tF])
     (refine tk 5 ?_ rfl (Or.inl ⟨by rfl, ?_⟩) ?_; rotate_left; (focus (intro w h; (try dsimp only at h); go_simp; (try with_reducible rfl))); simp only [Act.put, tA, tB, tC, tD, tE, tF])
     (refine tk 6 ?_ rfl (Or.inl ⟨by rfl, ?_⟩) ?_; rotate_left; (focus (intro w h; (try dsimp only at h); go_simp; (try with_reducible rfl))); simp only [Act.put, tA, tB, tC, tD, tE, tF])
     (refine tk 7 ?_ rfl (Or.inl ⟨by rfl, ?_⟩) ?_; rotate_left; (focus (intro w h; (try dsimp only at h); go_simp; (try with_reducible rfl))); simp only [Act.put, tA, tB, tC, tD, tE, tF])
     (refine tk 8 ?_ rfl (Or.inl ⟨by rfl, ?_⟩) ?_; rotate_left; (focus (intro w h; (try dsimp only at h); go_simp; (try with_reducible rfl))); simp only [Act.put, tA, tB, tC, tD, tE, tF])
     refine wpAnyH_done (by kernel_rfl) ?_ _
     go_wp2
     go_ret
     exact ⟨ret_bool HR.out.symm, HB.out.drew⟩
   ·have hd : ¬ (k : Int) < (ps.length : Int) := by omega
    have HR : Hid (decide (ps = qs) = true) := by
     show _ = _
     have h := HT.out
     rw [List.take_of_length_le (by omega), List.take_of_length_le (by have := HLe.out; omega)] at h
     rw [h]; simp
    go_wp2
    go_ret
    exact ⟨ret_bool HR.out.symm, HB.out⟩
 ·have hl' : ((ps.length : Int) != (qs.length : Int)) = true := by rw [bne_iff_ne]; omega
  have HR : Hid (decide (ps = qs) = false) := by show _ = _; rw [decide_eq_false_iff_not]; intro e; exact hl (by rw [e])
  clear hl
  go_enter Tryz.func17, Tryz.ntmps17
  go_wp2
  go_ret
  exact ⟨ret_bool HR.out.symm, belowRefl w⟩

set_option maxRecDepth 100000 in
set_option maxHeartbeats 1000000 in
theorem svers (ys : List Ta) (a : Option Addr) (c n cs : Nat) (hny : n = ys.length) (hn : n ≤ 5) (hd : DonesD (txs ys) cs) (w : World) (hl : TRows w a ys) :
  Calls Tryz.prog 37 #[.slice a n c] w fun e w' => ∃ a1 c1, e = .returned (.slice a1 (allV (txs ys)).length c1) ∧ GOwn encV 69 w' w.heap.size (.slice a1 (allV (txs ys)).length c1) (allV (txs ys)) ∧ Below w.heap.size w w' := by
 have HL : Hid (TRows w a ys) := hl
 have HNY : Hid (n = ys.length) := hny
 have HNT : Hid (n = (txs ys).length) := by show _ = _; rw [txs_len]; exact hny
 have HD := hide hd
 clear hl hny hd
 go_enter Tryz.func37, Tryz.ntmps37
 go_wp2
 go_loopw [3, 4] (fun v s wr => ∃ k : Nat, k ≤ n ∧ s = .int .i64 k ∧ Hid (GOwn encV 69 wr w.heap.size v (allV ((txs ys).take k))) ∧ Hid (Below w.heap.size w wr)) (fun _ s _ => n - (intOf s).toNat)
 case atStart => exact ⟨0, Nat.zero_le _, rfl, GOwn.empty _ _ (Nat.le_refl _), (belowRefl w).alloc (Nat.le_refl _) _⟩
 case round =>
  obtain ⟨k, hk, rfl, HO, HB⟩ := hrel
  by_cases hlt : k < n
  ·have hlt' : (k : Int) < (n : Int) := by omega
   have h0 : (0 : Int) ≤ (k : Int) := by omega
   have hky : k < ys.length := by rw [← HNY.out]; exact hlt
   have hkt : k < (txs ys).length := by rw [← HNT.out]; exact hlt
   obtain ⟨b, o, rfl, hbl, hc, hrow⟩ := (HL.out.below HB.out).cls k hky
   have HDk := hide (HD.out.each _ (List.getElem_mem hkt)).1
   have HNX := hide (allV_next (txs ys) k hkt)
   have hlen : (allV ((txs ys).take k)).length ≤ 15 := Nat.le_trans (allV_len _ (fun u hu => (HD.out.each u (List.mem_of_mem_take hu)).1.wl)) (by rw [List.length_take]; omega)
   obtain ⟨x, hx⟩ : ∃ x, x = ys[k] := ⟨_, rfl⟩
   have hxt : (txs ys)[k] = x.t := by rw [hx]; simp [txs]
   rw [hxt] at HNX HDk
   rw [← hx] at hc hrow
   clear hx hxt
   have HRow := hide hrow
   have r3 := hc.c3
   have r5 := hc.c5
   clear hc hrow hky hkt
   obtain ⟨xs, hxs⟩ : ∃ xs, xs = allV ((txs ys).take k) := ⟨_, rfl⟩
   rw [← hxs] at HO HNX hlen
   clear hxs
   obtain ⟨a0, c0, rfl, hgr⟩ := HO.out.row
   clear hgr
   have HC := hide (fun (W : World) (h : Below wr.heap.size wr W) => sputv xs x.t.ws _ x.wa x.wc x.t.cs _ (by omega) (by have := HDk.out.wl; omega) W (HO.out.below h) (HRow.out.below h).w)
   go_wp2
   refine wp_region_held_drew (S := fun w' => w'.cell? ⟨b, o + k * 8 + 5, none⟩ = some (.slice x.wa x.t.ws.length x.wc) ∧ w'.cell? ⟨b, o + k * 8 + 3, none⟩ = some (.int .i64 x.t.cs)) (by kernel_rfl) ⟨r5, r3⟩ (fun hHeld => ?_)
   (refine tk 0 ?_ rfl (Or.inl ⟨by rfl, ?_⟩) ?_; rotate_left; (focus (intro w h; (try dsimp only at h); go_simp; (try with_reducible rfl))); simp only [Act.put, tA, tB, tD, tE, tF])
   (refine tk 1 ?_ rfl (Or.inl ⟨by rfl, ?_⟩) ?_; rotate_left; (focus (intro w h; (try dsimp only at h); go_simp; (try with_reducible rfl))); simp only [Act.put, tA, tB, tC, tD, tE, tF])
   (refine tk 2 ?_ rfl (Or.inl ⟨by rfl, ?_⟩) ?_; rotate_left; (focus (intro w h; (try dsimp only at h); go_simp; (try with_reducible rfl))); simp only [Act.put, tA, tB, tC, tD, tE, tF])
   (refine tk 3 ?_ rfl (Or.inl ⟨by rfl, ?_⟩) ?_; rotate_left; (focus (intro w h; (try dsimp only at h); go_simp; (try with_reducible rfl))); simp only [Act.put, tA, tB, tC, tD, tE, tF])
   (refine tk 4 ?_ rfl (Or.inl ⟨by rfl, ?_⟩) ?_; rotate_left; (focus (intro w h; (try dsimp only at h); go_simp; (try with_reducible rfl))); simp only [Act.put, tA, tB, tC, tD, tE, tF])
   (refine tk 5 ?_ rfl (Or.inl ⟨by rfl, ?_⟩) ?_; rotate_left; (focus (intro w h; (try dsimp only at h); go_simp; (try with_reducible rfl))); simp only [Act.put, tA, tB, tC, tD, tE, tF])
   (refine tk 6 ?_ rfl (Or.inl ⟨by rfl, ?_⟩) ?_; rotate_left; (focus (intro w h; (try dsimp only at h); go_simp; (try with_reducible rfl))); simp only [Act.put, tA, tB, tC, tD, tE, tF])
   (refine tk 7 ?_ rfl (Or.inl ⟨by rfl, ?_⟩) ?_; rotate_left; (focus (intro w h; (try dsimp only at h); go_simp; (try with_reducible rfl))); simp only [Act.put, tA, tB, tC, tD, tE, tF])
   (refine tk 8 ?_ rfl (Or.inl ⟨by rfl, ?_⟩) ?_; rotate_left; (focus (intro w h; (try dsimp only at h); go_simp; (try with_reducible rfl))); simp only [Act.put, tA, tB, tC, tD, tE, tF])
   (refine tk 9 ?_ rfl (Or.inl ⟨by rfl, ?_⟩) ?_; rotate_left; (focus (intro w h; (try dsimp only at h); go_simp; (try with_reducible rfl))); simp only [Act.put, tA, tB, tC, tD, tE, tF])
   (refine tk 10 ?_ rfl (Or.inl ⟨by rfl, ?_⟩) ?_; rotate_left; (focus (intro w h; (try dsimp only at h); go_simp; (try with_reducible rfl))); simp only [Act.put, tA, tB, tC, tD, tE, tF])
   refine wpAnyH_ready (rs := [11]) (by kernel_rfl) (by simp) ?_
   refine AllReadyH.cons rfl (fun K hK => ?_) AllReadyH.nil
   go_simp
   go_wp2_with fail
   refine (HC.out _ ((belowRefl wr).drew)).mono ?_
   rintro e w2 ⟨a3, c3, rfl, ho2, hb2⟩
   have hbu := undrew hb2
   have HB2 : Hid (Below w.heap.size w w2) := HB.out.trans (hbu.mono HB.out.size)
   have HO2 : Hid (GOwn encV 69 w2 w.heap.size (.slice a3 (putV xs x.t.ws x.t.cs).length c3) (allV ((txs ys).take (k + 1)))) := by
    show GOwn _ _ _ _ _ _
    rw [HNX.out]
    exact ho2.mono HB.out.size
   go_wp2_with fail
   refine hK.out _ _ ⟨(hbu.cell (p := ⟨b, o + k * 8 + 5, none⟩) hbl).trans r5, (hbu.cell (p := ⟨b, o + k * 8 + 3, none⟩) hbl).trans r3⟩ (fun hHeld2 => ?_)
   clear hK K hb2 hbu ho2
   (refine tk 12 ?_ rfl (Or.inl ⟨by rfl, ?_⟩) ?_; rotate_left; (focus (intro w h; (try dsimp only at h); go_simp; (try with_reducible rfl))); simp only [Act.put, tA, tB, tC, tD, tE, tF])
   refine wpAnyH_done (by kernel_rfl) ?_ _
   clear r3 r5 hbl HC HO HNX HDk HRow
   go_wp2
   go_roundw
   case rel => exact ⟨k + 1, by omega, by go_num, HO2, HB2⟩
   case measure => simp [intOf]; omega
  ·have hd : ¬ (k : Int) < (n : Int) := by omega
   have ho := HO.out
   rw [List.take_of_length_le (by rw [← HNT.out]; omega)] at ho
   obtain ⟨a1, c1, rfl, _⟩ := ho.row
   have O1 := hide ho
   clear ho
   go_wp2
   go_ret
   exact ⟨a1, c1, rfl, O1.out, HB.out⟩
end Go.Proofs.YtbajpnbodhhmjaaGreat

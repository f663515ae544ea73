/- What ViewOf answers, the program's and the document's. -/
import Derived.Test.YtnmggknpllnjiaaGreatPt01
import Derived.Test.YtnmggknpllnjiaaGreatProg
import Derived.WalkKit
import Derived.WalkSpells
import Derived.WalkLawsBesides
import Derived.Deep.QuietTactic
import Derived.BigQuiet
import Derived.Deep.RegionHeld3
import Derived.Deep.DrawnRows
import Derived.Test.YtnmggknpllnjiaaGreatPt15
import Derived.Deep.AppendLies
import Derived.Test.YtnmggknpllnjiaaGreatPt03
import Derived.Sort.OwnSorted
import Derived.Lib.RowBridge
import Derived.Test.YtnmggknpllnjiaaGreatPt04
import Derived.Test.YtnmggknpllnjiaaGreatPt18
import Derived.Test.YtnmggknpllnjiaaGreatPt02
import Derived.Test.YtnmggknpllnjiaaGreatPt10
import Derived.Lib.ItoaNum
import Derived.Lib.ItoaLen
import Derived.Test.YtnmggknpllnjiaaGreatPt11
import Derived.Test.YtnmggknpllnjiaaGreatPt07
import Derived.Test.YtnmggknpllnjiaaGreatPt05
import Derived.Deep.RegionHeld
import Derived.Maps.OwnSet
import Derived.StringKeys
import Derived.Test.YtnmggknpllnjiaaGreatPt12
import Derived.Shelf.LaysM
import Derived.Shelf.Strconv.Clone
import Derived.Deep.Cut
import Derived.Test.YtnmggknpllnjiaaGreatPt22
import Derived.Test.YtnmggknpllnjiaaGreatPt17
import Derived.Test.YtnmggknpllnjiaaGreatPt29
import Derived.Test.YtnmggknpllnjiaaGreatPt30
import Derived.Test.YtnmggknpllnjiaaGreatPt31
import Derived.Test.YtnmggknpllnjiaaGreatPt34
import Derived.Test.YtnmggknpllnjiaaGreatPt33
import Derived.Laws.EntriesVeiled
namespace Go.Proofs.YtnmggknpllnjiaaGreat
open Go.RowKit
open KM
attribute [local go_sem ↓] Go.wp_at_zero Go.wp_at_succ

set_option maxRecDepth 100000 in
set_option maxHeartbeats 4000000 in
theorem sview (ms : List Rg) (a : Option Addr) (c n : Nat) (rg : Rg) (hx : n = ms.length) (hn : n ≤ 1048576) (w : World) (hp : GRow encR w a ms) :
  Calls Tryz.prog 15 #[.slice a n c, .agg #[.string rg.1, .string rg.2]] w fun e w' => ∃ (a1 : Option Addr) (c1 : Nat), e = .returned (.slice a1 (viewB ms rg).length c1) ∧ GOwn encR 83 w' w.heap.size (.slice a1 (viewB ms rg).length c1) (viewB ms rg) ∧ Below w.heap.size w w' := by
 have HP : Hid (GRow encR w a ms) := hp
 have HX : Hid (n = ms.length) := hx
 clear hp hx
 have X0 : Hid (Bx (w.alloc (.cells #[.string rg.1, .string rg.2] 69)) w.heap.size [.string rg.1, .string rg.2]) := Bx.new w [.string rg.1, .string rg.2] 69
 have HB0 : Hid (Below w.heap.size w (w.alloc (.cells #[.string rg.1, .string rg.2] 69))) := (belowRefl w).alloc (Nat.le_refl _) _
 have HO0 : Hid (GOwn encR 83 ((w.alloc (.cells #[.string rg.1, .string rg.2] 69)).alloc (.cells #[] 83)) (w.heap.size + 1) (.slice (some ⟨w.heap.size + 1, 0, none⟩) 0 0) []) := by
  have h := GOwn.empty (E := encR) (e := 83) (w.alloc (.cells #[.string rg.1, .string rg.2] 69)) (w.heap.size + 1) (by rw [World.size_alloc]; exact Nat.le_refl _)
  rw [World.size_alloc] at h
  exact h
 have HBa : Hid (Below w.heap.size w ((w.alloc (.cells #[.string rg.1, .string rg.2] 69)).alloc (.cells #[] 83))) := HB0.out.alloc HB0.out.size _
 have Xa : Hid (Bx ((w.alloc (.cells #[.string rg.1, .string rg.2] 69)).alloc (.cells #[] 83)) w.heap.size [.string rg.1, .string rg.2]) := X0.out.alloc _
 clear X0 HB0
 go_enter Tryz.func15, Tryz.ntmps15
 go_wp2
 go_loopw [5, 6] (fun v s wr => ∃ k : Nat, k ≤ n ∧ s = .int .i64 k ∧ Hid (GOwn encR 83 wr (w.heap.size + 1) v (viewB (ms.take k) rg)) ∧ Hid (Bx wr w.heap.size [.string rg.1, .string rg.2]) ∧ Hid (Below w.heap.size w wr)) (fun _ s _ => n - (intOf s).toNat)
 case atStart => exact ⟨0, Nat.zero_le _, rfl, HO0, Xa, HBa⟩
 case round =>
  obtain ⟨k, hk, rfl, HO, HXr, HB⟩ := hrel
  by_cases hlt : k < n
  ·have hlt' : (k : Int) < (n : Int) := by omega
   have h0 : (0 : Int) ≤ (k : Int) := by omega
   have hkx : k < ms.length := by rw [← HX.out]; exact hlt
   obtain ⟨b, off, rfl, hbl, hc⟩ := (HP.out.below HB.out) (by omega)
   have r0 := (rat hc k hkx).1
   have r1 := (rat hc k hkx).2
   obtain ⟨b9, o9, e9, hbw, hc9⟩ := HP.out (by omega)
   cases e9
   clear hc9
   have HN := hide (view_next ms rg k hkx)
   have hvl : (viewB (ms.take k) rg).length ≤ 100000000 := Nat.le_trans (view_len ms rg k) (by omega)
   
   obtain ⟨x, hx⟩ : ∃ x, x = ms[k] := ⟨_, rfl⟩
   rw [← hx] at r0 r1 HN 
   clear hx hkx hc
   have HBL := hide hbl
   have x0 := HXr.out.c0
   have x1 := HXr.out.c1
   go_wp2
   refine wp_region_held_drew (S := fun w' => w'.cell? ⟨b, off + k * 2, none⟩ = some (.string x.1) ∧ w'.cell? ⟨w.heap.size, 0, none⟩ = some (.string rg.1) ∧ w'.cell? ⟨w.heap.size, 1, none⟩ = some (.string rg.2)) (by kernel_rfl) ⟨r0, x0, x1⟩ (fun hHeld => ?_)
   (refine tk 0 ?_ rfl (Or.inl ⟨by rfl, ?_⟩) ?_; rotate_left; (focus (intro w h; (try dsimp only at h); go_simp; (try with_reducible rfl))); simp only [Act.put, tA, tB, tD, tE, tF])
   (refine tk 1 ?_ rfl (Or.inl ⟨by rfl, ?_⟩) ?_; rotate_left; (focus (intro w h; (try dsimp only at h); go_simp; (try with_reducible rfl))); simp only [Act.put, tA, tB, tC, tD, tE, tF])
   (refine tk 2 ?_ rfl (Or.inl ⟨by rfl, ?_⟩) ?_; rotate_left; (focus (intro w h; (try dsimp only at h); go_simp; (try with_reducible rfl))); simp only [Act.put, tA, tB, tC, tD, tE, tF])
   (refine tk 3 ?_ rfl (Or.inl ⟨by rfl, ?_⟩) ?_; rotate_left; (focus (intro w h; (try dsimp only at h); go_simp; (try with_reducible rfl))); simp only [Act.put, tA, tB, tC, tD, tE, tF])
   (refine tk 4 ?_ rfl (Or.inl ⟨by rfl, ?_⟩) ?_; rotate_left; (focus (intro w h; (try dsimp only at h); go_simp; (try with_reducible rfl))); simp only [Act.put, tA, tB, tC, tD, tE, tF])
   (refine tk 5 ?_ rfl (Or.inl ⟨by rfl, ?_⟩) ?_; rotate_left; (focus (intro w h; (try dsimp only at h); go_simp; (try with_reducible rfl))); simp only [Act.put, tA, tB, tC, tD, tE, tF])
   refine wpAnyH_ready (rs := [6]) (by kernel_rfl) (by simp) ?_
   refine AllReadyH.cons rfl (fun K hK => ?_) AllReadyH.nil
   go_simp
   go_wp2_with fail
   refine (sin rg.1 rg.2 x.1 _).mono ?_
   rintro e w2 ⟨rfl, hb2⟩
   have hbu2 := undrew hb2
   have HB2 : Hid (Below w.heap.size w w2) := HB.out.trans (hbu2.mono HB.out.size)
   have X2 : Hid (Bx w2 w.heap.size [.string rg.1, .string rg.2]) := HXr.out.below hbu2
   have O2 := hide (HO.out.below hbu2)
   have R0 := hide ((hbu2.cell (p := ⟨b, off + k * 2, none⟩) hbl).trans r0)
   have R1 := hide ((hbu2.cell (p := ⟨b, off + k * 2 + 1, none⟩) hbl).trans r1)
   have HBL2 : Hid (b < w2.heap.size) := Nat.lt_of_lt_of_le hbl hbu2.size
   go_wp2_with fail
   refine hK.out _ _ ⟨R0.out, X2.out.c0, X2.out.c1⟩ (fun hHeld2 => ?_)
   clear hK K hb2 hbu2
   refine wpAnyH_done (by kernel_rfl) ?_ _
   clear r0 r1 x0 x1 HO HXr HB
   cases hin : inB rg x.1
   ·rw [hin] at HN
    have O3 : Hid (GOwn encR 83 w2 (w.heap.size + 1) u5 (viewB (ms.take (k + 1)) rg)) := by
     show GOwn _ _ _ _ _ _
     rw [HN.out]
     simp only [Bool.false_eq_true, if_false, List.append_nil]
     exact O2.out
    clear hin HN R0 R1
    go_wp2
    go_roundw
    case rel => exact ⟨k + 1, by omega, by go_num, O3, X2, HB2⟩
    case measure => simp [intOf]; omega
   ·rw [hin] at HN
    clear hin
    have q0 := R0.out
    have q1 := R1.out
    have hq : (⟨b, off + k * 2, none⟩ : Addr).block < w2.heap.size := HBL2.out
    go_wp2
    refine wp_region_held_drew (S := fun w' => w'.cell? ⟨b, off + k * 2, none⟩ = some (.string x.1) ∧ w'.cell? ⟨b, off + k * 2 + 1, none⟩ = some (.string x.2)) (by kernel_rfl) ⟨q0, q1⟩ (fun hHeld => ?_)
    (refine tk 0 ?_ rfl (Or.inl ⟨by rfl, ?_⟩) ?_; rotate_left; (focus (intro w h; (try dsimp only at h); go_simp; (try with_reducible rfl))); simp only [Act.put, tA, tB, tD, tE, tF])
    (refine tk 1 ?_ rfl (Or.inl ⟨by rfl, ?_⟩) ?_; rotate_left; (focus (intro w h; (try dsimp only at h); go_simp; (try with_reducible rfl))); simp only [Act.put, tA, tB, tC, tD, tE, tF])
    (refine tk 2 ?_ rfl (Or.inl ⟨by rfl, ?_⟩) ?_; rotate_left; (focus (intro w h; (try dsimp only at h); go_simp; (try with_reducible rfl))); simp only [Act.put, tA, tB, tC, tD, tE, tF])
    (refine tk 3 ?_ rfl (Or.inl ⟨by rfl, ?_⟩) ?_; rotate_left; (focus (intro w h; (try dsimp only at h); go_simp; (try with_reducible rfl))); simp only [Act.put, tA, tB, tC, tD, tE, tF])
    (refine tk 4 ?_ rfl (Or.inl ⟨by rfl, ?_⟩) ?_; rotate_left; (focus (intro w h; (try dsimp only at h); go_simp; (try with_reducible rfl))); simp only [Act.put, tA, tB, tC, tD, tE, tF])
    (refine tk 5 ?_ rfl (Or.inl ⟨by rfl, ?_⟩) ?_; rotate_left; (focus (intro w h; (try dsimp only at h); go_simp; (try with_reducible rfl))); simp only [Act.put, tA, tB, tC, tD, tE, tF])
    (refine tk 6 ?_ rfl (Or.inl ⟨by rfl, ?_⟩) ?_; rotate_left; (focus (intro w h; (try dsimp only at h); go_simp; (try with_reducible rfl))); simp only [Act.put, tA, tB, tC, tD, tE, tF])
    (refine tk 7 ?_ rfl (Or.inl ⟨by rfl, ?_⟩) ?_; rotate_left; (focus (intro w h; (try dsimp only at h); go_simp; (try with_reducible rfl))); simp only [Act.put, tA, tB, tC, tD, tE, tF])
    (refine tk 8 ?_ rfl (Or.inl ⟨by rfl, ?_⟩) ?_; rotate_left; (focus (intro w h; (try dsimp only at h); go_simp; (try with_reducible rfl))); simp only [Act.put, tA, tB, tC, tD, tE, tF])
    (refine tk 9 ?_ rfl (Or.inl ⟨by rfl, ?_⟩) ?_; rotate_left; (focus (intro w h; (try dsimp only at h); go_simp; (try with_reducible rfl))); simp only [Act.put, tA, tB, tC, tD, tE, tF])
    (refine tk 10 ?_ rfl (Or.inl ⟨by rfl, ?_⟩) ?_; rotate_left; (focus (intro w h; (try dsimp only at h); go_simp; (try with_reducible rfl))); simp only [Act.put, tA, tB, tC, tD, tE, tF])
    (refine tk 11 ?_ rfl (Or.inl ⟨by rfl, ?_⟩) ?_; rotate_left; (focus (intro w h; (try dsimp only at h); go_simp; (try with_reducible rfl))); simp only [Act.put, tA, tB, tC, tD, tE, tF])
    have hxl : w.heap.size + 1 ≤ w2.heap.size := Nat.succ_le_of_lt X2.out.lt
    have hd4 : Below w2.heap.size w2 (w2.drew.alloc (.cells #[.string x.1, .string x.2] 83)) := ((belowRefl w2).drew).alloc (Nat.le_refl _) _
    have O5 : Hid (GOwn encR 83 (w2.drew.alloc (.cells #[.string x.1, .string x.2] 83)) (w.heap.size + 1) u5 (viewB (ms.take k) rg)) := O2.out.below hd4
    refine wpAnyH_ready (rs := [12]) (by kernel_rfl) (by simp) ?_
    refine AllReadyH.cons rfl (fun K hK => ?_) AllReadyH.nil
    go_simp
    refine hK.out _ _ ⟨(hd4.cell (p := ⟨b, off + k * 2, none⟩) hq).trans q0, (hd4.cell (p := ⟨b, off + k * 2 + 1, none⟩) hq).trans q1⟩ (fun hHeld5 => ?_)
    clear hK K
    refine wpAnyH_ready (rs := [13]) (by kernel_rfl) (by simp) ?_
    refine AllReadyH.cons rfl (fun K hK => ?_) AllReadyH.nil
    refine stepAppK (E := encR) 66 83 32 _ Tryz.underlying66 Tryz.info83 rfl (by omega) rfl _ _ rfl (base := w.heap.size + 1) (v := u5) (xs := viewB (ms.take k) rg) x oneR rfl O5.out rfl (heap_alloc_new w2.drew _) hvl (by simp; omega) ?_
    intro g' cap' w6 ho6 hg6 hg7 hlt6
    have hb6 : Below (w.heap.size + 1) w2 w6 := (((Below.refl _ _).drew).alloc hxl _).trans ((Below.refl _ _).grown hg6 (by simp; omega) (fun j hj => (World.ownsRow.lt O5.out j hj).1))
    have HB6 : Hid (Below w.heap.size w w6) := HB2.out.trans (hb6.mono (Nat.le_succ _))
    have X6 : Hid (Bx w6 w.heap.size [.string rg.1, .string rg.2]) := bx_low X2.out hb6 (Nat.lt_succ_self _)
    have O6 : Hid (GOwn encR 83 w6 (w.heap.size + 1) (.slice (some ⟨g', 0, none⟩) ((viewB (ms.take k) rg).length + 1) cap') (viewB (ms.take (k + 1)) rg)) := by
     show GOwn _ _ _ _ _ _
     rw [HN.out]
     exact ho6
    refine hK.out _ _ ⟨(hb6.cell (p := ⟨b, off + k * 2, none⟩) (Nat.lt_succ_of_lt hbw)).trans q0, (hb6.cell (p := ⟨b, off + k * 2 + 1, none⟩) (Nat.lt_succ_of_lt hbw)).trans q1⟩ (fun hHeld6 => ?_)
    clear hK K ho6 hg6 hg7 hlt6 hb6
    (refine tk 14 ?_ rfl (Or.inl ⟨by rfl, ?_⟩) ?_; rotate_left; (focus (intro w h; (try dsimp only at h); go_simp; (try with_reducible rfl))); simp only [Act.put, tA, tB, tC, tD, tE, tF])
    refine wpAnyH_done (by kernel_rfl) ?_ _
    clear q0 q1 HN R0 R1
    go_wp2
    go_roundw
    case rel => exact ⟨k + 1, by omega, by go_num, O6, X6, HB6⟩
    case measure => simp [intOf]; omega
  ·have hd : ¬ (k : Int) < (n : Int) := by omega
   have ho := HO.out
   rw [List.take_of_length_le (by rw [← HX.out]; omega)] at ho
   obtain ⟨a1, c1, rfl, _⟩ := ho.row
   have O1 := hide (ho.mono (Nat.le_succ _))
   clear ho
   go_wp2
   go_ret
   exact ⟨a1, c1, rfl, O1.out, HB.out⟩
end Go.Proofs.YtnmggknpllnjiaaGreat

namespace Go.Proofs.YtnmggknpllnjiaaGreat
open Go.RowKit
open KM
open VM
attribute [local go_sem ↓] Go.wp_at_zero Go.wp_at_succ

theorem playL_take (ts : List Tx) (k : Nat) (hk : k < ts.length) : playL (ts.take (k + 1)) = playB (playL (ts.take k)) (ts[k]).ws := by
 rw [List.take_succ_eq_append_getElem hk]
 exact playL_snoc _ _
theorem playL_wsum (ts : List Tx) : (playL ts).length ≤ wsum ts := by
 refine snoc_ind (P := fun ts => (playL ts).length ≤ wsum ts) (Nat.zero_le _) (fun l x h => ?_) ts
 rw [playL_snoc]
 have h1 := playB_len x.ws (playL l)
 have h2 : wsum (l ++ [x]) = wsum l + x.ws.length := by unfold wsum; simp
 omega
theorem playL_rfit (ts : List Tx) : (∀ t ∈ ts, WFit t.ws) → RFit (playL ts) := by
 refine snoc_ind (P := fun ts => (∀ t ∈ ts, WFit t.ws) → RFit (playL ts)) (fun _ c hc => by cases hc) (fun ts t ih h => ?_) ts
 rw [playL_snoc]
 exact rfit_play _ _ (ih (fun u hu => h u (by simp [hu]))) (h t (by simp))
theorem LFit.wfit {ts : List Tx} (h : LFit ts) : ∀ t ∈ ts, WFit t.ws := fun t ht => (h.2 t ht).2.2.2.1
theorem scan_len (vs : List Vr) (r : Rg) (s : Int) : (scanB vs r s).length ≤ vs.length := by
 unfold scanB
 refine Nat.le_trans (List.length_filterMap_le _ _) (Nat.le_trans (keys_len _) ?_)
 rw [List.length_map]
 exact Nat.le_refl _

set_option maxRecDepth 100000 in
set_option maxHeartbeats 4000000 in
theorem iasc (xs : List Ta) (a : Option Addr) (c n : Nat) (hx : n = xs.length) (hn : n ≤ 10000000) (w : World) (hp : TRows w a xs) :
  Calls Tryz.prog 23 #[.agg #[.slice a n c, .func (.func 43) #[] #[]]] w fun e w' => e = .returned (.bool (ascIB (xs.map fun x : Ta => x.t.cs))) ∧ Below w.heap.size w w' := by
 have HB0 : Hid (Below w.heap.size w (w.alloc (.cells #[.slice a n c, .func (.func 43) #[] #[]] 78))) := (belowRefl w).alloc (Nat.le_refl _) _
 have HC := hide (keys58 xs a c n hx hn _ (hp.below HB0.out))
 have HX : Hid (n = (xs.map fun x : Ta => x.t.cs).length) := by show _ = _; rw [List.length_map]; exact hx
 clear hx hp
 go_enter Tryz.func23, Tryz.ntmps23
 go_wp2_with fail
 refine HC.out.mono ?_
 rintro e w1 ⟨a1, c1, rfl, ho, hb⟩
 have HB1 : Hid (Below w.heap.size w w1) := HB0.out.trans (hb.mono HB0.out.size)
 have HG : Hid (GRow encI w1 a1 (xs.map fun x : Ta => x.t.cs)) := by
  have h := ho
  rw [HX.out] at h
  exact h.grow
 clear hb ho HC
 go_wp2_with fail
 refine (asc59 _ a1 c1 n HX.out (by omega) _ HG.out).mono ?_
 rintro e w2 ⟨rfl, hb⟩
 have HB2 : Hid (Below w.heap.size w w2) := HB1.out.trans (hb.mono HB1.out.size)
 clear hb
 go_wp2
 go_ret
 exact ⟨rfl, HB2.out⟩

set_option maxRecDepth 100000 in
set_option maxHeartbeats 4000000 in
theorem iplayed (xs : List Ta) (a : Option Addr) (c n : Nat) (hx : n = xs.length) (hn : n ≤ 1048576) (hf : LFit (txs xs)) (hs : wsum (txs xs) ≤ 1048576) (w : World) (hp : TRows w a xs) :
  Calls Tryz.prog 29 #[.slice a n c] w fun e w' => ∃ (a1 : Option Addr) (c1 L : Nat), e = .returned (.slice a1 L c1) ∧ L = (playL (txs xs)).length ∧ GOwn encR 98 w' w.heap.size (.slice a1 L c1) (playL (txs xs)) ∧ Below w.heap.size w w' := by
 have HP : Hid (TRows w a xs) := hp
 have HX : Hid (n = xs.length) := hx
 have HF := hide hf
 clear hx hp hf
 go_enter Tryz.func29, Tryz.ntmps29
 go_wp2
 go_loopw [3, 8] (fun v s wr => ∃ k : Nat, k ≤ n ∧ s = .int .i64 k ∧ Hid (GOwn encR 98 wr w.heap.size v (playL ((txs xs).take k))) ∧ Hid (Below w.heap.size w wr)) (fun _ s _ => n - (intOf s).toNat)
 case atStart => exact ⟨0, Nat.zero_le _, rfl, GOwn.nil _ _, belowRefl w⟩
 case round =>
  obtain ⟨k, hk, rfl, HO, HB⟩ := hrel
  obtain ⟨vo, hvo⟩ : ∃ z, z = wr := ⟨_, rfl⟩
  subst hvo
  by_cases hlt : k < n
  ·have hlt' : (k : Int) < (n : Int) := by omega
   have hk0 : (0 : Int) ≤ (k : Int) := by omega
   have hky : k < xs.length := by rw [← HX.out]; exact hlt
   have hkt : k < (txs xs).length := by rw [txs_len]; exact hky
   obtain ⟨b, off, rfl, hbl, hc, hrow⟩ := (HP.out.below HB.out).cls k hky
   have HNX := hide (playL_take (txs xs) k hkt)
   have hpl : (playL ((txs xs).take k)).length ≤ 1048576 := Nat.le_trans (playL_wsum _) (Nat.le_trans (wsum_take _ _) hs)
   have HPF : Hid (RFit (playL ((txs xs).take k))) := playL_rfit _ (fun t ht => HF.out.wfit t (List.mem_of_mem_take ht))
   have HPA : Hid (AscC (playL ((txs xs).take k))) := playL_asc _
   have HWF := hide (HF.out.2 _ (List.getElem_mem hkt))
   obtain ⟨y, hy⟩ : ∃ y, y = xs[k] := ⟨_, rfl⟩
   have hyt : (txs xs)[k] = y.t := by rw [hy]; simp [txs]
   rw [hyt] at HNX HWF
   rw [← hy] at hc hrow
   have HRow := hide hrow
   clear hy hyt hkt hky hrow
   obtain ⟨F, hF⟩ : ∃ F, F = playL ((txs xs).take k) := ⟨_, rfl⟩
   rw [← hF] at HO HNX hpl HPF HPA
   clear hF
   obtain ⟨ma, mc, rfl, hgr⟩ := HO.out.row
   obtain ⟨M, hM⟩ : ∃ M, M = F.length := ⟨_, rfl⟩
   rw [← hM] at hpl ⊢
   have HM : Hid (M = F.length) := hM
   have R0 := hide hgr
   clear hM hgr
   have r0 := hc.c0
   have r1 := hc.c1
   have r2 := hc.c2
   have r3 := hc.c3
   have r4 := hc.c4
   have r5 := hc.c5
   have r6 := hc.c6
   have r7 := hc.c7
   clear hc
   have X1 : Hid (Bx (vo.alloc (.cells #[.int .i64 y.t.id, .int .i64 y.t.st, .int .i64 y.t.snap, .int .i64 y.t.cs, .slice y.ra y.t.rs.length y.rc, .slice y.wa y.t.ws.length y.wc, .bool y.t.out, .string y.t.nm] 63)) vo.heap.size [.int .i64 y.t.id, .int .i64 y.t.st, .int .i64 y.t.snap, .int .i64 y.t.cs, .slice y.ra y.t.rs.length y.rc, .slice y.wa y.t.ws.length y.wc, .bool y.t.out, .string y.t.nm]) := Bx.new vo [.int .i64 y.t.id, .int .i64 y.t.st, .int .i64 y.t.snap, .int .i64 y.t.cs, .slice y.ra y.t.rs.length y.rc, .slice y.wa y.t.ws.length y.wc, .bool y.t.out, .string y.t.nm] 63
   have HBv : Hid (Below vo.heap.size vo (vo.alloc (.cells #[.int .i64 y.t.id, .int .i64 y.t.st, .int .i64 y.t.snap, .int .i64 y.t.cs, .slice y.ra y.t.rs.length y.rc, .slice y.wa y.t.ws.length y.wc, .bool y.t.out, .string y.t.nm] 63))) := (belowRefl vo).alloc (Nat.le_refl _) _
   go_upto_region 5 with fail
   clear r0 r1 r2 r3 r4 r5 r6 r7 hbl
   generalize (vo.alloc (.cells #[.int .i64 y.t.id, .int .i64 y.t.st, .int .i64 y.t.snap, .int .i64 y.t.cs, .slice y.ra y.t.rs.length y.rc, .slice y.wa y.t.ws.length y.wc, .bool y.t.out, .string y.t.nm] 63)) = v1 at *
   have y0 := X1.out.c0
   have y1 := X1.out.c1
   have y2 := X1.out.c2
   have y3 := X1.out.c3
   have y4 := X1.out.c4
   have y5 := X1.out.c5
   have y6 := X1.out.c6
   have y7 := X1.out.c7
   go_wp2_with fail
   refine (iplay F ma mc M y.t y.ra y.wa y.rc y.wc HM.out hpl (by have := HWF.out.2.2.1; omega) HPF.out HWF.out.2.2.2.1 HPA.out _ (R0.out.below HBv.out) (HRow.out.below HBv.out).w).mono ?_
   rintro e w7 ⟨a7, c7, L7, rfl, hL7, ho7, hb7⟩
   have HB7 : Hid (Below w.heap.size w w7) := HB.out.trans ((HBv.out.trans (hb7.mono HBv.out.size)).mono HB.out.size)
   have O7 : Hid (GOwn encR 98 w7 w.heap.size (.slice a7 L7 c7) (playL ((txs xs).take (k + 1)))) := by
    show GOwn _ _ _ _ _ _
    rw [HNX.out]
    exact ho7.mono (Nat.le_trans HB.out.size HBv.out.size)
   clear hL7 ho7 hb7 y0 y1 y2 y3 y4 y5 y6 y7
   go_wp2
   go_roundw
   case rel => exact ⟨k + 1, by omega, by go_num, O7, HB7⟩
   case measure => simp [intOf]; omega
  ·have hlt' : ¬ (k : Int) < (n : Int) := by omega
   have ho := HO.out
   rw [List.take_of_length_le (by rw [txs_len]; have := HX.out; omega)] at ho
   obtain ⟨a1, c1, rfl, _⟩ := ho.row
   have O9 := hide ho
   clear ho
   go_wp2
   go_ret
   exact ⟨a1, c1, _, rfl, rfl, O9.out, HB.out⟩
end Go.Proofs.YtnmggknpllnjiaaGreat

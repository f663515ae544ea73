/- Cells: a copy of their own, their key, those that stay. -/
import Derived.Test.YtnmggknpllnjiaaGreatPt01
import Derived.Test.YtnmggknpllnjiaaGreatPt22
import Derived.Deep.Cut
import Derived.Deep.CutRange
import Derived.Deep.RegionHeld3
import Derived.Laws.EntriesVeiled
import Derived.Test.YtnmggknpllnjiaaGreatPt12
namespace Go.Proofs.YtnmggknpllnjiaaGreat
open Go.RowKit
open KM
open VM
attribute [local go_sem ↓] Go.wp_at_zero Go.wp_at_succ

set_option maxRecDepth 100000 in
set_option maxHeartbeats 1000000 in
theorem icopyC (ms : List Rg) (a : Option Addr) (c n : Nat) (hx : n = ms.length) (hn : n ≤ 1048576) (hfit : RFit ms) (w : World) (hp : GRow encR w a ms) :
  Calls Tryz.prog 68 #[.slice a n c] w fun e w' => ∃ (a1 : Option Addr) (c1 : Nat), e = .returned (.slice a1 ms.length c1) ∧ GOwn encR 98 w' w.heap.size (.slice a1 ms.length c1) ms ∧ Below w.heap.size w w' := by
 have HP : Hid (GRow encR w a ms) := hp
 have HX : Hid (n = ms.length) := hx
 have HF := hide hfit
 clear hp hx hfit
 go_enter Tryz.func68, Tryz.ntmps68
 go_wp2
 go_loopw [3, 8] (fun v s wr => ∃ k : Nat, k ≤ n ∧ s = .int .i64 k ∧ Hid (GOwn encR 98 wr w.heap.size v (ms.take k)) ∧ Hid (Below w.heap.size w wr)) (fun _ s _ => n - (intOf s).toNat)
 case atStart => exact ⟨0, Nat.zero_le _, rfl, GOwn.nil _ _, belowRefl w⟩
 case round =>
  obtain ⟨k, hk, rfl, HO, HB⟩ := hrel
  by_cases hlt : k < n
  ·have hlt' : (k : Int) < (n : Int) := by omega
   have h0 : (0 : Int) ≤ (k : Int) := by omega
   have hkx : k < ms.length := by rw [← HX.out]; exact hlt
   obtain ⟨b, off, rfl, hbl, hc⟩ := (HP.out.below HB.out) (by omega)
   have r0 := (rat hc k hkx).1
   have r1 := (rat hc k hkx).2
   have HN := hide (take_next ms k hkx)
   have hvl : (ms.take k).length ≤ 100000000 := by rw [List.length_take]; omega
   have HZ := hide (HF.out ms[k] (List.getElem_mem hkx))
   obtain ⟨x, hx⟩ : ∃ x, x = ms[k] := ⟨_, rfl⟩
   rw [← hx] at r0 r1 HN HZ
   clear hx hkx hc
   obtain ⟨F, hF⟩ : ∃ F, F = ms.take k := ⟨_, rfl⟩
   rw [← hF] at HO HN hvl
   clear hF
   have HB1 : Hid (Below w.heap.size w (wr.alloc (.cells #[.string x.1, .string x.2] 98))) := HB.out.alloc HB.out.size _
   have Y1 : Hid (Bx (wr.alloc (.cells #[.string x.1, .string x.2] 98)) wr.heap.size [.string x.1, .string x.2]) := Bx.new wr [.string x.1, .string x.2] 98
   have O1 := hide (HO.out.alloc (.cells #[.string x.1, .string x.2] 98))
   have HAw : Hid (∀ e, u3.ownBlock = some e → e < wr.heap.size) := fun e h => (World.ownsRow.lt HO.out e h).2
   go_upto_region 5 with fail
   clear r0 r1 HO HB
   generalize (wr.alloc (.cells #[.string x.1, .string x.2] 98)) = w1 at *
   have y0 := Y1.out.c0
   have y1 := Y1.out.c1
   refine wp_region_held_drew (S := fun w' => w'.cell? ⟨wr.heap.size, 0, none⟩ = some (.string x.1) ∧ w'.cell? ⟨wr.heap.size, 1, none⟩ = some (.string x.2)) (by kernel_rfl) ⟨y0, y1⟩ (fun hHeld => ?_)
   (refine tk 0 ?_ rfl (Or.inl ⟨by rfl, ?_⟩) ?_; rotate_left; (focus (intro w h; (try dsimp only at h); go_simp; (try with_reducible rfl))); simp only [Act.put, tA, tB, tD, tE, tF])
   (refine tk 1 ?_ rfl (Or.inl ⟨by rfl, ?_⟩) ?_; rotate_left; (focus (intro w h; (try dsimp only at h); go_simp; (try with_reducible rfl))); simp only [Act.put, tA, tB, tC, tD, tE, tF])
   (refine tk 2 ?_ rfl (Or.inl ⟨by rfl, ?_⟩) ?_; rotate_left; (focus (intro w h; (try dsimp only at h); go_simp; (try with_reducible rfl))); simp only [Act.put, tA, tB, tC, tD, tE, tF])
   (refine tk 4 ?_ rfl (Or.inl ⟨by rfl, ?_⟩) ?_; rotate_left; (focus (intro w h; (try dsimp only at h); go_simp; (try with_reducible rfl))); simp only [Act.put, tA, tB, tC, tD, tE, tF])
   (refine tk 5 ?_ rfl (Or.inl ⟨by rfl, ?_⟩) ?_; rotate_left; (focus (intro w h; (try dsimp only at h); go_simp; (try with_reducible rfl))); simp only [Act.put, tA, tB, tC, tD, tE, tF])
   refine wpAnyH_ready (rs := [3]) (by kernel_rfl) (by simp) ?_
   refine AllReadyH.cons rfl (fun K hK => ?_) AllReadyH.nil
   go_simp
   go_wp2_with fail
   refine (clone51 x.1 (by have := HZ.out; omega) _).mono ?_
   rintro e w3 ⟨rfl, hb3⟩
   have hbu3 := undrew hb3
   have HB3 : Hid (Below w.heap.size w w3) := HB1.out.trans (hbu3.mono HB1.out.size)
   have Y3 : Hid (Bx w3 wr.heap.size [.string x.1, .string x.2]) := Y1.out.below hbu3
   have O3 := hide (O1.out.below hbu3)
   go_wp2_with fail
   refine hK.out _ _ ⟨Y3.out.c0, Y3.out.c1⟩ (fun hHeld3 => ?_)
   clear hK K hb3 hbu3
   refine wpAnyH_ready (rs := [6]) (by kernel_rfl) (by simp) ?_
   refine AllReadyH.cons rfl (fun K hK => ?_) AllReadyH.nil
   go_simp
   go_wp2_with fail
   refine (clone51 x.2 (by have := HZ.out; omega) _).mono ?_
   rintro e w4 ⟨rfl, hb4⟩
   have hbu4 := hb4
   have HB4 : Hid (Below w.heap.size w w4) := HB3.out.trans (hbu4.mono HB3.out.size)
   have Y4 : Hid (Bx w4 wr.heap.size [.string x.1, .string x.2]) := Y3.out.below hbu4
   have O4 := hide (O3.out.below hbu4)
   go_wp2_with fail
   refine hK.out _ _ ⟨Y4.out.c0, Y4.out.c1⟩ (fun hHeld4 => ?_)
   clear hK K hb4 hbu4
   (refine tk 7 ?_ rfl (Or.inl ⟨by rfl, ?_⟩) ?_; rotate_left; (focus (intro w h; (try dsimp only at h); go_simp; (try with_reducible rfl))); simp only [Act.put, tA, tB, tC, tD, tE, tF])
   have Y5 : Hid (Bx (w4.alloc (.cells #[.string x.1, .string x.2] 98)) wr.heap.size [.string x.1, .string x.2]) := Y4.out.alloc _
   have O5 := hide (O4.out.alloc (.cells #[.string x.1, .string x.2] 98))
   have hxl := HB4.out.size
   refine wpAnyH_ready (rs := [8]) (by kernel_rfl) (by simp) ?_
   refine AllReadyH.cons rfl (fun K hK => ?_) AllReadyH.nil
   go_simp
   refine hK.out _ _ ⟨Y5.out.c0, Y5.out.c1⟩ (fun hHeld5 => ?_)
   clear hK K
   refine wpAnyH_ready (rs := [9]) (by kernel_rfl) (by simp) ?_
   refine AllReadyH.cons rfl (fun K hK => ?_) AllReadyH.nil
   refine stepAppK (E := encR) 59 98 32 _ Tryz.underlying59 Tryz.info98 rfl (by omega) rfl _ _ rfl (base := w.heap.size) (v := u3) (xs := F) x oneR rfl O5.out rfl (heap_alloc_new w4 _) hvl (by simp; omega) ?_
   intro g' cap' w6 ho6 hg6 hg7 hlt6
   have hb6 : Below w.heap.size w4 w6 := ((Below.refl _ _).alloc hxl _).trans ((Below.refl _ _).grown hg6 (by simp; omega) (fun j hj => (World.ownsRow.lt O5.out j hj).1))
   have HB6 : Hid (Below w.heap.size w w6) := HB4.out.trans hb6
   have Y6 : Hid (Bx w6 wr.heap.size [.string x.1, .string x.2]) := bx_marked Y5.out hg6 (fun e => by have := (HAw.out _ e); omega)
   have O6 : Hid (GOwn encR 98 w6 w.heap.size (.slice (some ⟨g', 0, none⟩) (F.length + 1) cap') (ms.take (k + 1))) := by
    show GOwn _ _ _ _ _ _
    rw [HN.out]
    exact ho6
   refine hK.out _ _ ⟨Y6.out.c0, Y6.out.c1⟩ (fun hHeld6 => ?_)
   clear hK K ho6 hg6 hg7 hlt6 hb6
   (refine tk 10 ?_ rfl (Or.inl ⟨by rfl, ?_⟩) ?_; rotate_left; (focus (intro w h; (try dsimp only at h); go_simp; (try with_reducible rfl))); simp only [Act.put, tA, tB, tC, tD, tE, tF])
   refine wpAnyH_done (by kernel_rfl) ?_ _
   clear y0 y1 HN
   go_wp2
   go_roundw
   case rel => exact ⟨k + 1, by omega, by go_num, O6, HB6⟩
   case measure => simp [intOf]; omega
  ·have hd : ¬ (k : Int) < (n : Int) := by omega
   have ho := HO.out
   rw [List.take_of_length_le (by rw [← HX.out]; omega)] at ho
   obtain ⟨a1, c1, rfl, _⟩ := ho.row
   have O1 := hide ho
   clear ho
   go_wp2
   go_ret
   exact ⟨a1, c1, rfl, O1.out, HB.out⟩
set_option maxRecDepth 100000 in
set_option maxHeartbeats 1000000 in
theorem key48 (x : Rg) (w : World) :
  Calls Tryz.prog 86 #[.agg #[.string x.1, .string x.2]] w fun e w' => e = .returned (.string x.1) ∧ Below w.heap.size w w' := by
 have HB0 : Hid (Below w.heap.size w (w.alloc (.cells #[.string x.1, .string x.2] 98))) := (belowRefl w).alloc (Nat.le_refl _) _
 go_enter Tryz.func86, Tryz.ntmps86
 go_wp2
 go_ret
 exact ⟨rfl, HB0.out⟩
set_option maxRecDepth 100000 in
set_option maxHeartbeats 1000000 in
theorem bykey35 (a : Option Addr) (n c : Nat) (w : World) :
  Calls Tryz.prog 69 #[.slice a n c] w fun e w' => e = .returned (.agg #[.slice a n c, .func (.func 86) #[] #[]]) ∧ Below w.heap.size w w' := by
 go_enter Tryz.func69, Tryz.ntmps69
 go_wp2
 refine bodyPost_ret (v := .agg #[.slice a n c, .func (.func 86) #[] #[]]) (by simp [results, Tryz.results69, go_sem]) rfl ⟨rfl, ?_⟩
 exact (belowRefl w).alloc (Nat.le_refl _) _
def keepC (s : ByteArray) (x : Rg) : Bool := !(x.1.toList == s.toList)
set_option maxRecDepth 100000 in
set_option maxHeartbeats 1000000 in
theorem stays50 (x s : ByteArray) (lb : Nat) (w : World) (hb : Bx w lb [.string s]) :
  Calls Tryz.prog 88 #[.string x, .pointer (some ⟨lb, 0, none⟩)] w fun e w' => e = .returned (.bool (!(x.toList == s.toList))) ∧ Below w.heap.size w w' := by
 have c0 := hb.c0
 go_enter Tryz.func88, Tryz.ntmps88
 go_wp2
 go_ret
 exact ⟨rfl, belowRefl w⟩
set_option maxRecDepth 100000 in
set_option maxHeartbeats 1000000 in
theorem keptC (xs : List Rg) (a : Option Addr) (c n : Nat) (hx : n = xs.length) (hn : n ≤ 10000000) (s : ByteArray) (lb : Nat) (w : World) (hp : GRow encR w a xs) (hl : Bx w lb [.string s]) :
  Calls Tryz.prog 87 #[.agg #[.slice a n c, .func (.func 86) #[] #[]], .func (.func 88) #[] #[.pointer (some ⟨lb, 0, none⟩)]] w fun e w' => ∃ (a1 : Option Addr) (c1 n1 : Nat), e = .returned (.slice a1 n1 c1) ∧ n1 = (xs.filter (keepC s)).length ∧ GOwn encR 98 w' (w.heap.size + 1) (.slice a1 n1 c1) (xs.filter (keepC s)) ∧ Below w.heap.size w w' := by
 have BA0 : Hid (Bx (w.alloc (.cells #[.slice a n c, .func (.func 86) #[] #[]] 137)) w.heap.size [.slice a n c, .func (.func 86) #[] #[]]) := Bx.new w [.slice a n c, .func (.func 86) #[] #[]] 137
 have HB0 : Hid (Below w.heap.size w (w.alloc (.cells #[.slice a n c, .func (.func 86) #[] #[]] 137))) := (belowRefl w).alloc (Nat.le_refl _) _
 have HP : Hid (GRow encR w a xs) := hp
 have HL : Hid (Bx w lb [.string s]) := hl
 have HX : Hid (n = xs.length) := hx
 clear hp hx hl
 go_enter Tryz.func87, Tryz.ntmps87
 go_upto_region 1 with fail
 generalize (w.alloc (.cells #[.slice a n c, .func (.func 86) #[] #[]] 137)) = w0 at *
 have x0 := BA0.out.c0
 go_wp2
 go_loopw [5, 11] (fun v t wr => ∃ k : Nat, k ≤ n ∧ t = .int .i64 k ∧ Hid (GOwn encR 98 wr (w.heap.size + 1) v ((xs.take k).filter (keepC s))) ∧ Hid (Below w.heap.size w wr) ∧ Hid (Bx wr w.heap.size [.slice a n c, .func (.func 86) #[] #[]])) (fun _ t _ => n - (intOf t).toNat)
 case atStart => exact ⟨0, Nat.zero_le _, rfl, GOwn.nil _ _, HB0, BA0⟩
 case round =>
  clear BA0 HB0 x0
  obtain ⟨k, hk, rfl, HO, HB, BA⟩ := hrel
  by_cases hlt : k < n
  ·have hlt' : (k : Int) < (n : Int) := by omega
   have h0 : (0 : Int) ≤ (k : Int) := by omega
   have hkx : k < xs.length := by rw [← HX.out]; exact hlt
   obtain ⟨b, off, rfl, hbl, hc⟩ := (HP.out.below HB.out) (by omega)
   have r0 := (rat hc k hkx).1
   have r1 := (rat hc k hkx).2
   have HYes : Hid (keepC s xs[k] = true → (xs.take (k + 1)).filter (keepC s) = (xs.take k).filter (keepC s) ++ [xs[k]]) := fun h => by show _ = _; rw [filter_take _ xs k hkx, h]; rfl
   have HNo : Hid (keepC s xs[k] = false → (xs.take (k + 1)).filter (keepC s) = (xs.take k).filter (keepC s)) := fun h => by show _ = _; rw [filter_take _ xs k hkx, h]; simp
   have HLn : Hid (((xs.take k).filter (keepC s)).length ≤ 100000000) := Nat.le_trans (List.length_filter_le _ _) (Nat.le_trans (List.length_take_le _ _) (by omega))
   obtain ⟨x, hx⟩ : ∃ x, x = xs[k] := ⟨_, rfl⟩
   rw [← hx] at r0 r1 HYes HNo
   clear hx hkx hc
   obtain ⟨F, hF⟩ : ∃ F, F = (xs.take k).filter (keepC s) := ⟨_, rfl⟩
   rw [← hF] at HO HYes HNo HLn
   clear hF
   have hln := HLn.out
   have HB1 : Hid (Below w.heap.size w (wr.alloc (.cells #[.string x.1, .string x.2] 98))) := HB.out.alloc HB.out.size _
   have BX1 : Hid (Bx (wr.alloc (.cells #[.string x.1, .string x.2] 98)) wr.heap.size [.string x.1, .string x.2]) := Bx.new wr [.string x.1, .string x.2] 98
   have BA1 : Hid (Bx (wr.alloc (.cells #[.string x.1, .string x.2] 98)) w.heap.size [.slice (some ⟨b, off, none⟩) n c, .func (.func 86) #[] #[]]) := BA.out.alloc _
   have O1 := hide (HO.out.alloc (.cells #[.string x.1, .string x.2] 98))
   go_upto_region 5 with fail
   clear r0 r1 BA HO HB
   generalize (wr.alloc (.cells #[.string x.1, .string x.2] 98)) = w1 at *
   have y1 := BA1.out.c1
   have x0 := BX1.out.c0
   have x1 := BX1.out.c1
   go_wp2_with fail
   refine (key48 x _).mono ?_
   rintro e w2 ⟨rfl, hb2⟩
   have HB2 : Hid (Below w.heap.size w w2) := HB1.out.trans (hb2.mono HB1.out.size)
   have O2 := hide (O1.out.below hb2)
   have BA2 := hide (BA1.out.below hb2)
   have BX2 := hide (BX1.out.below hb2)
   clear hb2 y1 x0 x1 BA1 BX1 O1
   go_wp2_with fail
   refine (stays50 x.1 s lb _ (HL.out.below HB2.out)).mono ?_
   rintro e w3 ⟨rfl, hb3⟩
   have HB3 : Hid (Below w.heap.size w w3) := HB2.out.trans (hb3.mono HB2.out.size)
   have O3 := hide (O2.out.below hb3)
   have BA3 := hide (BA2.out.below hb3)
   have BX3 := hide (BX2.out.below hb3)
   have hsz2 := BA3.out.lt
   clear hb3 BA2 BX2 O2
   cases hq : (x.1.toList == s.toList)
   ·have HE := hide (HYes.out (by unfold keepC; rw [hq]; rfl))
    clear HYes HNo
    have x0 := BX3.out.c0
    have x1 := BX3.out.c1
    have HBK : Hid ((w3.alloc (.cells #[.string x.1, .string x.2] 98)).heap[w3.heap.size]? = some (.cells (encR.enc x).toArray 98 (0, 0))) := heap_alloc_new w3 _
    have O3a := hide (O3.out.alloc (.cells #[.string x.1, .string x.2] 98))
    go_wp2_with (at_builtin; refine wpAppK (E := encR) 59 98 32 _ Tryz.underlying59 Tryz.info98 rfl (by omega) rfl _ _ rfl x oneR rfl O3a.out rfl HBK.out hln (by simp; omega) ?_)
    intro g' cap w4 ho4 hg4 hg5 hlt4
    have hb4 : Below (w.heap.size + 1) w3 w4 := ((Below.refl _ _).alloc (Nat.succ_le_of_lt hsz2) _).trans ((Below.refl _ _).grown hg4 (by simp; omega) (fun j hj => (World.ownsRow.lt O3a.out j hj).1))
    have O4 : Hid (GOwn encR 98 w4 (w.heap.size + 1) (.slice (some ⟨g', 0, none⟩) (F.length + 1) cap) (F ++ [x])) := ho4
    have HB4 : Hid (Below w.heap.size w w4) := HB3.out.trans (hb4.mono (Nat.le_succ _))
    have BA4 := hide (bx_low BA3.out hb4 (Nat.lt_succ_self _))
    clear ho4 hb4 hg4 hg5 hlt4 O3a O3 HBK x0 x1
    go_wp2
    go_roundw
    case rel => exact ⟨k + 1, by omega, by go_num, by rw [HE.out]; exact O4, HB4, BA4⟩
    case measure => simp [intOf]; omega
   ·have HE := hide (HNo.out (by unfold keepC; rw [hq]; rfl))
    clear HYes HNo
    go_wp2
    go_roundw
    case rel => exact ⟨k + 1, by omega, by go_num, by rw [HE.out]; exact O3, HB3, BA3⟩
    case measure => simp [intOf]; omega
  ·have hd : ¬ (k : Int) < (n : Int) := by omega
   have HE : Hid (xs.take k = xs) := List.take_of_length_le (by rw [← HX.out]; omega)
   rw [HE.out] at HO
   obtain ⟨a1, c1, rfl, _⟩ := HO.out.row
   obtain ⟨n1, hn1⟩ : ∃ n1, n1 = (xs.filter (keepC s)).length := ⟨_, rfl⟩
   rw [← hn1] at HO ⊢
   have HN1 : Hid (n1 = (xs.filter (keepC s)).length) := hn1
   clear hn1
   go_wp2
   go_ret
   exact ⟨a1, c1, n1, rfl, HN1.out, HO.out, HB.out⟩
set_option maxRecDepth 100000 in
set_option maxHeartbeats 1000000 in
theorem without36 (xs : List Rg) (a : Option Addr) (c n : Nat) (hx : n = xs.length) (hn : n ≤ 10000000) (s : ByteArray) (w : World) (hp : GRow encR w a xs) :
  Calls Tryz.prog 70 #[.agg #[.slice a n c, .func (.func 86) #[] #[]], .string s] w fun e w' => ∃ (a1 : Option Addr) (c1 n1 : Nat), e = .returned (.slice a1 n1 c1) ∧ n1 = (xs.filter (keepC s)).length ∧ GOwn encR 98 w' w.heap.size (.slice a1 n1 c1) (xs.filter (keepC s)) ∧ Below w.heap.size w w' := by
 have HB0 : Hid (Below w.heap.size w ((w.alloc (.cells #[.slice a n c, .func (.func 86) #[] #[]] 137)).alloc (.cells #[.string s] 9))) := ((belowRefl w).alloc (Nat.le_refl _) _).alloc (by simp) _
 have BL : Hid (Bx ((w.alloc (.cells #[.slice a n c, .func (.func 86) #[] #[]] 137)).alloc (.cells #[.string s] 9)) (w.heap.size + 1) [.string s]) := by
  have h := Bx.new (w.alloc (.cells #[.slice a n c, .func (.func 86) #[] #[]] 137)) [.string s] 9
  rw [show (w.alloc (.cells #[.slice a n c, .func (.func 86) #[] #[]] 137)).heap.size = w.heap.size + 1 by simp] at h
  exact h
 have H := hide (keptC xs a c n hx hn s (w.heap.size + 1) ((w.alloc (.cells #[.slice a n c, .func (.func 86) #[] #[]] 137)).alloc (.cells #[.string s] 9)) (hp.below HB0.out) BL.out)
 have hbs : w.heap.size ≤ ((w.alloc (.cells #[.slice a n c, .func (.func 86) #[] #[]] 137)).alloc (.cells #[.string s] 9)).heap.size + 1 := by simp; omega
 obtain ⟨bs, hbe⟩ : ∃ bs, bs = ((w.alloc (.cells #[.slice a n c, .func (.func 86) #[] #[]] 137)).alloc (.cells #[.string s] 9)).heap.size + 1 := ⟨_, rfl⟩
 rw [← hbe] at hbs
 have BS : Hid (((w.alloc (.cells #[.slice a n c, .func (.func 86) #[] #[]] 137)).alloc (.cells #[.string s] 9)).heap.size + 1 = bs) := hbe.symm
 clear hp hx BL hbe
 go_enter Tryz.func70, Tryz.ntmps70
 go_wp2_with fail
 refine H.out.mono ?_
 rintro e w1 ⟨a1, c1, n1, rfl, hn1, ho, hb1⟩
 have HB1 : Hid (Below w.heap.size w w1) := HB0.out.trans (hb1.mono HB0.out.size)
 have HN1 : Hid (n1 = (xs.filter (keepC s)).length) := hn1
 have HO1 : Hid (GOwn encR 98 w1 w.heap.size (.slice a1 n1 c1) (xs.filter (keepC s))) := GOwn.mono ho (by rw [BS.out]; exact hbs)
 clear hb1 hn1 H ho
 go_wp2
 go_ret
 exact ⟨a1, c1, n1, rfl, HN1.out, HO1.out, HB1.out⟩
end Go.Proofs.YtnmggknpllnjiaaGreat

/- What ViewOf answers, the program's and the document's. -/
import Derived.Test.YtbajpnbodhhmjaaGreatPs01
import Derived.Test.YtbajpnbodhhmjaaGreatPs02
import Derived.Test.YtbajpnbodhhmjaaGreatPs03
import Derived.Shelf.LaysM
import Derived.Shelf.Strconv.Clone
import Derived.Test.YtbajpnbodhhmjaaGreatProg
import Derived.Deep.Cut
import Derived.Deep.RegionHeld3
import Derived.Test.YtbajpnbodhhmjaaGreatPs15
import Derived.Test.YtbajpnbodhhmjaaGreatPs12
namespace Go.Proofs.YtbajpnbodhhmjaaGreat
open Go.RowKit
open KM
attribute [local go_sem ↓] Go.wp_at_zero Go.wp_at_succ

theorem clone51 (s : ByteArray) (hs : s.size ≤ 281474976710656) (w : World) :
  Calls Tryz.prog 28 #[.string s] w fun e w' => e = .returned (.string s) ∧ Below w.heap.size w w' := by
 go_enter Tryz.func28, Tryz.ntmps28
 go_wp2_with fail
 refine (Tryz.stringslite_Clone s _ hs).mono ?_
 rintro e w1 ⟨rfl, hb1⟩
 go_wp2
 go_ret
 exact ⟨rfl, hb1⟩
theorem view_next (m : List Rg) (r : Rg) (k : Nat) (hk : k < m.length) : viewB (m.take (k + 1)) r = viewB (m.take k) r ++ (if inB r m[k].1 then [m[k]] else []) := by
 unfold viewB
 rw [List.take_add_one, List.getElem?_eq_getElem hk, List.filter_append]
 cases h : inB r m[k].1 <;> simp [h]
theorem view_len (m : List Rg) (r : Rg) (k : Nat) : (viewB (m.take k) r).length ≤ k := by
 unfold viewB
 refine Nat.le_trans (List.length_filter_le _ _) ?_
 rw [List.length_take]; omega
theorem bx_low {w w' : World} {b B : Nat} {cs : List Value} (h : Bx w b cs) (hb : Below B w w') (hlt : b < B) : Bx w' b cs := h.belowB hb hlt
theorem oneR {y : Rg} : ∀ u ∈ encR.enc y, u.oneCell' = true := oneP

set_option maxRecDepth 100000 in
set_option maxHeartbeats 4000000 in
theorem iview (ms : List Rg) (a : Option Addr) (c n : Nat) (rg : Rg) (hx : n = ms.length) (hn : n ≤ 1048576) (hfit : ∀ x ∈ ms, x.1.size ≤ 1048576 ∧ x.2.size ≤ 1048576) (w : World) (hp : GRow encR w a ms) :
  Calls Tryz.prog 14 #[.slice a n c, .agg #[.string rg.1, .string rg.2]] w fun e w' => ∃ (a1 : Option Addr) (c1 : Nat), e = .returned (.slice a1 (viewB ms rg).length c1) ∧ GOwn encR 75 w' w.heap.size (.slice a1 (viewB ms rg).length c1) (viewB ms rg) ∧ Below w.heap.size w w' := by
 have HP : Hid (GRow encR w a ms) := hp
 have HX : Hid (n = ms.length) := hx
 clear hp hx
 have X0 : Hid (Bx (w.alloc (.cells #[.string rg.1, .string rg.2] 35)) w.heap.size [.string rg.1, .string rg.2]) := Bx.new w [.string rg.1, .string rg.2] 35
 have HB0 : Hid (Below w.heap.size w (w.alloc (.cells #[.string rg.1, .string rg.2] 35))) := (belowRefl w).alloc (Nat.le_refl _) _
 go_enter Tryz.func14, Tryz.ntmps14
 go_wp2
 go_loopw [5, 10] (fun v s wr => ∃ k : Nat, k ≤ n ∧ s = .int .i64 k ∧ Hid (GOwn encR 75 wr (w.heap.size + 1) v (viewB (ms.take k) rg)) ∧ Hid (Bx wr w.heap.size [.string rg.1, .string rg.2]) ∧ Hid (Below w.heap.size w wr)) (fun _ s _ => n - (intOf s).toNat)
 case atStart => exact ⟨0, Nat.zero_le _, rfl, GOwn.nil _ _, X0, HB0⟩
 case round =>
  obtain ⟨k, hk, rfl, HO, HXr, HB⟩ := hrel
  by_cases hlt : k < n
  ·have hlt' : (k : Int) < (n : Int) := by omega
   have h0 : (0 : Int) ≤ (k : Int) := by omega
   have hkx : k < ms.length := by rw [← HX.out]; exact hlt
   obtain ⟨b, off, rfl, hbl, hc⟩ := (HP.out.below HB.out) (by omega)
   have r0 := (rat hc k hkx).1
   have r1 := (rat hc k hkx).2
   obtain ⟨b9, o9, e9, hbw, hc9⟩ := HP.out (by omega)
   cases e9
   clear hc9
   have HN := hide (view_next ms rg k hkx)
   have hvl : (viewB (ms.take k) rg).length ≤ 100000000 := Nat.le_trans (view_len ms rg k) (by omega)
   have HZ := hide (hfit ms[k] (List.getElem_mem hkx))
   obtain ⟨x, hx⟩ : ∃ x, x = ms[k] := ⟨_, rfl⟩
   rw [← hx] at r0 r1 HN HZ
   clear hx hkx hc
   have HB1 : Hid (Below w.heap.size w (wr.alloc (.cells #[.string x.1, .string x.2] 62))) := HB.out.alloc HB.out.size _
   have Y1 : Hid (Bx (wr.alloc (.cells #[.string x.1, .string x.2] 62)) wr.heap.size [.string x.1, .string x.2]) := Bx.new wr [.string x.1, .string x.2] 62
   have X1 : Hid (Bx (wr.alloc (.cells #[.string x.1, .string x.2] 62)) w.heap.size [.string rg.1, .string rg.2]) := HXr.out.alloc _
   have O1 := hide (HO.out.alloc (.cells #[.string x.1, .string x.2] 62))
   have HAw : Hid (∀ e, u5.ownBlock = some e → e < wr.heap.size) := fun e h => (World.ownsRow.lt HO.out e h).2
   go_upto_region 5 with fail
   clear r0 r1 HO HXr HB
   generalize (wr.alloc (.cells #[.string x.1, .string x.2] 62)) = w1 at *
   have y0 := Y1.out.c0
   have x0 := X1.out.c0
   have x1 := X1.out.c1
   cases hin : inB rg x.1
   ·rw [hin] at HN
    go_wp2_with fail
    refine (iin rg.1 rg.2 x.1 _).mono ?_
    rintro e w2 ⟨rfl, hb2⟩
    rw [show inB (rg.1, rg.2) x.1 = false from hin]
    have HB2 : Hid (Below w.heap.size w w2) := HB1.out.trans (hb2.mono HB1.out.size)
    have X2 : Hid (Bx w2 w.heap.size [.string rg.1, .string rg.2]) := X1.out.below hb2
    have O2 : Hid (GOwn encR 75 w2 (w.heap.size + 1) u5 (viewB (ms.take (k + 1)) rg)) := by
     show GOwn _ _ _ _ _ _
     rw [HN.out]
     simp only [Bool.false_eq_true, if_false, List.append_nil]
     exact O1.out.below hb2
    clear hb2 y0 x0 x1 hin HN
    go_wp2
    go_roundw
    case rel => exact ⟨k + 1, by omega, by go_num, O2, X2, HB2⟩
    case measure => simp [intOf]; omega
   ·rw [hin] at HN
    go_wp2_with fail
    refine (iin rg.1 rg.2 x.1 _).mono ?_
    rintro e w2 ⟨rfl, hb2⟩
    rw [show inB (rg.1, rg.2) x.1 = true from hin]
    have HB2 : Hid (Below w.heap.size w w2) := HB1.out.trans (hb2.mono HB1.out.size)
    have X2 : Hid (Bx w2 w.heap.size [.string rg.1, .string rg.2]) := X1.out.below hb2
    have Y2 : Hid (Bx w2 wr.heap.size [.string x.1, .string x.2]) := Y1.out.below hb2
    have O2 := hide (O1.out.below hb2)
    clear hb2 y0 x0 x1 hin
    have y0 := Y2.out.c0
    have y1 := Y2.out.c1
    go_wp2
    refine wp_region_held_drew (S := fun w' => w'.cell? ⟨wr.heap.size, 0, none⟩ = some (.string x.1) ∧ w'.cell? ⟨wr.heap.size, 1, none⟩ = some (.string x.2)) (by kernel_rfl) ⟨y0, y1⟩ (fun hHeld => ?_)
    (refine tk 0 ?_ rfl (Or.inl ⟨by rfl, ?_⟩) ?_; rotate_left; (focus (intro w h; (try dsimp only at h); go_simp; (try with_reducible rfl))); simp only [Act.put, tA, tB, tD, tE, tF])
    (refine tk 1 ?_ rfl (Or.inl ⟨by rfl, ?_⟩) ?_; rotate_left; (focus (intro w h; (try dsimp only at h); go_simp; (try with_reducible rfl))); simp only [Act.put, tA, tB, tC, tD, tE, tF])
    (refine tk 2 ?_ rfl (Or.inl ⟨by rfl, ?_⟩) ?_; rotate_left; (focus (intro w h; (try dsimp only at h); go_simp; (try with_reducible rfl))); simp only [Act.put, tA, tB, tC, tD, tE, tF])
    (refine tk 4 ?_ rfl (Or.inl ⟨by rfl, ?_⟩) ?_; rotate_left; (focus (intro w h; (try dsimp only at h); go_simp; (try with_reducible rfl))); simp only [Act.put, tA, tB, tC, tD, tE, tF])
    (refine tk 5 ?_ rfl (Or.inl ⟨by rfl, ?_⟩) ?_; rotate_left; (focus (intro w h; (try dsimp only at h); go_simp; (try with_reducible rfl))); simp only [Act.put, tA, tB, tC, tD, tE, tF])
    refine wpAnyH_ready (rs := [3]) (by kernel_rfl) (by simp) ?_
    refine AllReadyH.cons rfl (fun K hK => ?_) AllReadyH.nil
    go_simp
    go_wp2_with fail
    refine (clone51 x.1 (by have := HZ.out; omega) _).mono ?_
    rintro e w3 ⟨rfl, hb3⟩
    have hbu3 := undrew hb3
    have HB3 : Hid (Below w.heap.size w w3) := HB2.out.trans (hbu3.mono HB2.out.size)
    have X3 : Hid (Bx w3 w.heap.size [.string rg.1, .string rg.2]) := X2.out.below hbu3
    have Y3 : Hid (Bx w3 wr.heap.size [.string x.1, .string x.2]) := Y2.out.below hbu3
    have O3 := hide (O2.out.below hbu3)
    go_wp2_with fail
    refine hK.out _ _ ⟨Y3.out.c0, Y3.out.c1⟩ (fun hHeld3 => ?_)
    clear hK K hb3 hbu3
    refine wpAnyH_ready (rs := [6]) (by kernel_rfl) (by simp) ?_
    refine AllReadyH.cons rfl (fun K hK => ?_) AllReadyH.nil
    go_simp
    go_wp2_with fail
    refine (clone51 x.2 (by have := HZ.out; omega) _).mono ?_
    rintro e w4 ⟨rfl, hb4⟩
    have hbu4 := hb4
    have HB4 : Hid (Below w.heap.size w w4) := HB3.out.trans (hbu4.mono HB3.out.size)
    have X4 : Hid (Bx w4 w.heap.size [.string rg.1, .string rg.2]) := X3.out.below hbu4
    have Y4 : Hid (Bx w4 wr.heap.size [.string x.1, .string x.2]) := Y3.out.below hbu4
    have O4 := hide (O3.out.below hbu4)
    go_wp2_with fail
    refine hK.out _ _ ⟨Y4.out.c0, Y4.out.c1⟩ (fun hHeld4 => ?_)
    clear hK K hb4 hbu4
    (refine tk 7 ?_ rfl (Or.inl ⟨by rfl, ?_⟩) ?_; rotate_left; (focus (intro w h; (try dsimp only at h); go_simp; (try with_reducible rfl))); simp only [Act.put, tA, tB, tC, tD, tE, tF])
    have Y5 : Hid (Bx (w4.alloc (.cells #[.string x.1, .string x.2] 75)) wr.heap.size [.string x.1, .string x.2]) := Y4.out.alloc _
    have X5 : Hid (Bx (w4.alloc (.cells #[.string x.1, .string x.2] 75)) w.heap.size [.string rg.1, .string rg.2]) := X4.out.alloc _
    have O5 := hide (O4.out.alloc (.cells #[.string x.1, .string x.2] 75))
    have hxl := X4.out.lt
    refine wpAnyH_ready (rs := [8]) (by kernel_rfl) (by simp) ?_
    refine AllReadyH.cons rfl (fun K hK => ?_) AllReadyH.nil
    go_simp
    refine hK.out _ _ ⟨Y5.out.c0, Y5.out.c1⟩ (fun hHeld5 => ?_)
    clear hK K
    refine wpAnyH_ready (rs := [9]) (by kernel_rfl) (by simp) ?_
    refine AllReadyH.cons rfl (fun K hK => ?_) AllReadyH.nil
    refine stepAppK (E := encR) 44 75 32 _ Tryz.underlying44 Tryz.info75 rfl (by omega) rfl _ _ rfl (base := w.heap.size + 1) (v := u5) (xs := viewB (ms.take k) rg) x oneR rfl O5.out rfl (heap_alloc_new w4 _) hvl (by simp; omega) ?_
    intro g' cap' w6 ho6 hg6 hg7 hlt6
    have hb6 : Below (w.heap.size + 1) w4 w6 := ((Below.refl _ _).alloc (Nat.succ_le_of_lt hxl) _).trans ((Below.refl _ _).grown hg6 (by simp; omega) (fun j hj => (World.ownsRow.lt O5.out j hj).1))
    have HB6 : Hid (Below w.heap.size w w6) := HB4.out.trans (hb6.mono (Nat.le_succ _))
    have X6 : Hid (Bx w6 w.heap.size [.string rg.1, .string rg.2]) := bx_low X4.out hb6 (Nat.lt_succ_self _)
    have hyn : (Value.slice none 0 0).ownBlock = none := rfl
    have Y6 : Hid (Bx w6 wr.heap.size [.string x.1, .string x.2]) := bx_marked Y5.out hg6 (fun e => by have := (HAw.out _ e); omega)
    have O6 : Hid (GOwn encR 75 w6 (w.heap.size + 1) (.slice (some ⟨g', 0, none⟩) ((viewB (ms.take k) rg).length + 1) cap') (viewB (ms.take (k + 1)) rg)) := by
     show GOwn _ _ _ _ _ _
     rw [HN.out]
     exact ho6
    refine hK.out _ _ ⟨Y6.out.c0, Y6.out.c1⟩ (fun hHeld6 => ?_)
    clear hK K ho6 hg6 hg7 hlt6 hb6
    (refine tk 10 ?_ rfl (Or.inl ⟨by rfl, ?_⟩) ?_; rotate_left; (focus (intro w h; (try dsimp only at h); go_simp; (try with_reducible rfl))); simp only [Act.put, tA, tB, tC, tD, tE, tF])
    refine wpAnyH_done (by kernel_rfl) ?_ _
    clear y0 y1 HN
    go_wp2
    go_roundw
    case rel => exact ⟨k + 1, by omega, by go_num, O6, X6, HB6⟩
    case measure => simp [intOf]; omega
  ·have hd : ¬ (k : Int) < (n : Int) := by omega
   have ho := HO.out
   rw [List.take_of_length_le (by rw [← HX.out]; omega)] at ho
   obtain ⟨a1, c1, rfl, _⟩ := ho.row
   have O1 := hide (ho.mono (Nat.le_succ _))
   clear ho
   go_wp2
   go_ret
   exact ⟨a1, c1, rfl, O1.out, HB.out⟩

end Go.Proofs.YtbajpnbodhhmjaaGreat

namespace Go.Proofs.YtbajpnbodhhmjaaGreat
open Go.RowKit
open KM
open VM
attribute [local go_sem ↓] Go.wp_at_zero Go.wp_at_succ

theorem DonesD.take {ts : List Tx} {c : Nat} (h : DonesD ts c) (k : Nat) : DonesD (ts.take k) c :=
 ⟨fun t ht => h.each t (List.mem_of_mem_take ht), fun i hi => by rw [List.getElem_take]; exact h.ids i (by rw [List.length_take] at hi; omega), h.asc.sublist (List.take_sublist _ _)⟩
theorem allV_len (ts : List Tx) : (∀ t ∈ ts, t.ws.length ≤ 3) → (allV ts).length ≤ 3 * ts.length := by
 refine snoc_ind (P := fun ts => (∀ t ∈ ts, t.ws.length ≤ 3) → (allV ts).length ≤ 3 * ts.length) (fun _ => Nat.zero_le _) (fun ts t ih h => ?_) ts
 rw [allV_snoc, put_len, List.length_append]
 have h1 := ih (fun u hu => h u (by simp [hu]))
 have h2 := h t (by simp)
 simp
 omega
theorem allV_next (ts : List Tx) (k : Nat) (hk : k < ts.length) : allV (ts.take (k + 1)) = putV (allV (ts.take k)) ts[k].ws ts[k].cs := by
 rw [List.take_add_one, List.getElem?_eq_getElem hk]
 exact allV_snoc _ _
set_option maxRecDepth 100000 in
set_option maxHeartbeats 1000000 in
theorem ivall (ys : List Ta) (a : Option Addr) (c n cs : Nat) (hny : n = ys.length) (hn : n ≤ 5) (hcs : cs ≤ 10) (hd : DonesD (txs ys) cs) (w : World) (hl : TRows w a ys) :
  Calls Tryz.prog 34 #[.slice a n c] w fun e w' => ∃ a1 c1, e = .returned (.slice a1 (allV (txs ys)).length c1) ∧ GOwn encV 69 w' w.heap.size (.slice a1 (allV (txs ys)).length c1) (allV (txs ys)) ∧ Below w.heap.size w w' := by
 have HL : Hid (TRows w a ys) := hl
 have HNY : Hid (n = ys.length) := hny
 have HNT : Hid (n = (txs ys).length) := by show _ = _; rw [txs_len]; exact hny
 have HD := hide hd
 clear hl hny hd
 go_enter Tryz.func34, Tryz.ntmps34
 go_wp2
 go_loopw [3, 8] (fun v s wr => ∃ k : Nat, k ≤ n ∧ s = .int .i64 k ∧ Hid (GOwn encV 69 wr w.heap.size v (allV ((txs ys).take k))) ∧ Hid (Below w.heap.size w wr)) (fun _ s _ => n - (intOf s).toNat)
 case atStart => exact ⟨0, Nat.zero_le _, rfl, GOwn.nil _ _, belowRefl w⟩
 case round =>
  obtain ⟨k, hk, rfl, HO, HB⟩ := hrel
  by_cases hlt : k < n
  ·have hlt' : (k : Int) < (n : Int) := by omega
   have h0 : (0 : Int) ≤ (k : Int) := by omega
   have hky : k < ys.length := by rw [← HNY.out]; exact hlt
   have hkt : k < (txs ys).length := by rw [← HNT.out]; exact hlt
   obtain ⟨b, o, rfl, hbl, hc, hrow⟩ := (HL.out.below HB.out).cls k hky
   have hD1 := (HD.out.each _ (List.getElem_mem hkt)).1
   have hD2 := (HD.out.each _ (List.getElem_mem hkt)).2
   have HNX := hide (allV_next (txs ys) k hkt)
   have hlen : (allV ((txs ys).take k)).length ≤ 15 := Nat.le_trans (allV_len _ (fun u hu => (HD.out.each u (List.mem_of_mem_take hu)).1.wl)) (by rw [List.length_take]; omega)
   have hpre : ∀ u ∈ (txs ys).take k, u.cs < (txs ys)[k].cs := fun u hu => by
    obtain ⟨i, hi, rfl⟩ := List.getElem_of_mem hu
    rw [List.length_take] at hi
    rw [List.getElem_take]
    exact (List.pairwise_iff_getElem.1 HD.out.asc) i k (by omega) hkt (by omega)
   have HV : Hid (VsD ((txs ys)[k].cs - 1) (allV ((txs ys).take k))) := allV_vsd (by omega) _ (HD.out.take k) _ (by have := hD1.s0; have := hD1.sc; omega) (fun u hu => by have := hpre u hu; omega)
   have HDk := hide hD1
   obtain ⟨x, hx⟩ : ∃ x, x = ys[k] := ⟨_, rfl⟩
   have hxt : (txs ys)[k] = x.t := by rw [hx]; simp [txs]
   rw [hxt] at HV HNX HDk
   rw [← hx] at hc hrow
   clear hD1 hD2 hpre hx hxt
   have HRow := hide hrow
   have r0 := hc.c0
   have r1 := hc.c1
   have r2 := hc.c2
   have r3 := hc.c3
   have r4 := hc.c4
   have r5 := hc.c5
   have r6 := hc.c6
   have r7 := hc.c7
   clear hc hrow hky hkt
   obtain ⟨xs, hxs⟩ : ∃ xs, xs = allV ((txs ys).take k) := ⟨_, rfl⟩
   rw [← hxs] at HO HV HNX hlen
   clear hxs
   obtain ⟨a0, c0, rfl, hgr⟩ := HO.out.row
   have hba : Below wr.heap.size wr (wr.alloc (.cells #[.int .i64 x.t.id, .int .i64 x.t.st, .int .i64 x.t.snap, .int .i64 x.t.cs, .slice x.ra x.t.rs.length x.rc, .slice x.wa x.t.ws.length x.wc, .bool x.t.out, .string x.t.nm] 30)) := (belowRefl wr).alloc (Nat.le_refl _) _
   have HB1 : Hid (Below w.heap.size w (wr.alloc (.cells #[.int .i64 x.t.id, .int .i64 x.t.st, .int .i64 x.t.snap, .int .i64 x.t.cs, .slice x.ra x.t.rs.length x.rc, .slice x.wa x.t.ws.length x.wc, .bool x.t.out, .string x.t.nm] 30))) := HB.out.alloc HB.out.size _
   have BX1 : Hid (Bx (wr.alloc (.cells #[.int .i64 x.t.id, .int .i64 x.t.st, .int .i64 x.t.snap, .int .i64 x.t.cs, .slice x.ra x.t.rs.length x.rc, .slice x.wa x.t.ws.length x.wc, .bool x.t.out, .string x.t.nm] 30)) wr.heap.size [.int .i64 x.t.id, .int .i64 x.t.st, .int .i64 x.t.snap, .int .i64 x.t.cs, .slice x.ra x.t.rs.length x.rc, .slice x.wa x.t.ws.length x.wc, .bool x.t.out, .string x.t.nm]) := Bx.new wr [.int .i64 x.t.id, .int .i64 x.t.st, .int .i64 x.t.snap, .int .i64 x.t.cs, .slice x.ra x.t.rs.length x.rc, .slice x.wa x.t.ws.length x.wc, .bool x.t.out, .string x.t.nm] 30
   have HC := hide (iputv xs x.t.ws a0 x.wa c0 x.wc x.t.cs (by omega) (by have := HDk.out.wl; omega) HV.out.fit HDk.out.ws.fit (HV.out.ne (by omega)) HDk.out.ws.ne (wr.alloc (.cells #[.int .i64 x.t.id, .int .i64 x.t.st, .int .i64 x.t.snap, .int .i64 x.t.cs, .slice x.ra x.t.rs.length x.rc, .slice x.wa x.t.ws.length x.wc, .bool x.t.out, .string x.t.nm] 30)) (hgr.below hba) (HRow.out.w.below hba))
   clear hgr hba
   go_upto_region 5 with fail
   clear r0 r1 r2 r3 r4 r5 r6 r7
   generalize (wr.alloc (.cells #[.int .i64 x.t.id, .int .i64 x.t.st, .int .i64 x.t.snap, .int .i64 x.t.cs, .slice x.ra x.t.rs.length x.rc, .slice x.wa x.t.ws.length x.wc, .bool x.t.out, .string x.t.nm] 30)) = w1 at *
   have y3 := BX1.out.c3
   have y5 := BX1.out.c5
   go_wp2_with fail
   refine HC.out.mono ?_
   rintro e w2 ⟨a3, c3, rfl, ho2, hb2⟩
   have HB2 : Hid (Below w.heap.size w w2) := HB1.out.trans (hb2.mono HB1.out.size)
   have HO2 : Hid (GOwn encV 69 w2 w.heap.size (.slice a3 (putV xs x.t.ws x.t.cs).length c3) (allV ((txs ys).take (k + 1)))) := by
    show GOwn _ _ _ _ _ _
    rw [HNX.out]
    exact ho2.mono HB1.out.size
   clear y3 y5 ho2 hb2 HC HNX HV HO
   go_wp2
   go_roundw
   case rel => exact ⟨k + 1, by omega, by go_num, HO2, HB2⟩
   case measure => simp [intOf]; omega
  ·have hd : ¬ (k : Int) < (n : Int) := by omega
   have ho := HO.out
   rw [List.take_of_length_le (by rw [← HNT.out]; omega)] at ho
   obtain ⟨a1, c1, rfl, _⟩ := ho.row
   have O1 := hide ho
   clear ho
   go_wp2
   go_ret
   exact ⟨a1, c1, rfl, O1.out, HB.out⟩
set_option maxRecDepth 100000 in
set_option maxHeartbeats 1000000 in
theorem equP (xs : List Rg) (a1 a2 : Option Addr) (c1 c2 n : Nat) (hx : n = xs.length) (hn : n ≤ 100000000) (w : World) (h1 : GRow encR w a1 xs) (h2 : GRow encR w a2 xs) :
  Calls Tryz.prog 66 #[.slice a1 n c1, .slice a2 n c2] w fun e w' => e = .returned (.bool true) ∧ Below w.heap.size w w' := by
 have H1 : Hid (GRow encR w a1 xs) := h1
 have H2 : Hid (GRow encR w a2 xs) := h2
 have HX : Hid (n = xs.length) := hx
 clear h1 h2 hx
 go_enter Tryz.func66, Tryz.ntmps66
 go_wp2
 go_loopw [13] (fun t wr => ∃ k : Nat, k ≤ n ∧ t = .int .i64 k ∧ Hid (Below w.heap.size w wr)) (fun t _ => n - (intOf t).toNat)
 case atStart => exact ⟨0, Nat.zero_le _, rfl, belowRefl w⟩
 case round =>
  obtain ⟨k, hk, rfl, HB⟩ := hrel
  by_cases hlt : k < n
  ·have hlt' : (k : Int) < (n : Int) := by omega
   have hk0 : (0 : Int) ≤ (k : Int) := by omega
   have hkx : k < xs.length := by rw [← HX.out]; exact hlt
   obtain ⟨b, off, rfl, hbl, hc⟩ := (H1.out.below HB.out) (by omega)
   have r0 := (rat hc k hkx).1
   have r1 := (rat hc k hkx).2
   clear hc
   obtain ⟨b2, off2, rfl, hbl2, hc2⟩ := (H2.out.below HB.out) (by omega)
   have q0 := (rat hc2 k hkx).1
   have q1 := (rat hc2 k hkx).2
   clear hc2
   obtain ⟨x, hx⟩ : ∃ x, x = xs[k] := ⟨_, rfl⟩
   rw [← hx] at r0 r1 q0 q1
   clear hx hkx
   go_wp2
   go_quiet (fail)
   go_wp2
   go_roundw
   case rel => exact ⟨k + 1, by omega, by go_num, below_drewN HB.out _⟩
   case measure => simp [intOf]; omega
  ·have hd : ¬ (k : Int) < (n : Int) := by omega
   go_wp2
   go_ret
   exact ⟨rfl, HB.out⟩

set_option maxRecDepth 100000 in
set_option maxHeartbeats 1000000 in
theorem iseesT (t : Tx) (ra wa : Option Addr) (rc wc : Nat) (ms : List Rg) (ma : Option Addr) (mc n : Nat) (vs : List Vr) (va : Option Addr) (vc : Nat) (hm : n = ms.length) (hn : n ≤ 1048576) (hmf : RFit ms) (hvl : vs.length ≤ 1000000) (hvf : VFit vs) (hrl : t.rs.length ≤ 100) (hsee : ∀ r ∈ t.rs, viewB ms r = scanB vs r t.snap) (w : World) (hr : GRow encR w ra t.rs) (hp : GRow encR w ma ms) (hv : GRow encV w va vs) :
  Calls Tryz.prog 35 #[.agg #[.int .i64 t.id, .int .i64 t.st, .int .i64 t.snap, .int .i64 t.cs, .slice ra t.rs.length rc, .slice wa t.ws.length wc, .bool t.out, .string t.nm], .slice ma n mc, .slice va vs.length vc] w fun e w' => e = .returned (.bool true) ∧ Below w.heap.size w w' := by
 have HR : Hid (GRow encR w ra t.rs) := hr
 have HP : Hid (GRow encR w ma ms) := hp
 have HV : Hid (GRow encV w va vs) := hv
 have HM : Hid (n = ms.length) := hm
 have HMF : Hid (RFit ms) := hmf
 have HVF : Hid (VFit vs) := hvf
 have HSee := hide hsee
 have X0 : Hid (Bx (w.alloc (.cells #[.int .i64 t.id, .int .i64 t.st, .int .i64 t.snap, .int .i64 t.cs, .slice ra t.rs.length rc, .slice wa t.ws.length wc, .bool t.out, .string t.nm] 30)) w.heap.size [.int .i64 t.id, .int .i64 t.st, .int .i64 t.snap, .int .i64 t.cs, .slice ra t.rs.length rc, .slice wa t.ws.length wc, .bool t.out, .string t.nm]) := Bx.new w [.int .i64 t.id, .int .i64 t.st, .int .i64 t.snap, .int .i64 t.cs, .slice ra t.rs.length rc, .slice wa t.ws.length wc, .bool t.out, .string t.nm] 30
 have HB0 : Hid (Below w.heap.size w (w.alloc (.cells #[.int .i64 t.id, .int .i64 t.st, .int .i64 t.snap, .int .i64 t.cs, .slice ra t.rs.length rc, .slice wa t.ws.length wc, .bool t.out, .string t.nm] 30))) := (belowRefl w).alloc (Nat.le_refl _) _
 clear hr hp hv hm hmf hvf hsee
 go_enter Tryz.func35, Tryz.ntmps35
 go_upto_region 1 with fail
 generalize (w.alloc (.cells #[.int .i64 t.id, .int .i64 t.st, .int .i64 t.snap, .int .i64 t.cs, .slice ra t.rs.length rc, .slice wa t.ws.length wc, .bool t.out, .string t.nm] 30)) = w0 at *
 have x4 := X0.out.c4
 go_wp2
 clear x4
 go_loopw [12] (fun s wr => ∃ k : Nat, k ≤ t.rs.length ∧ s = .int .i64 k ∧ Hid (Bx wr w.heap.size [.int .i64 t.id, .int .i64 t.st, .int .i64 t.snap, .int .i64 t.cs, .slice ra t.rs.length rc, .slice wa t.ws.length wc, .bool t.out, .string t.nm]) ∧ Hid (Below w.heap.size w wr)) (fun s _ => t.rs.length - (intOf s).toNat)
 case atStart => exact ⟨0, Nat.zero_le _, rfl, X0, HB0⟩
 case round =>
  obtain ⟨k, hk, rfl, HX, HB⟩ := hrel
  by_cases hlt : k < t.rs.length
  ·have hlt' : (k : Int) < (t.rs.length : Int) := by omega
   have h0 : (0 : Int) ≤ (k : Int) := by omega
   obtain ⟨b, off, rfl, hbl, hc⟩ := (HR.out.below HB.out) (by omega)
   have r0 := (rat hc k hlt).1
   have r1 := (rat hc k hlt).2
   have HS := hide (HSee.out _ (List.getElem_mem hlt))
   obtain ⟨rg, hrg⟩ : ∃ rg, rg = t.rs[k] := ⟨_, rfl⟩
   rw [← hrg] at r0 r1 HS
   clear hrg hc
   have HB1 : Hid (Below w.heap.size w (wr.alloc (.cells #[.string rg.1, .string rg.2] 35))) := HB.out.alloc HB.out.size _
   have Y1 : Hid (Bx (wr.alloc (.cells #[.string rg.1, .string rg.2] 35)) wr.heap.size [.string rg.1, .string rg.2]) := Bx.new wr [.string rg.1, .string rg.2] 35
   have X1 : Hid (Bx (wr.alloc (.cells #[.string rg.1, .string rg.2] 35)) w.heap.size [.int .i64 t.id, .int .i64 t.st, .int .i64 t.snap, .int .i64 t.cs, .slice (some ⟨b, off, none⟩) t.rs.length rc, .slice wa t.ws.length wc, .bool t.out, .string t.nm]) := HX.out.alloc _
   go_upto_region 4 with fail
   clear r0 r1 HX HB
   generalize (wr.alloc (.cells #[.string rg.1, .string rg.2] 35)) = w1 at *
   have y0 := Y1.out.c0
   have y1 := Y1.out.c1
   have x2 := X1.out.c2
   refine wp_region_held_drew (S := fun w' => w'.cell? ⟨wr.heap.size, 0, none⟩ = some (.string rg.1) ∧ w'.cell? ⟨wr.heap.size, 1, none⟩ = some (.string rg.2) ∧ w'.cell? ⟨w.heap.size, 2, none⟩ = some (.int .i64 t.snap)) (by kernel_rfl) ⟨y0, y1, x2⟩ (fun hHeld => ?_)
   (refine tk 0 ?_ rfl (Or.inl ⟨by rfl, ?_⟩) ?_; rotate_left; (focus (intro w h; (try dsimp only at h); go_simp; (try with_reducible rfl))); simp only [Act.put, tA, tB, tD, tE, tF])
   (refine tk 1 ?_ rfl (Or.inl ⟨by rfl, ?_⟩) ?_; rotate_left; (focus (intro w h; (try dsimp only at h); go_simp; (try with_reducible rfl))); simp only [Act.put, tA, tB, tC, tD, tE, tF])
   (refine tk 3 ?_ rfl (Or.inl ⟨by rfl, ?_⟩) ?_; rotate_left; (focus (intro w h; (try dsimp only at h); go_simp; (try with_reducible rfl))); simp only [Act.put, tA, tB, tC, tD, tE, tF])
   (refine tk 4 ?_ rfl (Or.inl ⟨by rfl, ?_⟩) ?_; rotate_left; (focus (intro w h; (try dsimp only at h); go_simp; (try with_reducible rfl))); simp only [Act.put, tA, tB, tC, tD, tE, tF])
   (refine tk 5 ?_ rfl (Or.inl ⟨by rfl, ?_⟩) ?_; rotate_left; (focus (intro w h; (try dsimp only at h); go_simp; (try with_reducible rfl))); simp only [Act.put, tA, tB, tC, tD, tE, tF])
   (refine tk 6 ?_ rfl (Or.inl ⟨by rfl, ?_⟩) ?_; rotate_left; (focus (intro w h; (try dsimp only at h); go_simp; (try with_reducible rfl))); simp only [Act.put, tA, tB, tC, tD, tE, tF])
   refine wpAnyH_ready (rs := [2]) (by kernel_rfl) (by simp) ?_
   refine AllReadyH.cons rfl (fun K hK => ?_) AllReadyH.nil
   go_simp
   go_wp2_with fail
   refine (iview ms ma mc n rg HM.out hn HMF.out _ ((HP.out.below HB1.out).below ((belowRefl w1).drew))).mono ?_
   rintro e w2 ⟨a2, c2, rfl, ho2, hb2⟩
   have hbu2 := undrew hb2
   have HB2 : Hid (Below w.heap.size w w2) := HB1.out.trans (hbu2.mono HB1.out.size)
   have X2 : Hid (Bx w2 w.heap.size [.int .i64 t.id, .int .i64 t.st, .int .i64 t.snap, .int .i64 t.cs, .slice (some ⟨b, off, none⟩) t.rs.length rc, .slice wa t.ws.length wc, .bool t.out, .string t.nm]) := X1.out.below hbu2
   have Y2 : Hid (Bx w2 wr.heap.size [.string rg.1, .string rg.2]) := Y1.out.below hbu2
   have G2 := hide ho2.grow
   clear ho2
   rw [HS.out] at G2 ⊢
   go_wp2_with fail
   refine hK.out _ _ ⟨Y2.out.c0, Y2.out.c1, X2.out.c2⟩ (fun hHeld2 => ?_)
   clear hK K hb2 hbu2
   refine wpAnyH_ready (rs := [7]) (by kernel_rfl) (by simp) ?_
   refine AllReadyH.cons rfl (fun K hK => ?_) AllReadyH.nil
   go_simp
   go_wp2_with fail
   refine (iscan vs va vc rg t.snap (by omega) HVF.out _ (HV.out.below HB2.out)).mono ?_
   rintro e w3 ⟨a3, c3, rfl, ho3, hb3⟩
   have hbu3 := hb3
   have HB3 : Hid (Below w.heap.size w w3) := HB2.out.trans (hbu3.mono HB2.out.size)
   have X3 : Hid (Bx w3 w.heap.size [.int .i64 t.id, .int .i64 t.st, .int .i64 t.snap, .int .i64 t.cs, .slice (some ⟨b, off, none⟩) t.rs.length rc, .slice wa t.ws.length wc, .bool t.out, .string t.nm]) := X2.out.below hbu3
   have Y3 : Hid (Bx w3 wr.heap.size [.string rg.1, .string rg.2]) := Y2.out.below hbu3
   have G2a := hide (G2.out.below hbu3)
   have G3 := hide ho3.grow
   clear ho3 G2
   go_wp2_with fail
   refine hK.out _ _ ⟨Y3.out.c0, Y3.out.c1, X3.out.c2⟩ (fun hHeld3 => ?_)
   clear hK K hb3 hbu3
   have hsl : (scanB vs rg t.snap).length ≤ 100000000 := by rw [← HS.out]; exact Nat.le_trans (List.length_filter_le _ _) (by rw [← HM.out]; omega)
   refine wpAnyH_ready (rs := [8]) (by kernel_rfl) (by simp) ?_
   refine AllReadyH.cons rfl (fun K hK => ?_) AllReadyH.nil
   go_simp
   go_wp2_with fail
   refine (equP (scanB vs rg t.snap) a2 a3 c2 c3 _ rfl hsl _ G2a.out G3.out).mono ?_
   rintro e w4 ⟨rfl, hb4⟩
   have hbu4 := hb4
   have HB4 : Hid (Below w.heap.size w w4) := HB3.out.trans (hbu4.mono HB3.out.size)
   have X4 : Hid (Bx w4 w.heap.size [.int .i64 t.id, .int .i64 t.st, .int .i64 t.snap, .int .i64 t.cs, .slice (some ⟨b, off, none⟩) t.rs.length rc, .slice wa t.ws.length wc, .bool t.out, .string t.nm]) := X3.out.below hbu4
   have Y4 : Hid (Bx w4 wr.heap.size [.string rg.1, .string rg.2]) := Y3.out.below hbu4
   go_wp2_with fail
   refine hK.out _ _ ⟨Y4.out.c0, Y4.out.c1, X4.out.c2⟩ (fun hHeld4 => ?_)
   clear hK K hb4 hbu4
   (refine tk 9 ?_ rfl (Or.inl ⟨by rfl, ?_⟩) ?_; rotate_left; (focus (intro w h; (try dsimp only at h); go_simp; (try with_reducible rfl))); simp only [Act.put, tA, tB, tC, tD, tE, tF])
   refine wpAnyH_done (by kernel_rfl) ?_ _
   clear y0 y1 x2
   go_wp2
   go_roundw
   case rel => exact ⟨k + 1, by omega, by go_num, X4, HB4⟩
   case measure => simp [intOf]; omega
  ·have hd : ¬ (k : Int) < (t.rs.length : Int) := by omega
   go_wp2
   go_ret
   exact ⟨rfl, HB.out⟩
end Go.Proofs.YtbajpnbodhhmjaaGreat

/- What PlayOne of the program does with ascending cells. -/
import Derived.Test.YtnmggknpllnjiaaGreatPt01
import Derived.Test.YtnmggknpllnjiaaGreatPt27
namespace Go.Proofs.YtnmggknpllnjiaaGreat
open Go.RowKit
open KM
open VM
attribute [local go_sem ↓] Go.wp_at_zero Go.wp_at_succ

theorem own_none {w : World} {base : Nat} {a : Option Addr} {c : Nat} {xs : List Rg} (h : GOwn encR 98 w base (.slice a xs.length c) xs) : a = none → xs.length = 0 ∧ c = 0 := fun ha => by
 rcases h.2 with ⟨hv, h0⟩ | ⟨g, cap, cur, hv, _⟩
 ·simp only [Value.slice.injEq] at hv
  exact ⟨h0, hv.2.2⟩
 ·subst ha
  simp at hv
theorem two_filt (p q : Rg → Bool) : ∀ m : List Rg, (∀ c ∈ m, p c = true → q c = false) → (m.filter p).length + (m.filter q).length ≤ m.length
 | [], _ => by simp
 | c :: m, h => by
  have ih := two_filt p q m (fun d hd => h d (List.mem_cons_of_mem _ hd))
  have hc := h c (by simp)
  cases hp : p c <;> cases hq : q c
  ·simp [hp, hq]; omega
  ·simp [hp, hq]; omega
  ·simp [hp, hq]; omega
  ·rw [hc hp] at hq; cases hq
theorem putC_len (m : List Rg) (x : Wt) : (putC m x).length ≤ m.length + 1 := by
 unfold putC
 split
 ·exact Nat.le_succ_of_le (List.length_filter_le _ _)
 ·have := two_filt (fun c => lt c.1 x.1) (fun c => lt x.1 c.1) m (fun c _ h => less_asymm _ _ h)
  simp
  omega
theorem playB_len : ∀ (ws : List Wt) (m : List Rg), (playB m ws).length ≤ m.length + ws.length
 | [], m => by simp [playB]
 | x :: ws, m => by
  have h := playB_len ws (putC m x)
  have h2 := putC_len m x
  show (playB (putC m x) ws).length ≤ _
  simp
  omega
theorem rfit_put {m : List Rg} (h : RFit m) (x : Wt) (h1 : x.1.size ≤ 1048576) (h2 : x.2.1.size ≤ 1048576) : RFit (putC m x) := by
 unfold putC
 split
 ·exact fun c hc => h c (List.mem_filter.1 hc).1
 ·intro c hc
  rcases List.mem_append.1 hc with hc | hc
  ·rcases List.mem_append.1 hc with hc | hc
   ·exact h c (List.mem_filter.1 hc).1
   ·rw [List.mem_singleton] at hc
    subst hc
    exact ⟨h1, h2⟩
  ·exact h c (List.mem_filter.1 hc).1
theorem rfit_play : ∀ (ws : List Wt) (m : List Rg), RFit m → WFit ws → RFit (playB m ws)
 | [], _, h, _ => h
 | x :: ws, _, h, hw => rfit_play ws _ (rfit_put h x (hw x (by simp)).1 (hw x (by simp)).2) (fun y hy => hw y (List.mem_cons_of_mem _ hy))
theorem playB_next (m : List Rg) (ws : List Wt) (k : Nat) (hk : k < ws.length) : playB m (ws.take (k + 1)) = putC (playB m (ws.take k)) ws[k] := by
 unfold playB
 rw [List.take_add_one, List.getElem?_eq_getElem hk, List.foldl_append]
 rfl
set_option maxRecDepth 100000 in
set_option maxHeartbeats 1000000 in
theorem iplay (ms : List Rg) (a : Option Addr) (c n : Nat) (t : Tx) (ra wa : Option Addr) (rc wc : Nat) (hx : n = ms.length) (hn : n ≤ 1048576) (hwl : t.ws.length ≤ 2000000) (hfit : RFit ms) (hwf : WFit t.ws) (hasc : AscC ms) (w : World) (hp : GRow encR w a ms) (hw : GRow encW w wa t.ws) :
  Calls Tryz.prog 51 #[.slice a n c, .agg #[.int .i64 t.id, .int .i64 t.st, .int .i64 t.snap, .int .i64 t.cs, .slice ra t.rs.length rc, .slice wa t.ws.length wc, .bool t.out, .string t.nm]] w fun e w' => ∃ (a1 : Option Addr) (c1 L : Nat), e = .returned (.slice a1 L c1) ∧ L = (playB ms t.ws).length ∧ GOwn encR 98 w' w.heap.size (.slice a1 L c1) (playB ms t.ws) ∧ Below w.heap.size w w' := by
 have HW : Hid (GRow encW w wa t.ws) := hw
 have HX : Hid (n = ms.length) := hx
 have HF := hide hfit
 have HWF := hide hwf
 have HA := hide hasc
 have X0 : Hid (Bx (w.alloc (.cells #[.int .i64 t.id, .int .i64 t.st, .int .i64 t.snap, .int .i64 t.cs, .slice ra t.rs.length rc, .slice wa t.ws.length wc, .bool t.out, .string t.nm] 63)) w.heap.size [.int .i64 t.id, .int .i64 t.st, .int .i64 t.snap, .int .i64 t.cs, .slice ra t.rs.length rc, .slice wa t.ws.length wc, .bool t.out, .string t.nm]) := Bx.new w [.int .i64 t.id, .int .i64 t.st, .int .i64 t.snap, .int .i64 t.cs, .slice ra t.rs.length rc, .slice wa t.ws.length wc, .bool t.out, .string t.nm] 63
 have HB0 : Hid (Below w.heap.size w (w.alloc (.cells #[.int .i64 t.id, .int .i64 t.st, .int .i64 t.snap, .int .i64 t.cs, .slice ra t.rs.length rc, .slice wa t.ws.length wc, .bool t.out, .string t.nm] 63))) := (belowRefl w).alloc (Nat.le_refl _) _
 have HP : Hid (GRow encR (w.alloc (.cells #[.int .i64 t.id, .int .i64 t.st, .int .i64 t.snap, .int .i64 t.cs, .slice ra t.rs.length rc, .slice wa t.ws.length wc, .bool t.out, .string t.nm] 63)) a ms) := hp.below HB0.out
 have HS0 : Hid (w.heap.size + 1 ≤ (w.alloc (.cells #[.int .i64 t.id, .int .i64 t.st, .int .i64 t.snap, .int .i64 t.cs, .slice ra t.rs.length rc, .slice wa t.ws.length wc, .bool t.out, .string t.nm] 63)).heap.size) := by show _ ≤ _; simp
 clear hx hp hw hfit hwf hasc
 go_enter Tryz.func51, Tryz.ntmps51
 go_upto_region 1 with fail
 generalize (w.alloc (.cells #[.int .i64 t.id, .int .i64 t.st, .int .i64 t.snap, .int .i64 t.cs, .slice ra t.rs.length rc, .slice wa t.ws.length wc, .bool t.out, .string t.nm] 63)) = w0 at *
 go_wp2_with fail
 refine (icopyC ms a c n HX.out (by omega) HF.out _ HP.out).mono ?_
 rintro e w1 ⟨a1, c1, rfl, ho, hb1⟩
 have HB1 : Hid (Below w.heap.size w w1) := HB0.out.trans (hb1.mono HB0.out.size)
 have X1 := hide (X0.out.below hb1)
 have O1 : Hid (GOwn encR 98 w1 (w.heap.size + 1) (.slice a1 ms.length c1) ms) := GOwn.mono ho HS0.out
 obtain ⟨L, hL⟩ : ∃ L, L = ms.length := ⟨_, rfl⟩
 rw [← hL] at O1 ⊢
 clear hL hb1 ho X0 HB0 HS0 HP
 have x5 := X1.out.c5
 go_wp2
 clear x5
 go_loopw [5, 13] (fun v s wr => ∃ k : Nat, k ≤ t.ws.length ∧ s = .int .i64 k ∧ Hid (GOwn encR 98 wr (w.heap.size + 1) v (playB ms (t.ws.take k))) ∧ Hid (Below w.heap.size w wr) ∧ Hid (Bx wr w.heap.size [.int .i64 t.id, .int .i64 t.st, .int .i64 t.snap, .int .i64 t.cs, .slice ra t.rs.length rc, .slice wa t.ws.length wc, .bool t.out, .string t.nm])) (fun _ s _ => t.ws.length - (intOf s).toNat)
 case atStart => exact ⟨0, Nat.zero_le _, rfl, O1, HB1, X1⟩
 case round =>
  clear O1 HB1 X1
  obtain ⟨k, hk, rfl, HO, HB, HXr⟩ := hrel
  by_cases hlt : k < t.ws.length
  ·have hlt' : (k : Int) < (t.ws.length : Int) := by omega
   have h0 : (0 : Int) ≤ (k : Int) := by omega
   obtain ⟨b, off, rfl, hbl, hc⟩ := (HW.out.below HB.out) (by omega)
   have r0 := (wat hc k hlt).1
   have r1 := (wat hc k hlt).2.1
   have r2 := (wat hc k hlt).2.2
   have HNX := hide (playB_next ms t.ws k hlt)
   have HZ := hide (HWF.out t.ws[k] (List.getElem_mem hlt))
   have HFA : Hid (AscC (playB ms (t.ws.take k))) := play_asc HA.out _
   have hFl : (playB ms (t.ws.take k)).length ≤ 4000000 := Nat.le_trans (playB_len _ _) (by rw [List.length_take]; have := HX.out; omega)
   obtain ⟨x, hx⟩ : ∃ x, x = t.ws[k] := ⟨_, rfl⟩
   rw [← hx] at r0 r1 r2 HNX HZ
   clear hx hc
   obtain ⟨F, hF⟩ : ∃ F, F = playB ms (t.ws.take k) := ⟨_, rfl⟩
   rw [← hF] at HO HNX HFA hFl
   clear hF
   obtain ⟨a0, c0, rfl, hgr⟩ := HO.out.row
   have HNN := hide (own_none HO.out)
   have HB1 : Hid (Below w.heap.size w (wr.alloc (.cells #[.string x.1, .string x.2.1, .bool x.2.2] 97))) := HB.out.alloc HB.out.size _
   have Y1 : Hid (Bx (wr.alloc (.cells #[.string x.1, .string x.2.1, .bool x.2.2] 97)) wr.heap.size [.string x.1, .string x.2.1, .bool x.2.2]) := Bx.new wr [.string x.1, .string x.2.1, .bool x.2.2] 97
   have X1 : Hid (Bx (wr.alloc (.cells #[.string x.1, .string x.2.1, .bool x.2.2] 97)) w.heap.size [.int .i64 t.id, .int .i64 t.st, .int .i64 t.snap, .int .i64 t.cs, .slice ra t.rs.length rc, .slice (some ⟨b, off, none⟩) t.ws.length wc, .bool t.out, .string t.nm]) := HXr.out.alloc _
   have O1 := hide (HO.out.alloc (.cells #[.string x.1, .string x.2.1, .bool x.2.2] 97))
   have R1 : Hid (GRow encR (wr.alloc (.cells #[.string x.1, .string x.2.1, .bool x.2.2] 97)) a0 F) := hgr.below ((belowRefl wr).alloc (Nat.le_refl _) _)
   have hsz := HXr.out.lt
   obtain ⟨M, hM⟩ : ∃ M, M = F.length := ⟨_, rfl⟩
   rw [← hM] at hFl HNN O1 ⊢
   have HM : Hid (M = F.length) := hM
   clear hgr hM
   go_upto_region 5 with fail
   clear r0 r1 r2 HO HB HXr hbl
   have hs1 : w.heap.size + 1 ≤ (wr.alloc (.cells #[.string x.1, .string x.2.1, .bool x.2.2] 97)).heap.size := by simp; omega
   generalize (wr.alloc (.cells #[.string x.1, .string x.2.1, .bool x.2.2] 97)) = w1 at *
   have y2 := Y1.out.c2
   cases hgn : x.2.2
   ·rw [hgn] at y2
    go_wp2
    have y0 := Y1.out.c0
    have y1 := Y1.out.c1
    refine wp_region_held_drew (S := fun w' => w'.cell? ⟨wr.heap.size, 0, none⟩ = some (.string x.1) ∧ w'.cell? ⟨wr.heap.size, 1, none⟩ = some (.string x.2.1)) (by kernel_rfl) ⟨y0, y1⟩ (fun hHeld => ?_)
    (refine tk 0 ?_ rfl (Or.inl ⟨by rfl, ?_⟩) ?_; rotate_left; (focus (intro w h; (try dsimp only at h); go_simp; (try with_reducible rfl))); simp only [Act.put, tA, tB, tD, tE, tF])
    (refine tk 2 ?_ rfl (Or.inl ⟨by rfl, ?_⟩) ?_; rotate_left; (focus (intro w h; (try dsimp only at h); go_simp; (try with_reducible rfl))); simp only [Act.put, tA, tB, tC, tD, tE, tF])
    (refine tk 3 ?_ rfl (Or.inl ⟨by rfl, ?_⟩) ?_; rotate_left; (focus (intro w h; (try dsimp only at h); go_simp; (try with_reducible rfl))); simp only [Act.put, tA, tB, tC, tD, tE, tF])
    (refine tk 5 ?_ rfl (Or.inl ⟨by rfl, ?_⟩) ?_; rotate_left; (focus (intro w h; (try dsimp only at h); go_simp; (try with_reducible rfl))); simp only [Act.put, tA, tB, tC, tD, tE, tF])
    (refine tk 6 ?_ rfl (Or.inl ⟨by rfl, ?_⟩) ?_; rotate_left; (focus (intro w h; (try dsimp only at h); go_simp; (try with_reducible rfl))); simp only [Act.put, tA, tB, tC, tD, tE, tF])
    refine wpAnyH_ready (rs := [1]) (by kernel_rfl) (by simp) ?_
    refine AllReadyH.cons rfl (fun K hK => ?_) AllReadyH.nil
    go_simp
    go_wp2_with fail
    refine (bykey35 a0 M c0 _).mono ?_
    rintro e w2 ⟨rfl, hb2⟩
    have hbu2 := undrew hb2
    have HB2 : Hid (Below w.heap.size w w2) := HB1.out.trans (hbu2.mono HB1.out.size)
    have X2 : Hid (Bx w2 w.heap.size [.int .i64 t.id, .int .i64 t.st, .int .i64 t.snap, .int .i64 t.cs, .slice ra t.rs.length rc, .slice (some ⟨b, off, none⟩) t.ws.length wc, .bool t.out, .string t.nm]) := X1.out.below hbu2
    have Y2 : Hid (Bx w2 wr.heap.size [.string x.1, .string x.2.1, .bool x.2.2]) := Y1.out.below hbu2
    have R2 := hide (R1.out.below hbu2)
    have hs2 := Nat.le_trans hs1 hbu2.size
    go_wp2_with fail
    refine hK.out _ _ ⟨Y2.out.c0, Y2.out.c1⟩ (fun hHeld2 => ?_)
    clear hK K hb2 hbu2
    refine wpAnyH_ready (rs := [4]) (by kernel_rfl) (by simp) ?_
    refine AllReadyH.cons rfl (fun K hK => ?_) AllReadyH.nil
    go_simp
    go_wp2_with fail
    refine (clone51 x.1 (by have := HZ.out; omega) _).mono ?_
    rintro e w3 ⟨rfl, hb3⟩
    have hbu3 := hb3
    have HB3 : Hid (Below w.heap.size w w3) := HB2.out.trans (hbu3.mono HB2.out.size)
    have X3 : Hid (Bx w3 w.heap.size [.int .i64 t.id, .int .i64 t.st, .int .i64 t.snap, .int .i64 t.cs, .slice ra t.rs.length rc, .slice (some ⟨b, off, none⟩) t.ws.length wc, .bool t.out, .string t.nm]) := X2.out.below hbu3
    have Y3 : Hid (Bx w3 wr.heap.size [.string x.1, .string x.2.1, .bool x.2.2]) := Y2.out.below hbu3
    have R3 := hide (R2.out.below hbu3)
    have hs3 := Nat.le_trans hs2 hbu3.size
    go_wp2_with fail
    refine hK.out _ _ ⟨Y3.out.c0, Y3.out.c1⟩ (fun hHeld3 => ?_)
    clear hK K hb3 hbu3
    refine wpAnyH_ready (rs := [7]) (by kernel_rfl) (by simp) ?_
    refine AllReadyH.cons rfl (fun K hK => ?_) AllReadyH.nil
    go_simp
    go_wp2_with fail
    refine (clone51 x.2.1 (by have := HZ.out; omega) _).mono ?_
    rintro e w4 ⟨rfl, hb4⟩
    have hbu4 := hb4
    have HB4 : Hid (Below w.heap.size w w4) := HB3.out.trans (hbu4.mono HB3.out.size)
    have X4 : Hid (Bx w4 w.heap.size [.int .i64 t.id, .int .i64 t.st, .int .i64 t.snap, .int .i64 t.cs, .slice ra t.rs.length rc, .slice (some ⟨b, off, none⟩) t.ws.length wc, .bool t.out, .string t.nm]) := X3.out.below hbu4
    have Y4 : Hid (Bx w4 wr.heap.size [.string x.1, .string x.2.1, .bool x.2.2]) := Y3.out.below hbu4
    have R4 := hide (R3.out.below hbu4)
    have hs4 := Nat.le_trans hs3 hbu4.size
    go_wp2_with fail
    refine hK.out _ _ ⟨Y4.out.c0, Y4.out.c1⟩ (fun hHeld4 => ?_)
    clear hK K hb4 hbu4
    (refine tk 8 ?_ rfl (Or.inl ⟨by rfl, ?_⟩) ?_; rotate_left; (focus (intro w h; (try dsimp only at h); go_simp; (try with_reducible rfl))); simp only [Act.put, tA, tB, tC, tD, tE, tF])
    refine wpAnyH_ready (rs := [9]) (by kernel_rfl) (by simp) ?_
    refine AllReadyH.cons rfl (fun K hK => ?_) AllReadyH.nil
    go_simp
    go_wp2_with fail
    refine (iwith F x hgn a0 c0 M HM.out hFl HNN.out HFA.out _ R4.out).mono ?_
    rintro e w5 ⟨a5, c5, L5, rfl, hL5, ho5, hb5⟩
    have hbu5 := hb5
    have HB5 : Hid (Below w.heap.size w w5) := HB4.out.trans (hbu5.mono HB4.out.size)
    have X5 : Hid (Bx w5 w.heap.size [.int .i64 t.id, .int .i64 t.st, .int .i64 t.snap, .int .i64 t.cs, .slice ra t.rs.length rc, .slice (some ⟨b, off, none⟩) t.ws.length wc, .bool t.out, .string t.nm]) := X4.out.below hbu5
    have Y5 : Hid (Bx w5 wr.heap.size [.string x.1, .string x.2.1, .bool x.2.2]) := Y4.out.below hbu5
    have R5 := hide (R4.out.below hbu5)
    have O5 : Hid (GOwn encR 98 w5 (w.heap.size + 1) (.slice a5 L5 c5) (putC F x)) := GOwn.mono ho5 hs4
    clear hL5 ho5
    go_wp2_with fail
    refine hK.out _ _ ⟨Y5.out.c0, Y5.out.c1⟩ (fun hHeld5 => ?_)
    clear hK K hb5 hbu5
    (refine tk 10 ?_ rfl (Or.inl ⟨by rfl, ?_⟩) ?_; rotate_left; (focus (intro w h; (try dsimp only at h); go_simp; (try with_reducible rfl))); simp only [Act.put, tA, tB, tC, tD, tE, tF])
    refine wpAnyH_done (by kernel_rfl) ?_ _
    clear y0 y1 y2
    have O6 : Hid (GOwn encR 98 w5 (w.heap.size + 1) (.slice a5 L5 c5) (playB ms (t.ws.take (k + 1)))) := by
     show GOwn _ _ _ _ _ _
     rw [HNX.out]
     exact O5.out
    go_wp2
    go_roundw
    case rel => exact ⟨k + 1, by omega, by go_num, O6, HB5, X5⟩
    case measure => simp [intOf]; omega
   ·rw [hgn] at y2
    go_wp2
    have y0 := Y1.out.c0
    refine wp_region_held_drew (S := fun w' => w'.cell? ⟨wr.heap.size, 0, none⟩ = some (.string x.1)) (by kernel_rfl) y0 (fun hHeld => ?_)
    (refine tk 0 ?_ rfl (Or.inl ⟨by rfl, ?_⟩) ?_; rotate_left; (focus (intro w h; (try dsimp only at h); go_simp; (try with_reducible rfl))); simp only [Act.put, tA, tB, tD, tE, tF])
    (refine tk 2 ?_ rfl (Or.inl ⟨by rfl, ?_⟩) ?_; rotate_left; (focus (intro w h; (try dsimp only at h); go_simp; (try with_reducible rfl))); simp only [Act.put, tA, tB, tC, tD, tE, tF])
    (refine tk 3 ?_ rfl (Or.inl ⟨by rfl, ?_⟩) ?_; rotate_left; (focus (intro w h; (try dsimp only at h); go_simp; (try with_reducible rfl))); simp only [Act.put, tA, tB, tC, tD, tE, tF])
    refine wpAnyH_ready (rs := [1]) (by kernel_rfl) (by simp) ?_
    refine AllReadyH.cons rfl (fun K hK => ?_) AllReadyH.nil
    go_simp
    go_wp2_with fail
    refine (bykey35 a0 M c0 _).mono ?_
    rintro e w2 ⟨rfl, hb2⟩
    have hbu2 := undrew hb2
    have HB2 : Hid (Below w.heap.size w w2) := HB1.out.trans (hbu2.mono HB1.out.size)
    have X2 : Hid (Bx w2 w.heap.size [.int .i64 t.id, .int .i64 t.st, .int .i64 t.snap, .int .i64 t.cs, .slice ra t.rs.length rc, .slice (some ⟨b, off, none⟩) t.ws.length wc, .bool t.out, .string t.nm]) := X1.out.below hbu2
    have Y2 : Hid (Bx w2 wr.heap.size [.string x.1, .string x.2.1, .bool x.2.2]) := Y1.out.below hbu2
    have R2 := hide (R1.out.below hbu2)
    have hs2 := Nat.le_trans hs1 hbu2.size
    go_wp2_with fail
    refine hK.out _ _ Y2.out.c0 (fun hHeld2 => ?_)
    clear hK K hb2 hbu2
    refine wpAnyH_ready (rs := [4]) (by kernel_rfl) (by simp) ?_
    refine AllReadyH.cons rfl (fun K hK => ?_) AllReadyH.nil
    go_simp
    go_wp2_with fail
    refine (without36 F a0 c0 M HM.out (by omega) x.1 _ R2.out).mono ?_
    rintro e w3 ⟨a3, c3, L3, rfl, hL3, ho3, hb3⟩
    have hbu3 := hb3
    have HB3 : Hid (Below w.heap.size w w3) := HB2.out.trans (hbu3.mono HB2.out.size)
    have X3 : Hid (Bx w3 w.heap.size [.int .i64 t.id, .int .i64 t.st, .int .i64 t.snap, .int .i64 t.cs, .slice ra t.rs.length rc, .slice (some ⟨b, off, none⟩) t.ws.length wc, .bool t.out, .string t.nm]) := X2.out.below hbu3
    have Y3 : Hid (Bx w3 wr.heap.size [.string x.1, .string x.2.1, .bool x.2.2]) := Y2.out.below hbu3
    have R3 := hide (R2.out.below hbu3)
    have O3 : Hid (GOwn encR 98 w3 (w.heap.size + 1) (.slice a3 L3 c3) (F.filter (keepC x.1))) := GOwn.mono ho3 hs2
    clear hL3 ho3
    go_wp2_with fail
    refine hK.out _ _ Y3.out.c0 (fun hHeld3 => ?_)
    clear hK K hb3 hbu3
    (refine tk 5 ?_ rfl (Or.inl ⟨by rfl, ?_⟩) ?_; rotate_left; (focus (intro w h; (try dsimp only at h); go_simp; (try with_reducible rfl))); simp only [Act.put, tA, tB, tC, tD, tE, tF])
    refine wpAnyH_done (by kernel_rfl) ?_ _
    clear y0 y2
    have O6 : Hid (GOwn encR 98 w3 (w.heap.size + 1) (.slice a3 L3 c3) (playB ms (t.ws.take (k + 1)))) := by
     show GOwn _ _ _ _ _ _
     rw [HNX.out, ← keep_put F x hgn]
     exact O3.out
    go_wp2
    go_roundw
    case rel => exact ⟨k + 1, by omega, by go_num, O6, HB3, X3⟩
    case measure => simp [intOf]; omega
  ·have hd : ¬ (k : Int) < (t.ws.length : Int) := by omega
   have HE : Hid (t.ws.take k = t.ws) := List.take_of_length_le (by omega)
   rw [HE.out] at HO
   obtain ⟨a9, c9, rfl, _⟩ := HO.out.row
   obtain ⟨M, hM⟩ : ∃ M, M = (playB ms t.ws).length := ⟨_, rfl⟩
   rw [← hM] at HO ⊢
   have HM : Hid (M = (playB ms t.ws).length) := hM
   clear hM
   go_wp2
   go_ret
   exact ⟨a9, c9, M, rfl, HM.out, GOwn.mono HO.out (Nat.le_succ _), HB.out⟩
end Go.Proofs.YtnmggknpllnjiaaGreat

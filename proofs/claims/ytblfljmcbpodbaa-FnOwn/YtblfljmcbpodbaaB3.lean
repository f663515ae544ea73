/- What spec.OwnScan returns. -/
import Derived.Test.YtblfljmcbpodbaaB2
import Derived.Test.YtblfljmcbpodbaaU1
namespace Go.Proofs.Ytblfljmcbpodbaa
open Go.RowKit
open KM
open VM
attribute [local go_sem ↓] Go.wp_at_zero Go.wp_at_succ

/-- versions, and the keys of the first i writes -/
def allV (vs : List Vr) (ws : List Wt) (i : Nat) : List Vr := vs ++ (ws.take i).map fun x => (x.1, ⟨#[]⟩, false, 0)
theorem allV_more {vs : List Vr} {ws : List Wt} {i : Nat} (h : i < ws.length) : allV vs ws (i + 1) = allV vs ws i ++ [(ws[i].1, ⟨#[]⟩, false, 0)] := by
  unfold allV
  rw [List.take_succ_eq_append_getElem h, List.map_append, List.append_assoc]; rfl
theorem allV_len (vs : List Vr) (ws : List Wt) (i : Nat) : (allV vs ws i).length ≤ vs.length + ws.length := by
  unfold allV
  rw [List.length_append, List.length_map, List.length_take]; omega
theorem allV_keys {vs : List Vr} {ws : List Wt} {i : Nat} (h : ws.length ≤ i) : (allV vs ws i).map (·.1) = vs.map (·.1) ++ ws.map (·.1) := by
  unfold allV
  rw [List.take_of_length_le h, List.map_append, List.map_map]; rfl

set_option maxRecDepth 100000 in
set_option maxHeartbeats 2000000 in
theorem sscanO (t : Tx) (ra wa : Option Addr) (rc wc : Nat) (vs : List Vr) (va : Option Addr) (vc : Nat) (b0 : Nat) (rg : Rg) (hw : t.ws.length ≤ 4000000) (hn : vs.length ≤ 4000000) (w : World) (hp : GRow encW w wa t.ws) (hv : GOwn encV 91 w b0 (.slice va vs.length vc) vs) :
    Calls Try.prog 19 #[.agg #[.int .i64 t.id, .int .i64 t.st, .int .i64 t.snap, .int .i64 t.cs, .slice ra t.rs.length rc, .slice wa t.ws.length wc, .bool t.out, .string t.nm], .slice va vs.length vc, .agg #[.string rg.1, .string rg.2]] w fun e w' => ∃ a1 c1, e = .returned (.slice a1 (scanO t vs rg).length c1) ∧ GOwn encR 41 w' w.heap.size (.slice a1 (scanO t vs rg).length c1) (scanO t vs rg) ∧ Below w.heap.size w w' := by
  have HP : Hid (GRow encW w wa t.ws) := hp
  have HV : Hid (GRow encV w va vs) := hv.grow
  have BT0 : Hid (Bx ((w.alloc (.cells #[.int .i64 t.id, .int .i64 t.st, .int .i64 t.snap, .int .i64 t.cs, .slice ra t.rs.length rc, .slice wa t.ws.length wc, .bool t.out, .string t.nm] 27)).alloc (.cells #[.string rg.1, .string rg.2] 34)) w.heap.size [.int .i64 t.id, .int .i64 t.st, .int .i64 t.snap, .int .i64 t.cs, .slice ra t.rs.length rc, .slice wa t.ws.length wc, .bool t.out, .string t.nm]) := (Bx.new w [.int .i64 t.id, .int .i64 t.st, .int .i64 t.snap, .int .i64 t.cs, .slice ra t.rs.length rc, .slice wa t.ws.length wc, .bool t.out, .string t.nm] 27).alloc _
  have BR0 : Hid (Bx ((w.alloc (.cells #[.int .i64 t.id, .int .i64 t.st, .int .i64 t.snap, .int .i64 t.cs, .slice ra t.rs.length rc, .slice wa t.ws.length wc, .bool t.out, .string t.nm] 27)).alloc (.cells #[.string rg.1, .string rg.2] 34)) (w.heap.size + 1) [.string rg.1, .string rg.2]) := by
    have h := Bx.new (w.alloc (.cells #[.int .i64 t.id, .int .i64 t.st, .int .i64 t.snap, .int .i64 t.cs, .slice ra t.rs.length rc, .slice wa t.ws.length wc, .bool t.out, .string t.nm] 27)) [.string rg.1, .string rg.2] 34
    rw [show (w.alloc (.cells #[.int .i64 t.id, .int .i64 t.st, .int .i64 t.snap, .int .i64 t.cs, .slice ra t.rs.length rc, .slice wa t.ws.length wc, .bool t.out, .string t.nm] 27)).heap.size = w.heap.size + 1 by simp] at h
    exact h
  have HB0 : Hid (Below w.heap.size w ((w.alloc (.cells #[.int .i64 t.id, .int .i64 t.st, .int .i64 t.snap, .int .i64 t.cs, .slice ra t.rs.length rc, .slice wa t.ws.length wc, .bool t.out, .string t.nm] 27)).alloc (.cells #[.string rg.1, .string rg.2] 34))) := ((belowRefl w).alloc (Nat.le_refl _) _).alloc (by simp) _
  have HS0 : Hid (((w.alloc (.cells #[.int .i64 t.id, .int .i64 t.st, .int .i64 t.snap, .int .i64 t.cs, .slice ra t.rs.length rc, .slice wa t.ws.length wc, .bool t.out, .string t.nm] 27)).alloc (.cells #[.string rg.1, .string rg.2] 34)).heap.size = w.heap.size + 1 + 1) := by show _ = _; simp
  have HE0 : Hid (GOwn encV 91 (((w.alloc (.cells #[.int .i64 t.id, .int .i64 t.st, .int .i64 t.snap, .int .i64 t.cs, .slice ra t.rs.length rc, .slice wa t.ws.length wc, .bool t.out, .string t.nm] 27)).alloc (.cells #[.string rg.1, .string rg.2] 34)).alloc (.cells #[] 91)) (w.heap.size + 1 + 1) (.slice (some ⟨w.heap.size + 1 + 1, 0, none⟩) 0 0) []) := by
    have h := GOwn.empty (E := encV) (e := 91) ((w.alloc (.cells #[.int .i64 t.id, .int .i64 t.st, .int .i64 t.snap, .int .i64 t.cs, .slice ra t.rs.length rc, .slice wa t.ws.length wc, .bool t.out, .string t.nm] 27)).alloc (.cells #[.string rg.1, .string rg.2] 34)) (w.heap.size + 1 + 1) (by rw [HS0.out]; exact Nat.le_refl _)
    rw [HS0.out] at h
    exact h
  have HSrc : Hid ((va = none ∧ vs.length = 0 ∧ vc = 0) ∨ ∃ ad, va = some ad ∧ ∀ j u, (encV.cells vs)[j]? = some u → (((w.alloc (.cells #[.int .i64 t.id, .int .i64 t.st, .int .i64 t.snap, .int .i64 t.cs, .slice ra t.rs.length rc, .slice wa t.ws.length wc, .bool t.out, .string t.nm] 27)).alloc (.cells #[.string rg.1, .string rg.2] 34)).alloc (.cells #[] 91)).cell? (ad.add j) = some u) := by
    have h1 := ((hv.alloc (.cells #[.int .i64 t.id, .int .i64 t.st, .int .i64 t.snap, .int .i64 t.cs, .slice ra t.rs.length rc, .slice wa t.ws.length wc, .bool t.out, .string t.nm] 27)).alloc (.cells #[.string rg.1, .string rg.2] 34)).alloc (.cells #[] 91)
    rcases gown_shape hv with ⟨e1, e2⟩ | ⟨g1, cap1, e1, hcap⟩
    · subst e2
      cases e1
      exact Or.inl ⟨rfl, rfl, rfl⟩
    · cases e1
      refine Or.inr ⟨_, rfl, ?_⟩
      have h2 := drop_cells h1 0 (Nat.zero_le _)
      simpa using h2
  clear hp hv
  have HBe : Hid (Below (w.heap.size + 1 + 1) ((w.alloc (.cells #[.int .i64 t.id, .int .i64 t.st, .int .i64 t.snap, .int .i64 t.cs, .slice ra t.rs.length rc, .slice wa t.ws.length wc, .bool t.out, .string t.nm] 27)).alloc (.cells #[.string rg.1, .string rg.2] 34)) (((w.alloc (.cells #[.int .i64 t.id, .int .i64 t.st, .int .i64 t.snap, .int .i64 t.cs, .slice ra t.rs.length rc, .slice wa t.ws.length wc, .bool t.out, .string t.nm] 27)).alloc (.cells #[.string rg.1, .string rg.2] 34)).alloc (.cells #[] 91))) := by
    have h := (belowRefl ((w.alloc (.cells #[.int .i64 t.id, .int .i64 t.st, .int .i64 t.snap, .int .i64 t.cs, .slice ra t.rs.length rc, .slice wa t.ws.length wc, .bool t.out, .string t.nm] 27)).alloc (.cells #[.string rg.1, .string rg.2] 34))).alloc (Nat.le_refl _) (.cells #[] 91)
    rw [HS0.out] at h
    exact h
  have hsz0 : w.heap.size + 1 + 1 ≤ (((w.alloc (.cells #[.int .i64 t.id, .int .i64 t.st, .int .i64 t.snap, .int .i64 t.cs, .slice ra t.rs.length rc, .slice wa t.ws.length wc, .bool t.out, .string t.nm] 27)).alloc (.cells #[.string rg.1, .string rg.2] 34)).alloc (.cells #[] 91)).heap.size := by rw [World.size_alloc, HS0.out]; omega
  go_enter Try.func19, Try.ntmps19
  go_wp2_with (at_builtin; refine wpAppRowV (v := .slice (some ⟨w.heap.size + 1 + 1, 0, none⟩) 0 0) rfl _ _ rfl rfl HE0.out rfl HSrc.out rfl (by simp; omega) hsz0 (fun h => by cases h) ?_)
  intro g1 cap1 L1 w1 hL1 ho1 hb1
  have HO1 : Hid (GOwn encV 91 w1 (w.heap.size + 1 + 1) (.slice (some ⟨g1, 0, none⟩) L1 cap1) (allV vs t.ws 0)) := by show GOwn _ _ _ _ _ _; simpa [allV] using ho1
  have HB1 : Hid (Below (w.heap.size + 1 + 1) ((w.alloc (.cells #[.int .i64 t.id, .int .i64 t.st, .int .i64 t.snap, .int .i64 t.cs, .slice ra t.rs.length rc, .slice wa t.ws.length wc, .bool t.out, .string t.nm] 27)).alloc (.cells #[.string rg.1, .string rg.2] 34)) w1) := HBe.out.trans hb1
  clear hL1 ho1 hb1 HE0 HSrc HBe hsz0
  go_wp2
  rw [← HS0.out] at HO1 HB1
  generalize (w.alloc (.cells #[.int .i64 t.id, .int .i64 t.st, .int .i64 t.snap, .int .i64 t.cs, .slice ra t.rs.length rc, .slice wa t.ws.length wc, .bool t.out, .string t.nm] 27)).alloc (.cells #[.string rg.1, .string rg.2] 34) = W0 at *
  go_loopw [7, 8] (fun v n wr => ∃ i : Nat, i ≤ t.ws.length ∧ n = .int .i64 i ∧ Hid (GOwn encV 91 wr W0.heap.size v (allV vs t.ws i)) ∧ Hid (Below W0.heap.size W0 wr)) (fun _ n _ => t.ws.length - (intOf n).toNat)
  case atStart => exact ⟨0, Nat.zero_le _, rfl, HO1, HB1⟩
  case round =>
    clear HO1 HB1
    obtain ⟨i, hi, rfl, HO, HB⟩ := hrel
    have x5 := (BT0.out.below HB.out).c5
    have HBw : Hid (Below w.heap.size w wr) := HB0.out.trans (HB.out.mono HB0.out.size)
    by_cases hlt : i < t.ws.length
    · have hlt' : (i : Int) < (t.ws.length : Int) := by omega
      have hi0 : (0 : Int) ≤ (i : Int) := by omega
      obtain ⟨b, off, rfl, hbl, hc⟩ := (HP.out.below HBw.out) (by omega)
      have r0 := (wat hc i hlt).1
      clear hc
      have hll : (allV vs t.ws i).length ≤ 100000000 := Nat.le_trans (allV_len _ _ _) (by omega)
      have HE : Hid (allV vs t.ws (i + 1) = allV vs t.ws i ++ [(t.ws[i].1, ⟨#[]⟩, false, 0)]) := allV_more hlt
      go_wp2_with (at_builtin; refine wpAppV rfl _ _ rfl (t.ws[i].1, ⟨#[]⟩, false, 0) rfl HO.out rfl hll HB.out.size ?_)
      intro v' w' ho' hb'
      have HO3 : Hid (GOwn encV 91 w' W0.heap.size v' (allV vs t.ws (i + 1))) := by
        show GOwn _ _ _ _ _ _
        rw [HE.out]; exact ho'
      have HB3 : Hid (Below W0.heap.size W0 w') := HB.out.trans hb'
      clear ho' hb'
      go_wp2
      go_roundw
      case rel => exact ⟨i + 1, by omega, by go_num, HO3, HB3⟩
      case measure => simp [intOf]; omega
    · have hlt' : ¬ (i : Int) < (t.ws.length : Int) := by omega
      obtain ⟨wA, rfl⟩ : ∃ wA, wA = wr := ⟨_, rfl⟩
      have HK : Hid ((allV vs t.ws i).map (·.1) = vs.map (·.1) ++ t.ws.map (·.1)) := allV_keys (by omega)
      have hal : (allV vs t.ws i).length ≤ 10000000 := Nat.le_trans (allV_len _ _ _) (by omega)
      have ho := HO.out
      obtain ⟨aa, ac, hav, _⟩ := ho.row
      rw [hav] at ho
      have HA : Hid (GRow encV wA aa (allV vs t.ws i)) := ho.grow
      subst hav
      generalize allV vs t.ws i = al at HK hal HA
      have BTA := hide (BT0.out.below HB.out)
      have BRA := hide (BR0.out.below HB.out)
      have HOo : Hid (GOwn encR 41 (wA.alloc (.cells #[] 41)) wA.heap.size (.slice (some ⟨wA.heap.size, 0, none⟩) 0 0) []) := GOwn.empty wA _ (Nat.le_refl _)
      have HBo : Hid (Below wA.heap.size wA (wA.alloc (.cells #[] 41))) := (belowRefl wA).alloc (Nat.le_refl _) _
      have y0 := (BRA.out.below HBo.out).c0
      have y1 := (BRA.out.below HBo.out).c1
      clear ho HO HB
      go_wp2_with fail
      clear x5
      generalize wA.alloc (.cells #[] 41) = W1 at *
      refine (keys69 al aa ac rg hal _ (HA.out.below HBo.out)).mono ?_
      rintro e w1 ⟨ao, cap, rfl, hr, hb1⟩
      rw [HK.out] at hr ⊢
      have HL : Hid (scanO t vs rg = ((keysB (vs.map (·.1) ++ t.ws.map (·.1))).filter (inB rg)).filterMap (ownF t vs)) := rfl
      have hkl : ((keysB (vs.map (·.1) ++ t.ws.map (·.1))).filter (inB rg)).length ≤ 10000000 := by
        refine Nat.le_trans (List.length_filter_le _ _) (Nat.le_trans (keys_len _) ?_)
        rw [List.length_append, List.length_map, List.length_map]; omega
      generalize (keysB (vs.map (·.1) ++ t.ws.map (·.1))).filter (inB rg) = ks at hr HL hkl ⊢
      have HR : Hid (Lies encS 9 w1 W1.heap.size w1.heap.size (.slice ao ks.length cap) ks) := Lies.of hr
      have HO1 := hide (HOo.out.below hb1)
      have HA1 := hide (away_of HOo.out w1.heap.size)
      have HB1 : Hid (Below wA.heap.size wA w1) := HBo.out.trans (hb1.mono HBo.out.size)
      clear hr hb1 y0 y1 HOo HBo HA HK BRA
      go_wp2
      go_loopw [9, 11] (fun v n wr => ∃ i : Nat, i ≤ ks.length ∧ n = .int .i64 i ∧ Hid (GOwn encR 41 wr wA.heap.size v ((ks.take i).filterMap (ownF t vs))) ∧ Hid (GRow encS wr ao ks) ∧ Hid (Away v W1.heap.size w1.heap.size) ∧ Hid (w1.heap.size ≤ wr.heap.size) ∧ Hid (Below wA.heap.size wA wr)) (fun _ n _ => ks.length - (intOf n).toNat)
      case atStart => exact ⟨0, Nat.zero_le _, rfl, HO1, HR.out.own.grow, HA1, Nat.le_refl _, HB1⟩
      case round =>
        clear HO1 HA1 HB1
        obtain ⟨i, hi, rfl, HO, HRi, HAv, HSr, HB⟩ := hrel
        by_cases hlt : i < ks.length
        · have hlt' : (i : Int) < (ks.length : Int) := by omega
          have hi0 : (0 : Int) ≤ (i : Int) := by omega
          obtain ⟨b, off, rfl, hbl, hc⟩ := HRi.out (by omega)
          have HK : Hid (wr.cell? ⟨b, off + i, none⟩ = some (.string ks[i])) := sat hc i hlt
          clear hc
          have BTr := hide (BTA.out.below HB.out)
          have HBw2 : Hid (Below w.heap.size w wr) := HBw.out.trans (HB.out.mono HBw.out.size)
          have hll : ((ks.take i).filterMap (ownF t vs)).length ≤ 100000000 := Nat.le_trans (fmap_len _ _) (by rw [List.length_take]; omega)
          have CI : Hid (∀ w, GRow encW w wa t.ws → GRow encV w va vs → Calls Try.prog 36 #[.agg #[.int .i64 t.id, .int .i64 t.st, .int .i64 t.snap, .int .i64 t.cs, .slice ra t.rs.length rc, .slice wa t.ws.length wc, .bool t.out, .string t.nm], .slice va vs.length vc, .string ks[i]] w fun e w' => e = .returned (sawB (ownB t vs ks[i])) ∧ Below w.heap.size w w') := fun w h1 h2 => sown t ra wa rc wc vs va vc ks[i] (by omega) (by omega) w h1 h2
          cases hs : ownB t vs ks[i] with
          | none =>
            rw [hs, sawB_none] at CI
            go_wp2
            refine wp_region_held_drew (S := fun w' => w'.cell? ⟨w.heap.size, 0, none⟩ = some (.int .i64 t.id) ∧ w'.cell? ⟨w.heap.size, 1, none⟩ = some (.int .i64 t.st) ∧ w'.cell? ⟨w.heap.size, 2, none⟩ = some (.int .i64 t.snap) ∧ w'.cell? ⟨w.heap.size, 3, none⟩ = some (.int .i64 t.cs) ∧ w'.cell? ⟨w.heap.size, 4, none⟩ = some (.slice ra t.rs.length rc) ∧ w'.cell? ⟨w.heap.size, 5, none⟩ = some (.slice wa t.ws.length wc) ∧ w'.cell? ⟨w.heap.size, 6, none⟩ = some (.bool t.out) ∧ w'.cell? ⟨w.heap.size, 7, none⟩ = some (.string t.nm) ∧ w'.cell? ⟨b, off + i, none⟩ = some (.string ks[i])) (by kernel_rfl) ⟨BTr.out.c0, BTr.out.c1, BTr.out.c2, BTr.out.c3, BTr.out.c4, BTr.out.c5, BTr.out.c6, BTr.out.c7, HK.out⟩ (fun hHeld => ?_)
            (refine wpAnyH_take (i := 0) (v := ?_) rfl (by kernel_rfl) (by kernel_rfl) (by kernel_rfl) (fun _ _ _ h => h) (Or.inl ⟨by rfl, ?_⟩) (by assumption) ?_; rotate_left; (focus (intro w hSw; (try dsimp only at hSw); go_simp; (try with_reducible rfl); done)); simp only [Act.put, List.getElem_toArray, List.getElem_cons_zero, List.setIfInBounds_toArray, List.set_cons_zero, List.set_cons_succ])
            (refine wpAnyH_take (i := 1) (v := ?_) rfl (by kernel_rfl) (by kernel_rfl) (by kernel_rfl) (fun _ _ _ h => h) (Or.inl ⟨by rfl, ?_⟩) (by assumption) ?_; rotate_left; (focus (intro w hSw; (try dsimp only at hSw); go_simp; (try with_reducible rfl); done)); simp only [Act.put, List.getElem_toArray, List.getElem_cons_zero, List.getElem_cons_succ, List.setIfInBounds_toArray, List.set_cons_zero, List.set_cons_succ])
            (refine wpAnyH_take (i := 2) (v := ?_) rfl (by kernel_rfl) (by kernel_rfl) (by kernel_rfl) (fun _ _ _ h => h) (Or.inl ⟨by rfl, ?_⟩) (by assumption) ?_; rotate_left; (focus (intro w hSw; (try dsimp only at hSw); go_simp; (try with_reducible rfl); done)); simp only [Act.put, List.getElem_toArray, List.getElem_cons_zero, List.getElem_cons_succ, List.setIfInBounds_toArray, List.set_cons_zero, List.set_cons_succ])
            (refine wpAnyH_take (i := 3) (v := ?_) rfl (by kernel_rfl) (by kernel_rfl) (by kernel_rfl) (fun _ _ _ h => h) (Or.inl ⟨by rfl, ?_⟩) (by assumption) ?_; rotate_left; (focus (intro w hSw; (try dsimp only at hSw); go_simp; (try with_reducible rfl); done)); simp only [Act.put, List.getElem_toArray, List.getElem_cons_zero, List.getElem_cons_succ, List.setIfInBounds_toArray, List.set_cons_zero, List.set_cons_succ])
            (refine wpAnyH_take (i := 4) (v := ?_) rfl (by kernel_rfl) (by kernel_rfl) (by kernel_rfl) (fun _ _ _ h => h) (Or.inl ⟨by rfl, ?_⟩) (by assumption) ?_; rotate_left; (focus (intro w hSw; (try dsimp only at hSw); go_simp; (try with_reducible rfl); done)); simp only [Act.put, List.getElem_toArray, List.getElem_cons_zero, List.getElem_cons_succ, List.setIfInBounds_toArray, List.set_cons_zero, List.set_cons_succ])
            (refine wpAnyH_take (i := 5) (v := ?_) rfl (by kernel_rfl) (by kernel_rfl) (by kernel_rfl) (fun _ _ _ h => h) (Or.inl ⟨by rfl, ?_⟩) (by assumption) ?_; rotate_left; (focus (intro w hSw; (try dsimp only at hSw); go_simp; (try with_reducible rfl); done)); simp only [Act.put, List.getElem_toArray, List.getElem_cons_zero, List.getElem_cons_succ, List.setIfInBounds_toArray, List.set_cons_zero, List.set_cons_succ])
            refine wpAnyH_ready (rs := [6]) (by kernel_rfl) (by simp) ?_
            refine AllReadyH.cons rfl (fun K hK => ?_) AllReadyH.nil
            go_simp
            go_wp2_with fail
            refine (CI.out _ (HP.out.below HBw2.out).drew (HV.out.below HBw2.out).drew).mono ?_
            rintro e w2 ⟨rfl, hb2'⟩
            have hb2 := undrew hb2'
            have BT2 := hide (BTr.out.below hb2)
            have HO2 := hide (HO.out.below hb2)
            have HR2 := hide (HRi.out.below hb2)
            have HB2 : Hid (Below wA.heap.size wA w2) := HB.out.trans (hb2.mono HB.out.size)
            have HS2 : Hid (w1.heap.size ≤ w2.heap.size) := Nat.le_trans HSr.out hb2.size
            have HK2 : Hid (w2.cell? ⟨b, off + i, none⟩ = some (.string ks[i])) := (hb2.cell (p := ⟨b, off + i, none⟩) hbl).trans HK.out
            clear hb2 hb2' HO HRi HB
            go_wp2_with fail
            refine hK.out _ _ ⟨BT2.out.c0, BT2.out.c1, BT2.out.c2, BT2.out.c3, BT2.out.c4, BT2.out.c5, BT2.out.c6, BT2.out.c7, HK2.out⟩ (fun hHeld2 => ?_)
            clear hK K
            (refine wpAnyH_take (i := 7) (v := ?_) rfl (by kernel_rfl) (by kernel_rfl) (by kernel_rfl) (fun _ _ _ h => h) (Or.inl ⟨by rfl, ?_⟩) (by assumption) ?_; rotate_left; (focus (intro w hSw; (try dsimp only at hSw); go_simp; (try with_reducible rfl); done)); simp only [Act.put, List.getElem_toArray, List.getElem_cons_zero, List.getElem_cons_succ, List.setIfInBounds_toArray, List.set_cons_zero, List.set_cons_succ])
            (refine wpAnyH_take (i := 8) (v := ?_) rfl (by kernel_rfl) (by kernel_rfl) (by kernel_rfl) (fun _ _ _ h => h) (Or.inl ⟨by rfl, ?_⟩) (by assumption) ?_; rotate_left; (focus (intro w hSw; (try dsimp only at hSw); go_simp; (try with_reducible rfl); done)); simp only [Act.put, List.getElem_toArray, List.getElem_cons_zero, List.getElem_cons_succ, List.setIfInBounds_toArray, List.set_cons_zero, List.set_cons_succ])
            (refine wpAnyH_take (i := 9) (v := ?_) rfl (by kernel_rfl) (by kernel_rfl) (by kernel_rfl) (fun _ _ _ h => h) (Or.inl ⟨by rfl, ?_⟩) (by assumption) ?_; rotate_left; (focus (intro w hSw; (try dsimp only at hSw); go_simp; (try with_reducible rfl); done)); simp only [Act.put, List.getElem_toArray, List.getElem_cons_zero, List.getElem_cons_succ, List.setIfInBounds_toArray, List.set_cons_zero, List.set_cons_succ])
            (refine wpAnyH_take (i := 10) (v := ?_) rfl (by kernel_rfl) (by kernel_rfl) (by kernel_rfl) (fun _ _ _ h => h) (Or.inl ⟨by rfl, ?_⟩) (by assumption) ?_; rotate_left; (focus (intro w hSw; (try dsimp only at hSw); go_simp; (try with_reducible rfl); done)); simp only [Act.put, List.getElem_toArray, List.getElem_cons_zero, List.getElem_cons_succ, List.setIfInBounds_toArray, List.set_cons_zero, List.set_cons_succ])
            (refine wpAnyH_take (i := 11) (v := ?_) rfl (by kernel_rfl) (by kernel_rfl) (by kernel_rfl) (fun _ _ _ h => h) (Or.inl ⟨by rfl, ?_⟩) (by assumption) ?_; rotate_left; (focus (intro w hSw; (try dsimp only at hSw); go_simp; (try with_reducible rfl); done)); simp only [Act.put, List.getElem_toArray, List.getElem_cons_zero, List.getElem_cons_succ, List.setIfInBounds_toArray, List.set_cons_zero, List.set_cons_succ])
            refine wpAnyH_done (by kernel_rfl) ?_ _
            have ho2 := HO2.out
            rw [← fm_no (f := ownF t vs) hlt (by unfold ownF; rw [hs]; rfl)] at ho2
            have HO3 := hide ho2
            clear ho2 hs HO2
            go_wp2
            go_roundw
            case rel => exact ⟨i + 1, by omega, by go_num, HO3, HR2, HAv, HS2, HB2⟩
            case measure => simp [intOf]; omega
          | some val =>
            rw [hs, sawB_some] at CI
            have HP2 : Hid ((ks.take (i + 1)).filterMap (ownF t vs) = (ks.take i).filterMap (ownF t vs) ++ [(ks[i], val)]) := fm_yes hlt (by unfold ownF; rw [hs]; rfl)
            clear hs
            go_wp2
            refine wp_region_held_drew (S := fun w' => w'.cell? ⟨w.heap.size, 0, none⟩ = some (.int .i64 t.id) ∧ w'.cell? ⟨w.heap.size, 1, none⟩ = some (.int .i64 t.st) ∧ w'.cell? ⟨w.heap.size, 2, none⟩ = some (.int .i64 t.snap) ∧ w'.cell? ⟨w.heap.size, 3, none⟩ = some (.int .i64 t.cs) ∧ w'.cell? ⟨w.heap.size, 4, none⟩ = some (.slice ra t.rs.length rc) ∧ w'.cell? ⟨w.heap.size, 5, none⟩ = some (.slice wa t.ws.length wc) ∧ w'.cell? ⟨w.heap.size, 6, none⟩ = some (.bool t.out) ∧ w'.cell? ⟨w.heap.size, 7, none⟩ = some (.string t.nm) ∧ w'.cell? ⟨b, off + i, none⟩ = some (.string ks[i])) (by kernel_rfl) ⟨BTr.out.c0, BTr.out.c1, BTr.out.c2, BTr.out.c3, BTr.out.c4, BTr.out.c5, BTr.out.c6, BTr.out.c7, HK.out⟩ (fun hHeld => ?_)
            (refine wpAnyH_take (i := 0) (v := ?_) rfl (by kernel_rfl) (by kernel_rfl) (by kernel_rfl) (fun _ _ _ h => h) (Or.inl ⟨by rfl, ?_⟩) (by assumption) ?_; rotate_left; (focus (intro w hSw; (try dsimp only at hSw); go_simp; (try with_reducible rfl); done)); simp only [Act.put, List.getElem_toArray, List.getElem_cons_zero, List.setIfInBounds_toArray, List.set_cons_zero, List.set_cons_succ])
            (refine wpAnyH_take (i := 1) (v := ?_) rfl (by kernel_rfl) (by kernel_rfl) (by kernel_rfl) (fun _ _ _ h => h) (Or.inl ⟨by rfl, ?_⟩) (by assumption) ?_; rotate_left; (focus (intro w hSw; (try dsimp only at hSw); go_simp; (try with_reducible rfl); done)); simp only [Act.put, List.getElem_toArray, List.getElem_cons_zero, List.getElem_cons_succ, List.setIfInBounds_toArray, List.set_cons_zero, List.set_cons_succ])
            (refine wpAnyH_take (i := 2) (v := ?_) rfl (by kernel_rfl) (by kernel_rfl) (by kernel_rfl) (fun _ _ _ h => h) (Or.inl ⟨by rfl, ?_⟩) (by assumption) ?_; rotate_left; (focus (intro w hSw; (try dsimp only at hSw); go_simp; (try with_reducible rfl); done)); simp only [Act.put, List.getElem_toArray, List.getElem_cons_zero, List.getElem_cons_succ, List.setIfInBounds_toArray, List.set_cons_zero, List.set_cons_succ])
            (refine wpAnyH_take (i := 3) (v := ?_) rfl (by kernel_rfl) (by kernel_rfl) (by kernel_rfl) (fun _ _ _ h => h) (Or.inl ⟨by rfl, ?_⟩) (by assumption) ?_; rotate_left; (focus (intro w hSw; (try dsimp only at hSw); go_simp; (try with_reducible rfl); done)); simp only [Act.put, List.getElem_toArray, List.getElem_cons_zero, List.getElem_cons_succ, List.setIfInBounds_toArray, List.set_cons_zero, List.set_cons_succ])
            (refine wpAnyH_take (i := 4) (v := ?_) rfl (by kernel_rfl) (by kernel_rfl) (by kernel_rfl) (fun _ _ _ h => h) (Or.inl ⟨by rfl, ?_⟩) (by assumption) ?_; rotate_left; (focus (intro w hSw; (try dsimp only at hSw); go_simp; (try with_reducible rfl); done)); simp only [Act.put, List.getElem_toArray, List.getElem_cons_zero, List.getElem_cons_succ, List.setIfInBounds_toArray, List.set_cons_zero, List.set_cons_succ])
            (refine wpAnyH_take (i := 5) (v := ?_) rfl (by kernel_rfl) (by kernel_rfl) (by kernel_rfl) (fun _ _ _ h => h) (Or.inl ⟨by rfl, ?_⟩) (by assumption) ?_; rotate_left; (focus (intro w hSw; (try dsimp only at hSw); go_simp; (try with_reducible rfl); done)); simp only [Act.put, List.getElem_toArray, List.getElem_cons_zero, List.getElem_cons_succ, List.setIfInBounds_toArray, List.set_cons_zero, List.set_cons_succ])
            refine wpAnyH_ready (rs := [6]) (by kernel_rfl) (by simp) ?_
            refine AllReadyH.cons rfl (fun K hK => ?_) AllReadyH.nil
            go_simp
            go_wp2_with fail
            refine (CI.out _ (HP.out.below HBw2.out).drew (HV.out.below HBw2.out).drew).mono ?_
            rintro e w2 ⟨rfl, hb2'⟩
            have hb2 := undrew hb2'
            have BT2 := hide (BTr.out.below hb2)
            have HO2 := hide (HO.out.below hb2)
            have HR2 := hide (HRi.out.below hb2)
            have HB2 : Hid (Below wA.heap.size wA w2) := HB.out.trans (hb2.mono HB.out.size)
            have HS2 : Hid (w1.heap.size ≤ w2.heap.size) := Nat.le_trans HSr.out hb2.size
            have HK2 : Hid (w2.cell? ⟨b, off + i, none⟩ = some (.string ks[i])) := (hb2.cell (p := ⟨b, off + i, none⟩) hbl).trans HK.out
            clear hb2 hb2' HO HRi HB
            go_wp2_with fail
            refine hK.out _ _ ⟨BT2.out.c0, BT2.out.c1, BT2.out.c2, BT2.out.c3, BT2.out.c4, BT2.out.c5, BT2.out.c6, BT2.out.c7, HK2.out⟩ (fun hHeld2 => ?_)
            clear hK K
            (refine wpAnyH_take (i := 7) (v := ?_) rfl (by kernel_rfl) (by kernel_rfl) (by kernel_rfl) (fun _ _ _ h => h) (Or.inl ⟨by rfl, ?_⟩) (by assumption) ?_; rotate_left; (focus (intro w hSw; (try dsimp only at hSw); go_simp; (try with_reducible rfl); done)); simp only [Act.put, List.getElem_toArray, List.getElem_cons_zero, List.getElem_cons_succ, List.setIfInBounds_toArray, List.set_cons_zero, List.set_cons_succ])
            (refine wpAnyH_take (i := 8) (v := ?_) rfl (by kernel_rfl) (by kernel_rfl) (by kernel_rfl) (fun _ _ _ h => h) (Or.inl ⟨by rfl, ?_⟩) (by assumption) ?_; rotate_left; (focus (intro w hSw; (try dsimp only at hSw); go_simp; (try with_reducible rfl); done)); simp only [Act.put, List.getElem_toArray, List.getElem_cons_zero, List.getElem_cons_succ, List.setIfInBounds_toArray, List.set_cons_zero, List.set_cons_succ])
            (refine wpAnyH_take (i := 9) (v := ?_) rfl (by kernel_rfl) (by kernel_rfl) (by kernel_rfl) (fun _ _ _ h => h) (Or.inl ⟨by rfl, ?_⟩) (by assumption) ?_; rotate_left; (focus (intro w hSw; (try dsimp only at hSw); go_simp; (try with_reducible rfl); done)); simp only [Act.put, List.getElem_toArray, List.getElem_cons_zero, List.getElem_cons_succ, List.setIfInBounds_toArray, List.set_cons_zero, List.set_cons_succ])
            (refine wpAnyH_take (i := 10) (v := ?_) rfl (by kernel_rfl) (by kernel_rfl) (by kernel_rfl) (fun _ _ _ h => h) (Or.inl ⟨by rfl, ?_⟩) (by assumption) ?_; rotate_left; (focus (intro w hSw; (try dsimp only at hSw); go_simp; (try with_reducible rfl); done)); simp only [Act.put, List.getElem_toArray, List.getElem_cons_zero, List.getElem_cons_succ, List.setIfInBounds_toArray, List.set_cons_zero, List.set_cons_succ])
            (refine wpAnyH_take (i := 11) (v := ?_) rfl (by kernel_rfl) (by kernel_rfl) (by kernel_rfl) (fun _ _ _ h => h) (Or.inl ⟨by rfl, ?_⟩) (by assumption) ?_; rotate_left; (focus (intro w hSw; (try dsimp only at hSw); go_simp; (try with_reducible rfl); done)); simp only [Act.put, List.getElem_toArray, List.getElem_cons_zero, List.getElem_cons_succ, List.setIfInBounds_toArray, List.set_cons_zero, List.set_cons_succ])
            refine wpAnyH_done (by kernel_rfl) ?_ _
            have k2 := HK2.out
            go_wp2_with (at_builtin; refine wpAppKP rfl _ _ rfl (ks[i], val) rfl HO2.out rfl hll HB2.out.size ?_)
            intro v' w' ho' hb' hg' hv'
            have HR3 : Hid (GRow encS w' (some ⟨b, off, none⟩) ks) := HR2.out.grown hg' (fun b1 off1 e he => by
              have h1 := HR.out.lo b1 (by cases e; rfl)
              rcases HAv.out b1 he with h | h <;> omega)
            have HA3 : Hid (Away v' W1.heap.size w1.heap.size) := HAv.out.next HS2.out hv'
            have HS3 : Hid (w1.heap.size ≤ w'.heap.size) := Nat.le_trans HS2.out hg'.size
            have HO3 : Hid (GOwn encR 41 w' wA.heap.size v' ((ks.take (i + 1)).filterMap (ownF t vs))) := by
              show GOwn _ _ _ _ _ _
              rw [HP2.out]; exact ho'
            have HB3 : Hid (Below wA.heap.size wA w') := HB2.out.trans hb'
            clear ho' hb' hg' hv' k2
            go_wp2
            go_roundw
            case rel => exact ⟨i + 1, by omega, by go_num, HO3, HR3, HA3, HS3, HB3⟩
            case measure => simp [intOf]; omega
        · have hlt' : ¬ (i : Int) < (ks.length : Int) := by omega
          have ho := HO.out
          rw [List.take_of_length_le (by omega), ← HL.out] at ho
          obtain ⟨a1, c1, rfl, _⟩ := ho.row
          have HO1 : Hid (GOwn encR 41 wr w.heap.size (.slice a1 (scanO t vs rg).length c1) (scanO t vs rg)) := ho.mono HBw.out.size
          have HB2 : Hid (Below w.heap.size w wr) := HBw.out.trans (HB.out.mono HBw.out.size)
          clear ho HO
          go_wp2
          go_ret
          exact ⟨a1, c1, rfl, HO1.out, HB2.out⟩
end Go.Proofs.Ytblfljmcbpodbaa

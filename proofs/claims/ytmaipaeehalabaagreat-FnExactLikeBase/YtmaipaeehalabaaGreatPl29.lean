/- What SameFrom returns, on both sides. -/
import Derived.Test.YtmaipaeehalabaaGreatPl01
import Derived.Test.YtmaipaeehalabaaGreatPl28
namespace Go.Proofs.YtmaipaeehalabaaGreat
open Go.RowKit
open KM
open VM
attribute [local go_sem ↓] Go.wp_at_zero Go.wp_at_succ

def eqAt (xs ys : List Vr) (z : Int) : Bool := decide (scanB xs allR z = scanB ys allR z)
def sameB (xs ys : List Vr) (s : Int) : Bool := eqAt xs ys s && (xs ++ ys).all fun v => !decide (s < v.2.2.2) || eqAt xs ys v.2.2.2
theorem same_of {xs ys : List Vr} {s : Int} {zs : List Int} (h : ∀ z, z ∈ zs ↔ z = s ∨ (s < z ∧ ∃ v ∈ xs ++ ys, v.2.2.2 = z)) : sameB xs ys s = zs.all (eqAt xs ys) := by
  rw [Bool.eq_iff_iff]
  unfold sameB
  rw [Bool.and_eq_true, List.all_eq_true, List.all_eq_true]
  constructor
  · rintro ⟨h1, h2⟩ z hz
    rcases (h z).1 hz with rfl | ⟨h3, v, hv, rfl⟩
    · exact h1
    · have := h2 v hv
      simpa [h3] using this
  · intro h1
    refine ⟨h1 s ((h s).2 (Or.inl rfl)), fun v hv => ?_⟩
    by_cases h3 : s < v.2.2.2
    · simp [h3, h1 v.2.2.2 ((h _).2 (Or.inr ⟨h3, v, hv, rfl⟩))]
    · simp [h3]
theorem all_no {xs ys : List Vr} {zs : List Int} {i : Nat} (hi : i < zs.length) (h : eqAt xs ys zs[i] = false) : zs.all (eqAt xs ys) = false := by
  rw [Bool.eq_false_iff]
  intro h2
  rw [List.all_eq_true] at h2
  have := h2 zs[i] (List.getElem_mem hi)
  rw [h] at this; cases this
theorem all_yes {xs ys : List Vr} {zs : List Int} (h : ∀ j (hj : j < zs.length), eqAt xs ys zs[j] = true) : zs.all (eqAt xs ys) = true := by
  rw [List.all_eq_true]
  intro z hz
  obtain ⟨j, hj, rfl⟩ := List.getElem_of_mem hz
  exact h j hj

set_option maxRecDepth 100000 in
set_option maxHeartbeats 4000000 in
theorem isame (xs ys : List Vr) (a1 a2 : Option Addr) (c1 c2 : Nat) (s : Int) (hn : xs.length ≤ 10000000) (hm : ys.length ≤ 10000000) (hf : VFit xs) (hg : VFit ys) (w : World) (h1 : GRow encV w a1 xs) (h2 : GRow encV w a2 ys) :
    Calls Tryz.prog 16 #[.slice a1 xs.length c1, .slice a2 ys.length c2, .int .i64 s] w fun e w' => e = .returned (.bool (sameB xs ys s)) ∧ Below w.heap.size w w' := by
  have H1 : Hid (GRow encV w a1 xs) := h1
  have H2 : Hid (GRow encV w a2 ys) := h2
  have F1 : Hid (VFit xs) := hf
  have F2 : Hid (VFit ys) := hg
  clear h1 h2 hf hg
  go_enter Tryz.func16, Tryz.ntmps16
  go_wp2_with fail
  refine (chain45 xs a1 c1 (by omega) _ H1.out).mono ?_
  rintro e w1 ⟨rfl, ⟨r1, n1, hc1, hv1⟩, hb1⟩
  obtain ⟨d1, hd1⟩ : ∃ d, d = w.heap.size + 1 := ⟨_, rfl⟩
  rw [← hd1] at hc1 ⊢
  clear hd1
  have HC1 : Hid (Chn w1 w.heap.size d1 ((r1, zV) :: n1)) := hc1
  have HV1 : Hid (n1.map (·.2) = xs) := hv1
  have HB1 : Hid (Below w.heap.size w w1) := hb1
  clear hc1 hv1 hb1
  go_wp2_with fail
  refine (chain45 ys a2 c2 (by omega) _ (H2.out.below HB1.out)).mono ?_
  rintro e w2 ⟨rfl, ⟨r2, n2, hc2, hv2⟩, hb2⟩
  obtain ⟨d2, hd2⟩ : ∃ d, d = w1.heap.size + 1 := ⟨_, rfl⟩
  rw [← hd2] at hc2 ⊢
  clear hd2
  have HC2 : Hid (Chn w2 w1.heap.size d2 ((r2, zV) :: n2)) := hc2
  have HV2 : Hid (n2.map (·.2) = ys) := hv2
  have HD2 : Hid (Chn w2 w.heap.size d1 ((r1, zV) :: n1)) := HC1.out.below hb2
  have HB2 : Hid (Below w.heap.size w w2) := HB1.out.trans (hb2.mono HB1.out.size)
  clear hc2 hv2 hb2
  have hl1 : n1.length ≤ 100000000 := by rw [← List.length_map (f := fun x : Nd => x.2), HV1.out]; omega
  have hl2 : n2.length ≤ 100000000 := by rw [← List.length_map (f := fun x : Nd => x.2), HV2.out]; omega
  have X3 : Hid (Bx (w2.alloc (.cells #[.slice a1 xs.length c1, .slice a2 ys.length c2] 28)) w2.heap.size [.slice a1 xs.length c1, .slice a2 ys.length c2]) := Bx.new w2 [.slice a1 xs.length c1, .slice a2 ys.length c2] 28
  have B3 : Hid (Below w2.heap.size w2 (w2.alloc (.cells #[.slice a1 xs.length c1, .slice a2 ys.length c2] 28))) := (belowRefl w2).alloc (Nat.le_refl _) _
  have HB3 : Hid (Below w.heap.size w (w2.alloc (.cells #[.slice a1 xs.length c1, .slice a2 ys.length c2] 28))) := HB2.out.alloc HB2.out.size _
  go_wp2_with fail
  generalize w2.alloc (.cells #[.slice a1 xs.length c1, .slice a2 ys.length c2] 28) = W3 at *
  refine (nums64 s xs ys a1 a2 c1 c2 w2.heap.size hn hm _ X3.out (H1.out.below HB3.out) (H2.out.below HB3.out)).mono ?_
  rintro e w4 ⟨ao, cap, zs, rfl, hr, ⟨hzl, hmem⟩, hb4⟩
  have HR : Hid (GRow encI w4 ao zs) := hr
  have HS : Hid (sameB xs ys s = zs.all (eqAt xs ys)) := same_of hmem
  have HC4 : Hid (Chn w4 w1.heap.size d2 ((r2, zV) :: n2)) := (HC2.out.below B3.out).below hb4
  have HD4 : Hid (Chn w4 w.heap.size d1 ((r1, zV) :: n1)) := (HD2.out.below B3.out).below hb4
  have HB4 : Hid (Below w.heap.size w w4) := HB3.out.trans (hb4.mono HB3.out.size)
  obtain ⟨rg, hrg⟩ : ∃ rg, rg = allR := ⟨_, rfl⟩
  have A66 : Hid (∀ w, Calls Tryz.prog 34 #[] w fun e w' => e = .returned (.agg #[.string rg.1, .string rg.2]) ∧ Below w.heap.size w w') := fun w => by rw [hrg]; exact all66 w
  have HQ : Hid (∀ z, eqAt xs ys z = decide (scanB xs rg z = scanB ys rg z)) := fun z => by rw [hrg]; rfl
  clear hr hmem hb4 hrg X3 B3 HC2 HD2 HB3
  go_wp2
  go_loopw [21] (fun t wr => ∃ i : Nat, i ≤ zs.length ∧ t = .int .i64 i ∧ Hid (∀ j (hj : j < zs.length), j < i → eqAt xs ys zs[j] = true) ∧ Hid (Below w4.heap.size w4 wr)) (fun t _ => zs.length - (intOf t).toNat)
  case atStart => exact ⟨0, Nat.zero_le _, rfl, fun j hj h => by omega, belowRefl w4⟩
  case round =>
    obtain ⟨i, hi, rfl, HG, HB⟩ := hrel
    by_cases hlt : i < zs.length
    · have hlt' : (i : Int) < (zs.length : Int) := by omega
      have hi0 : (0 : Int) ≤ (i : Int) := by omega
      obtain ⟨b, off, rfl, hbl, hc⟩ := (HR.out.below HB.out) (by omega)
      have z0 := iat hc i hlt
      clear hc
      go_wp2_with fail
      refine (A66.out _).mono ?_
      rintro e v1 ⟨rfl, hu1⟩
      have K1 : Hid (Below w4.heap.size w4 v1) := HB.out.trans (hu1.mono HB.out.size)
      clear hu1
      go_wp2_with fail
      refine (scan56 w.heap.size d1 (r1, zV) n1 xs rg zs[i] hl1 HV1.out F1.out _ (HD4.out.below K1.out)).mono ?_
      rintro e v2 ⟨pa, pc, rfl, ho2, hu2⟩
      have K2 : Hid (Below w4.heap.size w4 v2) := K1.out.trans (hu2.mono K1.out.size)
      have O2 := hide ho2
      clear hu2 ho2
      go_wp2_with fail
      refine (A66.out _).mono ?_
      rintro e v3 ⟨rfl, hu3⟩
      have K3 : Hid (Below w4.heap.size w4 v3) := K2.out.trans (hu3.mono K2.out.size)
      have O3 := hide (O2.out.below hu3)
      clear hu3
      go_wp2_with fail
      refine (scan56 w1.heap.size d2 (r2, zV) n2 ys rg zs[i] hl2 HV2.out F2.out _ (HC4.out.below K3.out)).mono ?_
      rintro e v4 ⟨qa, qc, rfl, ho4, hu4⟩
      have K4 : Hid (Below w4.heap.size w4 v4) := K3.out.trans (hu4.mono K3.out.size)
      have O4 := hide (O3.out.below hu4)
      have P4 := hide ho4
      clear hu4 ho4
      have hpl : (scanB xs rg zs[i]).length ≤ 100000000 := by
        unfold scanB
        refine Nat.le_trans (fmap_len _ _) (Nat.le_trans (keys_len _) ?_)
        rw [List.length_map]; omega
      have HQi : Hid (eqAt xs ys zs[i] = decide (scanB xs rg zs[i] = scanB ys rg zs[i])) := HQ.out zs[i]
      generalize scanB xs rg zs[i] = ps at *
      generalize scanB ys rg zs[i] = qs at *
      go_wp2_with fail
      refine (ipairs ps qs pa qa pc qc hpl _ O4.out.grow P4.out.grow).mono ?_
      rintro e v5 ⟨rfl, hu5⟩
      have K5 : Hid (Below w4.heap.size w4 v5) := K4.out.trans (hu5.mono K4.out.size)
      clear hu5
      rw [← HQi.out]
      cases he : eqAt xs ys zs[i]
      · have HN : Hid (sameB xs ys s = false) := by show _ = _; rw [HS.out]; exact all_no hlt he
        clear he
        go_wp2
        go_ret
        exact ⟨ret_bool HN.out.symm, HB4.out.trans (K5.out.mono HB4.out.size)⟩
      · have HG2 : Hid (∀ j (hj : j < zs.length), j < i + 1 → eqAt xs ys zs[j] = true) := fun j hj h => by
          by_cases e : j = i
          · subst e; exact he
          · exact HG.out j hj (by omega)
        clear he
        go_wp2
        go_roundw
        case rel => exact ⟨i + 1, by omega, by go_num, HG2, K5⟩
        case measure => simp [intOf]; omega
    · have hlt' : ¬ (i : Int) < (zs.length : Int) := by omega
      have HT : Hid (sameB xs ys s = true) := by show _ = _; rw [HS.out]; exact all_yes (fun j hj => HG.out j hj (by omega))
      go_wp2
      go_ret
      exact ⟨ret_bool HT.out.symm, HB4.out.trans (HB.out.mono HB4.out.size)⟩

set_option maxRecDepth 100000 in
set_option maxHeartbeats 4000000 in
theorem ssame (xs ys : List Vr) (a1 a2 : Option Addr) (c1 c2 : Nat) (s : Int) (hn : xs.length ≤ 10000000) (hm : ys.length ≤ 10000000) (w : World) (h1 : GRow encV w a1 xs) (h2 : GRow encV w a2 ys) :
    Calls Tryz.prog 12 #[.slice a1 xs.length c1, .slice a2 ys.length c2, .int .i64 s] w fun e w' => e = .returned (.bool (sameB xs ys s)) ∧ Below w.heap.size w w' := by
  have H1 : Hid (GRow encV w a1 xs) := h1
  have H2 : Hid (GRow encV w a2 ys) := h2
  clear h1 h2
  obtain ⟨rg, hrg⟩ : ∃ rg, rg = allR := ⟨_, rfl⟩
  have A67 : Hid (∀ w, Calls Tryz.prog 22 #[] w fun e w' => e = .returned (.agg #[.string rg.1, .string rg.2]) ∧ Below w.heap.size w w') := fun w => by rw [hrg]; exact all67 w
  have HQ : Hid (∀ z, eqAt xs ys z = decide (scanB xs rg z = scanB ys rg z)) := fun z => by rw [hrg]; rfl
  clear hrg
  have CS1 : Hid (∀ z w, GRow encV w a1 xs → Calls Tryz.prog 24 #[.slice a1 xs.length c1, .agg #[.string rg.1, .string rg.2], .int .i64 z] w fun e w' => ∃ b1 d1, e = .returned (.slice b1 (scanB xs rg z).length d1) ∧ GOwn encR 71 w' w.heap.size (.slice b1 (scanB xs rg z).length d1) (scanB xs rg z) ∧ Below w.heap.size w w') := fun z w h => sscan xs a1 c1 rg z hn w h
  have CS2 : Hid (∀ z w, GRow encV w a2 ys → Calls Tryz.prog 24 #[.slice a2 ys.length c2, .agg #[.string rg.1, .string rg.2], .int .i64 z] w fun e w' => ∃ b1 d1, e = .returned (.slice b1 (scanB ys rg z).length d1) ∧ GOwn encR 71 w' w.heap.size (.slice b1 (scanB ys rg z).length d1) (scanB ys rg z) ∧ Below w.heap.size w w') := fun z w h => sscan ys a2 c2 rg z hm w h
  have HLs : Hid (∀ z, (scanB xs rg z).length ≤ 100000000) := fun z => by
    unfold scanB
    refine Nat.le_trans (fmap_len _ _) (Nat.le_trans (keys_len _) ?_)
    rw [List.length_map]; omega
  go_enter Tryz.func12, Tryz.ntmps12
  go_wp2_with fail
  refine (A67.out _).mono ?_
  rintro e w1 ⟨rfl, hb1⟩
  have YB : Hid (Bx (w1.alloc (.cells #[.string rg.1, .string rg.2] 56)) w1.heap.size [.string rg.1, .string rg.2]) := Bx.new w1 [.string rg.1, .string rg.2] 56
  have KB : Hid (Below w.heap.size w (w1.alloc (.cells #[.string rg.1, .string rg.2] 56))) := hb1.alloc hb1.size _
  clear hb1
  go_wp2
  generalize w1.alloc (.cells #[.string rg.1, .string rg.2] 56) = W at *
  cases hez : eqAt xs ys s
  · have HN : Hid (sameB xs ys s = false) := by show _ = _; unfold sameB; rw [hez]; rfl
    refine wp_region_held_drew (S := fun w' => w'.cell? ⟨w1.heap.size, 0, none⟩ = some (.string rg.1) ∧ w'.cell? ⟨w1.heap.size, 1, none⟩ = some (.string rg.2)) (by kernel_rfl) ⟨YB.out.c0, YB.out.c1⟩ (fun hHeld => ?_)
    (refine tk 0 ?_ rfl (Or.inl ⟨by rfl, ?_⟩) ?_; rotate_left; (focus (intro w h; (try dsimp only at h); go_simp; (try with_reducible rfl))); simp only [Act.put, tA, tB, tD, tE, tF])
    (refine tk 1 ?_ rfl (Or.inl ⟨by rfl, ?_⟩) ?_; rotate_left; (focus (intro w h; (try dsimp only at h); go_simp; (try with_reducible rfl))); simp only [Act.put, tA, tB, tC, tD, tE, tF])
    (refine tk 2 ?_ rfl (Or.inl ⟨by rfl, ?_⟩) ?_; rotate_left; (focus (intro w h; (try dsimp only at h); go_simp; (try with_reducible rfl))); simp only [Act.put, tA, tB, tC, tD, tE, tF])
    (refine tk 4 ?_ rfl (Or.inl ⟨by rfl, ?_⟩) ?_; rotate_left; (focus (intro w h; (try dsimp only at h); go_simp; (try with_reducible rfl))); simp only [Act.put, tA, tB, tC, tD, tE, tF])
    (refine tk 5 ?_ rfl (Or.inl ⟨by rfl, ?_⟩) ?_; rotate_left; (focus (intro w h; (try dsimp only at h); go_simp; (try with_reducible rfl))); simp only [Act.put, tA, tB, tC, tD, tE, tF])
    (refine tk 6 ?_ rfl (Or.inl ⟨by rfl, ?_⟩) ?_; rotate_left; (focus (intro w h; (try dsimp only at h); go_simp; (try with_reducible rfl))); simp only [Act.put, tA, tB, tC, tD, tE, tF])
    refine wpAnyH_ready (rs := [3]) (by kernel_rfl) (by simp) ?_
    refine AllReadyH.cons rfl (fun K hK => ?_) AllReadyH.nil
    go_simp
    go_wp2_with fail
    refine (CS1.out s _ (H1.out.below KB.out.drew)).mono ?_
    rintro e v1 ⟨pa, pc, rfl, ho1, hu1⟩
    have K1 : Hid (Below w.heap.size w v1) := KB.out.trans (((undrew hu1)).mono KB.out.size)
    have Y1 : Hid (Bx v1 w1.heap.size [.string rg.1, .string rg.2]) := YB.out.below (undrew hu1)
    have O1 := hide ho1
    clear ho1
    clear hu1
    go_wp2_with fail
    refine hK.out _ _ ⟨Y1.out.c0, Y1.out.c1⟩ (fun hHeld1 => ?_)
    clear hK K
    refine wpAnyH_ready (rs := [7]) (by kernel_rfl) (by simp) ?_
    refine AllReadyH.cons rfl (fun K hK => ?_) AllReadyH.nil
    go_simp
    go_wp2_with fail
    refine (CS2.out s _ (H2.out.below K1.out)).mono ?_
    rintro e v2 ⟨qa, qc, rfl, ho2, hu2⟩
    have K2 : Hid (Below w.heap.size w v2) := K1.out.trans ((hu2).mono K1.out.size)
    have Y2 : Hid (Bx v2 w1.heap.size [.string rg.1, .string rg.2]) := Y1.out.below hu2
    have O2 := hide (O1.out.below hu2)
    have P2 := hide ho2
    clear ho2
    clear hu2
    go_wp2_with fail
    refine hK.out _ _ ⟨Y2.out.c0, Y2.out.c1⟩ (fun hHeld2 => ?_)
    clear hK K
    refine wpAnyH_ready (rs := [8]) (by kernel_rfl) (by simp) ?_
    refine AllReadyH.cons rfl (fun K hK => ?_) AllReadyH.nil
    go_simp
    go_wp2_with fail
    refine (spairs (scanB xs rg s) (scanB ys rg s) pa qa pc qc (HLs.out _) _ O2.out.grow P2.out.grow).mono ?_
    rintro e v3 ⟨he3, hu3⟩
    have K3 : Hid (Below w.heap.size w v3) := K2.out.trans ((hu3).mono K2.out.size)
    have Y3 : Hid (Bx v3 w1.heap.size [.string rg.1, .string rg.2]) := Y2.out.below hu3
    have he4 : e = .returned (.bool false) := he3.trans (by rw [← HQ.out, hez])
    subst he4
    clear he3
    clear hu3
    go_wp2_with fail
    refine hK.out _ _ ⟨Y3.out.c0, Y3.out.c1⟩ (fun hHeld3 => ?_)
    clear hK K
    (refine tk 9 ?_ rfl (Or.inl ⟨by rfl, ?_⟩) ?_; rotate_left; (focus (intro w h; (try dsimp only at h); go_simp; (try with_reducible rfl))); simp only [Act.put, tA, tB, tC, tD, tE, tF])
    refine wpAnyH_done (by kernel_rfl) ?_ _
    clear hez
    go_wp2
    go_ret
    exact ⟨ret_bool HN.out.symm, K3.out⟩
  have HSs : Hid (eqAt xs ys s = true) := hez
  refine wp_region_held_drew (S := fun w' => w'.cell? ⟨w1.heap.size, 0, none⟩ = some (.string rg.1) ∧ w'.cell? ⟨w1.heap.size, 1, none⟩ = some (.string rg.2)) (by kernel_rfl) ⟨YB.out.c0, YB.out.c1⟩ (fun hHeld => ?_)
  (refine tk 0 ?_ rfl (Or.inl ⟨by rfl, ?_⟩) ?_; rotate_left; (focus (intro w h; (try dsimp only at h); go_simp; (try with_reducible rfl))); simp only [Act.put, tA, tB, tD, tE, tF])
  (refine tk 1 ?_ rfl (Or.inl ⟨by rfl, ?_⟩) ?_; rotate_left; (focus (intro w h; (try dsimp only at h); go_simp; (try with_reducible rfl))); simp only [Act.put, tA, tB, tC, tD, tE, tF])
  (refine tk 2 ?_ rfl (Or.inl ⟨by rfl, ?_⟩) ?_; rotate_left; (focus (intro w h; (try dsimp only at h); go_simp; (try with_reducible rfl))); simp only [Act.put, tA, tB, tC, tD, tE, tF])
  (refine tk 4 ?_ rfl (Or.inl ⟨by rfl, ?_⟩) ?_; rotate_left; (focus (intro w h; (try dsimp only at h); go_simp; (try with_reducible rfl))); simp only [Act.put, tA, tB, tC, tD, tE, tF])
  (refine tk 5 ?_ rfl (Or.inl ⟨by rfl, ?_⟩) ?_; rotate_left; (focus (intro w h; (try dsimp only at h); go_simp; (try with_reducible rfl))); simp only [Act.put, tA, tB, tC, tD, tE, tF])
  (refine tk 6 ?_ rfl (Or.inl ⟨by rfl, ?_⟩) ?_; rotate_left; (focus (intro w h; (try dsimp only at h); go_simp; (try with_reducible rfl))); simp only [Act.put, tA, tB, tC, tD, tE, tF])
  refine wpAnyH_ready (rs := [3]) (by kernel_rfl) (by simp) ?_
  refine AllReadyH.cons rfl (fun K hK => ?_) AllReadyH.nil
  go_simp
  go_wp2_with fail
  refine (CS1.out s _ (H1.out.below KB.out.drew)).mono ?_
  rintro e v1 ⟨pa, pc, rfl, ho1, hu1⟩
  have K1 : Hid (Below w.heap.size w v1) := KB.out.trans (((undrew hu1)).mono KB.out.size)
  have Y1 : Hid (Bx v1 w1.heap.size [.string rg.1, .string rg.2]) := YB.out.below (undrew hu1)
  have O1 := hide ho1
  clear ho1
  clear hu1
  go_wp2_with fail
  refine hK.out _ _ ⟨Y1.out.c0, Y1.out.c1⟩ (fun hHeld1 => ?_)
  clear hK K
  refine wpAnyH_ready (rs := [7]) (by kernel_rfl) (by simp) ?_
  refine AllReadyH.cons rfl (fun K hK => ?_) AllReadyH.nil
  go_simp
  go_wp2_with fail
  refine (CS2.out s _ (H2.out.below K1.out)).mono ?_
  rintro e v2 ⟨qa, qc, rfl, ho2, hu2⟩
  have K2 : Hid (Below w.heap.size w v2) := K1.out.trans ((hu2).mono K1.out.size)
  have Y2 : Hid (Bx v2 w1.heap.size [.string rg.1, .string rg.2]) := Y1.out.below hu2
  have O2 := hide (O1.out.below hu2)
  have P2 := hide ho2
  clear ho2
  clear hu2
  go_wp2_with fail
  refine hK.out _ _ ⟨Y2.out.c0, Y2.out.c1⟩ (fun hHeld2 => ?_)
  clear hK K
  refine wpAnyH_ready (rs := [8]) (by kernel_rfl) (by simp) ?_
  refine AllReadyH.cons rfl (fun K hK => ?_) AllReadyH.nil
  go_simp
  go_wp2_with fail
  refine (spairs (scanB xs rg s) (scanB ys rg s) pa qa pc qc (HLs.out _) _ O2.out.grow P2.out.grow).mono ?_
  rintro e v3 ⟨he3, hu3⟩
  have K3 : Hid (Below w.heap.size w v3) := K2.out.trans ((hu3).mono K2.out.size)
  have Y3 : Hid (Bx v3 w1.heap.size [.string rg.1, .string rg.2]) := Y2.out.below hu3
  have he4 : e = .returned (.bool true) := he3.trans (by rw [← HQ.out, hez])
  subst he4
  clear he3
  clear hu3
  go_wp2_with fail
  refine hK.out _ _ ⟨Y3.out.c0, Y3.out.c1⟩ (fun hHeld3 => ?_)
  clear hK K
  (refine tk 9 ?_ rfl (Or.inl ⟨by rfl, ?_⟩) ?_; rotate_left; (focus (intro w h; (try dsimp only at h); go_simp; (try with_reducible rfl))); simp only [Act.put, tA, tB, tC, tD, tE, tF])
  refine wpAnyH_done (by kernel_rfl) ?_ _
  clear hez
  go_wp2
  clear YB KB O1 O2 P2 K1 K2 Y1 Y2 hHeld hHeld1 hHeld2 hHeld3
  have KB := K3
  have YB := Y3
  clear K3 Y3
  generalize v3 = W3 at *
  go_loopw [8] (fun t wr => ∃ i : Nat, i ≤ xs.length + ys.length ∧ t = .int .i64 i ∧ Hid (∀ j (hj : j < (xs ++ ys).length), j < i → (!decide (s < (xs ++ ys)[j].2.2.2) || eqAt xs ys (xs ++ ys)[j].2.2.2) = true) ∧ Hid (Bx wr w1.heap.size [.string rg.1, .string rg.2]) ∧ Hid (Below w.heap.size w wr)) (fun t _ => xs.length + ys.length - (intOf t).toNat)
  case atStart => exact ⟨0, Nat.zero_le _, rfl, fun j hj h => by omega, YB, KB⟩
  case round =>
    clear YB KB
    obtain ⟨i, hi, rfl, HG, YB, KB⟩ := hrel
    by_cases hlt : i < xs.length + ys.length
    · have hlt' : (i : Int) < (xs.length : Int) + (ys.length : Int) := by omega
      have hi0 : (0 : Int) ≤ (i : Int) := by omega
      have hil : i < (xs ++ ys).length := by rw [List.length_append]; exact hlt
      obtain ⟨z, hz⟩ : ∃ z, z = (xs ++ ys)[i].2.2.2 := ⟨_, rfl⟩
      have HZ : Hid (z = (xs ++ ys)[i].2.2.2) := hz
      have HG2 : Hid ((!decide (s < z) || eqAt xs ys z) = true → ∀ j (hj : j < (xs ++ ys).length), j < i + 1 → (!decide (s < (xs ++ ys)[j].2.2.2) || eqAt xs ys (xs ++ ys)[j].2.2.2) = true) := fun h j hj hji => by
        by_cases e : j = i
        · subst e; rw [← HZ.out]; exact h
        · exact HG.out j hj (by omega)
      have HNo : Hid (s < z → eqAt xs ys z = false → sameB xs ys s = false) := fun h3 h4 => by
        unfold sameB
        rw [Bool.and_eq_false_iff]
        right
        rw [Bool.eq_false_iff]
        intro h5
        rw [List.all_eq_true] at h5
        have h6 := h5 (xs ++ ys)[i] (List.getElem_mem hil)
        rw [← HZ.out, h4] at h6
        simp [h3] at h6
      clear hz
      by_cases hix : i < xs.length
      · have hix' : (i : Int) < (xs.length : Int) := by omega
        obtain ⟨b, off, rfl, hbl, hc⟩ := (H1.out.below KB.out) (by omega)
        have z0 := (vat hc i hix).2.2.2
        have hze : xs[i].2.2.2 = z := by rw [HZ.out]; congr 3; rw [List.getElem_append_left hix]
        rw [hze] at z0
        clear hc hze
        by_cases hgt : s < z
        · have hgt' : decide (s < z) = true := by simpa using hgt
          cases hez : eqAt xs ys z
          · have HN : Hid (sameB xs ys s = false) := HNo.out hgt hez
            go_wp2
            refine wp_region_held_drew (S := fun w' => w'.cell? ⟨w1.heap.size, 0, none⟩ = some (.string rg.1) ∧ w'.cell? ⟨w1.heap.size, 1, none⟩ = some (.string rg.2)) (by kernel_rfl) ⟨YB.out.c0, YB.out.c1⟩ (fun hHeld => ?_)
            (refine tk 0 ?_ rfl (Or.inl ⟨by rfl, ?_⟩) ?_; rotate_left; (focus (intro w h; (try dsimp only at h); go_simp; (try with_reducible rfl))); simp only [Act.put, tA, tB, tD, tE, tF])
            (refine tk 1 ?_ rfl (Or.inl ⟨by rfl, ?_⟩) ?_; rotate_left; (focus (intro w h; (try dsimp only at h); go_simp; (try with_reducible rfl))); simp only [Act.put, tA, tB, tC, tD, tE, tF])
            (refine tk 2 ?_ rfl (Or.inl ⟨by rfl, ?_⟩) ?_; rotate_left; (focus (intro w h; (try dsimp only at h); go_simp; (try with_reducible rfl))); simp only [Act.put, tA, tB, tC, tD, tE, tF])
            (refine tk 3 ?_ rfl (Or.inl ⟨by rfl, ?_⟩) ?_; rotate_left; (focus (intro w h; (try dsimp only at h); go_simp; (try with_reducible rfl))); simp only [Act.put, tA, tB, tC, tD, tE, tF])
            (refine tk 4 ?_ rfl (Or.inl ⟨by rfl, ?_⟩) ?_; rotate_left; (focus (intro w h; (try dsimp only at h); go_simp; (try with_reducible rfl))); simp only [Act.put, tA, tB, tC, tD, tE, tF])
            (refine tk 5 ?_ rfl (Or.inl ⟨by rfl, ?_⟩) ?_; rotate_left; (focus (intro w h; (try dsimp only at h); go_simp; (try with_reducible rfl))); simp only [Act.put, tA, tB, tC, tD, tE, tF])
            (refine tk 6 ?_ rfl (Or.inl ⟨by rfl, ?_⟩) ?_; rotate_left; (focus (intro w h; (try dsimp only at h); go_simp; (try with_reducible rfl))); simp only [Act.put, tA, tB, tC, tD, tE, tF])
            (refine tk 8 ?_ rfl (Or.inl ⟨by rfl, ?_⟩) ?_; rotate_left; (focus (intro w h; (try dsimp only at h); go_simp; (try with_reducible rfl))); simp only [Act.put, tA, tB, tC, tD, tE, tF])
            (refine tk 9 ?_ rfl (Or.inl ⟨by rfl, ?_⟩) ?_; rotate_left; (focus (intro w h; (try dsimp only at h); go_simp; (try with_reducible rfl))); simp only [Act.put, tA, tB, tC, tD, tE, tF])
            (refine tk 10 ?_ rfl (Or.inl ⟨by rfl, ?_⟩) ?_; rotate_left; (focus (intro w h; (try dsimp only at h); go_simp; (try with_reducible rfl))); simp only [Act.put, tA, tB, tC, tD, tE, tF])
            refine wpAnyH_ready (rs := [7]) (by kernel_rfl) (by simp) ?_
            refine AllReadyH.cons rfl (fun K hK => ?_) AllReadyH.nil
            go_simp
            go_wp2_with fail
            refine (CS1.out z _ (H1.out.below KB.out.drew)).mono ?_
            rintro e v1 ⟨pa, pc, rfl, ho1, hu1⟩
            have K1 : Hid (Below w.heap.size w v1) := KB.out.trans (((undrew hu1)).mono KB.out.size)
            have Y1 : Hid (Bx v1 w1.heap.size [.string rg.1, .string rg.2]) := YB.out.below (undrew hu1)
            have O1 := hide ho1
            clear ho1
            clear hu1
            go_wp2_with fail
            refine hK.out _ _ ⟨Y1.out.c0, Y1.out.c1⟩ (fun hHeld1 => ?_)
            clear hK K
            refine wpAnyH_ready (rs := [11]) (by kernel_rfl) (by simp) ?_
            refine AllReadyH.cons rfl (fun K hK => ?_) AllReadyH.nil
            go_simp
            go_wp2_with fail
            refine (CS2.out z _ (H2.out.below K1.out)).mono ?_
            rintro e v2 ⟨qa, qc, rfl, ho2, hu2⟩
            have K2 : Hid (Below w.heap.size w v2) := K1.out.trans ((hu2).mono K1.out.size)
            have Y2 : Hid (Bx v2 w1.heap.size [.string rg.1, .string rg.2]) := Y1.out.below hu2
            have O2 := hide (O1.out.below hu2)
            have P2 := hide ho2
            clear ho2
            clear hu2
            go_wp2_with fail
            refine hK.out _ _ ⟨Y2.out.c0, Y2.out.c1⟩ (fun hHeld2 => ?_)
            clear hK K
            refine wpAnyH_ready (rs := [12]) (by kernel_rfl) (by simp) ?_
            refine AllReadyH.cons rfl (fun K hK => ?_) AllReadyH.nil
            go_simp
            go_wp2_with fail
            refine (spairs (scanB xs rg z) (scanB ys rg z) pa qa pc qc (HLs.out _) _ O2.out.grow P2.out.grow).mono ?_
            rintro e v3 ⟨he3, hu3⟩
            have K3 : Hid (Below w.heap.size w v3) := K2.out.trans ((hu3).mono K2.out.size)
            have Y3 : Hid (Bx v3 w1.heap.size [.string rg.1, .string rg.2]) := Y2.out.below hu3
            have he4 : e = .returned (.bool false) := he3.trans (by rw [← HQ.out, hez])
            subst he4
            clear he3
            clear hu3
            go_wp2_with fail
            refine hK.out _ _ ⟨Y3.out.c0, Y3.out.c1⟩ (fun hHeld3 => ?_)
            clear hK K
            (refine tk 13 ?_ rfl (Or.inl ⟨by rfl, ?_⟩) ?_; rotate_left; (focus (intro w h; (try dsimp only at h); go_simp; (try with_reducible rfl))); simp only [Act.put, tA, tB, tC, tD, tE, tF])
            (refine tk 14 ?_ rfl (Or.inl ⟨by rfl, ?_⟩) ?_; rotate_left; (focus (intro w h; (try dsimp only at h); go_simp; (try with_reducible rfl))); simp only [Act.put, tA, tB, tC, tD, tE, tF])
            refine wpAnyH_done (by kernel_rfl) ?_ _
            go_wp2
            go_ret
            exact ⟨ret_bool HN.out.symm, K3.out⟩
          · have HG3 := hide (HG2.out (by rw [hez]; simp))
            go_wp2
            refine wp_region_held_drew (S := fun w' => w'.cell? ⟨w1.heap.size, 0, none⟩ = some (.string rg.1) ∧ w'.cell? ⟨w1.heap.size, 1, none⟩ = some (.string rg.2)) (by kernel_rfl) ⟨YB.out.c0, YB.out.c1⟩ (fun hHeld => ?_)
            (refine tk 0 ?_ rfl (Or.inl ⟨by rfl, ?_⟩) ?_; rotate_left; (focus (intro w h; (try dsimp only at h); go_simp; (try with_reducible rfl))); simp only [Act.put, tA, tB, tD, tE, tF])
            (refine tk 1 ?_ rfl (Or.inl ⟨by rfl, ?_⟩) ?_; rotate_left; (focus (intro w h; (try dsimp only at h); go_simp; (try with_reducible rfl))); simp only [Act.put, tA, tB, tC, tD, tE, tF])
            (refine tk 2 ?_ rfl (Or.inl ⟨by rfl, ?_⟩) ?_; rotate_left; (focus (intro w h; (try dsimp only at h); go_simp; (try with_reducible rfl))); simp only [Act.put, tA, tB, tC, tD, tE, tF])
            (refine tk 3 ?_ rfl (Or.inl ⟨by rfl, ?_⟩) ?_; rotate_left; (focus (intro w h; (try dsimp only at h); go_simp; (try with_reducible rfl))); simp only [Act.put, tA, tB, tC, tD, tE, tF])
            (refine tk 4 ?_ rfl (Or.inl ⟨by rfl, ?_⟩) ?_; rotate_left; (focus (intro w h; (try dsimp only at h); go_simp; (try with_reducible rfl))); simp only [Act.put, tA, tB, tC, tD, tE, tF])
            (refine tk 5 ?_ rfl (Or.inl ⟨by rfl, ?_⟩) ?_; rotate_left; (focus (intro w h; (try dsimp only at h); go_simp; (try with_reducible rfl))); simp only [Act.put, tA, tB, tC, tD, tE, tF])
            (refine tk 6 ?_ rfl (Or.inl ⟨by rfl, ?_⟩) ?_; rotate_left; (focus (intro w h; (try dsimp only at h); go_simp; (try with_reducible rfl))); simp only [Act.put, tA, tB, tC, tD, tE, tF])
            (refine tk 8 ?_ rfl (Or.inl ⟨by rfl, ?_⟩) ?_; rotate_left; (focus (intro w h; (try dsimp only at h); go_simp; (try with_reducible rfl))); simp only [Act.put, tA, tB, tC, tD, tE, tF])
            (refine tk 9 ?_ rfl (Or.inl ⟨by rfl, ?_⟩) ?_; rotate_left; (focus (intro w h; (try dsimp only at h); go_simp; (try with_reducible rfl))); simp only [Act.put, tA, tB, tC, tD, tE, tF])
            (refine tk 10 ?_ rfl (Or.inl ⟨by rfl, ?_⟩) ?_; rotate_left; (focus (intro w h; (try dsimp only at h); go_simp; (try with_reducible rfl))); simp only [Act.put, tA, tB, tC, tD, tE, tF])
            refine wpAnyH_ready (rs := [7]) (by kernel_rfl) (by simp) ?_
            refine AllReadyH.cons rfl (fun K hK => ?_) AllReadyH.nil
            go_simp
            go_wp2_with fail
            refine (CS1.out z _ (H1.out.below KB.out.drew)).mono ?_
            rintro e v1 ⟨pa, pc, rfl, ho1, hu1⟩
            have K1 : Hid (Below w.heap.size w v1) := KB.out.trans (((undrew hu1)).mono KB.out.size)
            have Y1 : Hid (Bx v1 w1.heap.size [.string rg.1, .string rg.2]) := YB.out.below (undrew hu1)
            have O1 := hide ho1
            clear ho1
            clear hu1
            go_wp2_with fail
            refine hK.out _ _ ⟨Y1.out.c0, Y1.out.c1⟩ (fun hHeld1 => ?_)
            clear hK K
            refine wpAnyH_ready (rs := [11]) (by kernel_rfl) (by simp) ?_
            refine AllReadyH.cons rfl (fun K hK => ?_) AllReadyH.nil
            go_simp
            go_wp2_with fail
            refine (CS2.out z _ (H2.out.below K1.out)).mono ?_
            rintro e v2 ⟨qa, qc, rfl, ho2, hu2⟩
            have K2 : Hid (Below w.heap.size w v2) := K1.out.trans ((hu2).mono K1.out.size)
            have Y2 : Hid (Bx v2 w1.heap.size [.string rg.1, .string rg.2]) := Y1.out.below hu2
            have O2 := hide (O1.out.below hu2)
            have P2 := hide ho2
            clear ho2
            clear hu2
            go_wp2_with fail
            refine hK.out _ _ ⟨Y2.out.c0, Y2.out.c1⟩ (fun hHeld2 => ?_)
            clear hK K
            refine wpAnyH_ready (rs := [12]) (by kernel_rfl) (by simp) ?_
            refine AllReadyH.cons rfl (fun K hK => ?_) AllReadyH.nil
            go_simp
            go_wp2_with fail
            refine (spairs (scanB xs rg z) (scanB ys rg z) pa qa pc qc (HLs.out _) _ O2.out.grow P2.out.grow).mono ?_
            rintro e v3 ⟨he3, hu3⟩
            have K3 : Hid (Below w.heap.size w v3) := K2.out.trans ((hu3).mono K2.out.size)
            have Y3 : Hid (Bx v3 w1.heap.size [.string rg.1, .string rg.2]) := Y2.out.below hu3
            have he4 : e = .returned (.bool true) := he3.trans (by rw [← HQ.out, hez])
            subst he4
            clear he3
            clear hu3
            go_wp2_with fail
            refine hK.out _ _ ⟨Y3.out.c0, Y3.out.c1⟩ (fun hHeld3 => ?_)
            clear hK K
            (refine tk 13 ?_ rfl (Or.inl ⟨by rfl, ?_⟩) ?_; rotate_left; (focus (intro w h; (try dsimp only at h); go_simp; (try with_reducible rfl))); simp only [Act.put, tA, tB, tC, tD, tE, tF])
            (refine tk 14 ?_ rfl (Or.inl ⟨by rfl, ?_⟩) ?_; rotate_left; (focus (intro w h; (try dsimp only at h); go_simp; (try with_reducible rfl))); simp only [Act.put, tA, tB, tC, tD, tE, tF])
            refine wpAnyH_done (by kernel_rfl) ?_ _
            go_wp2
            have YF := Y3
            have KF := K3
            go_roundw
            case rel => exact ⟨i + 1, by omega, by go_num, HG3, YF, KF⟩
            case measure => simp [intOf]; omega
        · have hgt' : decide (s < z) = false := by simpa using hgt
          have HG3 := hide (HG2.out (by rw [hgt']; rfl))
          go_wp2
          refine wp_region_held_drew (S := fun w' => w'.cell? ⟨w1.heap.size, 0, none⟩ = some (.string rg.1) ∧ w'.cell? ⟨w1.heap.size, 1, none⟩ = some (.string rg.2)) (by kernel_rfl) ⟨YB.out.c0, YB.out.c1⟩ (fun hHeld => ?_)
          (refine tk 0 ?_ rfl (Or.inl ⟨by rfl, ?_⟩) ?_; rotate_left; (focus (intro w h; (try dsimp only at h); go_simp; (try with_reducible rfl))); simp only [Act.put, tA, tB, tD, tE, tF])
          (refine tk 1 ?_ rfl (Or.inl ⟨by rfl, ?_⟩) ?_; rotate_left; (focus (intro w h; (try dsimp only at h); go_simp; (try with_reducible rfl))); simp only [Act.put, tA, tB, tC, tD, tE, tF])
          (refine tk 2 ?_ rfl (Or.inl ⟨by rfl, ?_⟩) ?_; rotate_left; (focus (intro w h; (try dsimp only at h); go_simp; (try with_reducible rfl))); simp only [Act.put, tA, tB, tC, tD, tE, tF])
          (refine tk 3 ?_ rfl (Or.inl ⟨by rfl, ?_⟩) ?_; rotate_left; (focus (intro w h; (try dsimp only at h); go_simp; (try with_reducible rfl))); simp only [Act.put, tA, tB, tC, tD, tE, tF])
          (refine tk 4 undef rfl (Or.inr ⟨by rfl, rfl⟩) ?_; simp only [Act.put, tA, tB, tC, tD, tE, tF])
          (refine tk 5 undef rfl (Or.inr ⟨by rfl, rfl⟩) ?_; simp only [Act.put, tA, tB, tC, tD, tE, tF])
          (refine tk 6 undef rfl (Or.inr ⟨by rfl, rfl⟩) ?_; simp only [Act.put, tA, tB, tC, tD, tE, tF])
          (refine tk 7 undef rfl (Or.inr ⟨by rfl, rfl⟩) ?_; simp only [Act.put, tA, tB, tC, tD, tE, tF])
          (refine tk 8 undef rfl (Or.inr ⟨by rfl, rfl⟩) ?_; simp only [Act.put, tA, tB, tC, tD, tE, tF])
          (refine tk 9 undef rfl (Or.inr ⟨by rfl, rfl⟩) ?_; simp only [Act.put, tA, tB, tC, tD, tE, tF])
          (refine tk 10 undef rfl (Or.inr ⟨by rfl, rfl⟩) ?_; simp only [Act.put, tA, tB, tC, tD, tE, tF])
          (refine tk 11 undef rfl (Or.inr ⟨by rfl, rfl⟩) ?_; simp only [Act.put, tA, tB, tC, tD, tE, tF])
          (refine tk 12 undef rfl (Or.inr ⟨by rfl, rfl⟩) ?_; simp only [Act.put, tA, tB, tC, tD, tE, tF])
          (refine tk 13 undef rfl (Or.inr ⟨by rfl, rfl⟩) ?_; simp only [Act.put, tA, tB, tC, tD, tE, tF])
          (refine tk 14 ?_ rfl (Or.inl ⟨by rfl, ?_⟩) ?_; rotate_left; (focus (intro w h; (try dsimp only at h); go_simp; (try with_reducible rfl))); simp only [Act.put, tA, tB, tC, tD, tE, tF])
          refine wpAnyH_done (by kernel_rfl) ?_ _
          go_wp2
          have YF : Hid (Bx wr.drew w1.heap.size [.string rg.1, .string rg.2]) := YB.out.drew
          have KF : Hid (Below w.heap.size w wr.drew) := KB.out.drew
          go_roundw
          case rel => exact ⟨i + 1, by omega, by go_num, HG3, YF, KF⟩
          case measure => simp [intOf]; omega
      · have hix' : ¬ (i : Int) < (xs.length : Int) := by omega
        obtain ⟨m, hm0⟩ : ∃ m, m = i - xs.length := ⟨_, rfl⟩
        have hml : m < ys.length := by omega
        have hml' : (m : Int) < (ys.length : Int) := by omega
        have hmz : (0 : Int) ≤ (m : Int) := by omega
        have e9 : IntKind.i64.wrap ((i : Int) - (xs.length : Int)) = (m : Int) := by rw [IntKind.wrap_i64]; omega
        have e10 : (i : Int) - (xs.length : Int) = (m : Int) := by omega
        have e11 : IntKind.i64.wrap (m : Int) = (m : Int) := by rw [IntKind.wrap_i64]; omega
        obtain ⟨b, off, rfl, hbl, hc⟩ := (H2.out.below KB.out) (by omega)
        have z0 := (vat hc m hml).2.2.2
        have hze : ys[m].2.2.2 = z := by
          rw [HZ.out]
          congr 3
          rw [List.getElem_append_right (by omega)]
          simp only [hm0]
        rw [hze] at z0
        have HM : Hid (m = i - xs.length) := hm0
        clear hc hze hm0
        by_cases hgt : s < z
        · have hgt' : decide (s < z) = true := by simpa using hgt
          cases hez : eqAt xs ys z
          · have HN : Hid (sameB xs ys s = false) := HNo.out hgt hez
            go_wp2
            refine wp_region_held_drew (S := fun w' => w'.cell? ⟨w1.heap.size, 0, none⟩ = some (.string rg.1) ∧ w'.cell? ⟨w1.heap.size, 1, none⟩ = some (.string rg.2)) (by kernel_rfl) ⟨YB.out.c0, YB.out.c1⟩ (fun hHeld => ?_)
            (refine tk 0 ?_ rfl (Or.inl ⟨by rfl, ?_⟩) ?_; rotate_left; (focus (intro w h; (try dsimp only at h); go_simp; (try with_reducible rfl))); simp only [Act.put, tA, tB, tD, tE, tF])
            (refine tk 1 ?_ rfl (Or.inl ⟨by rfl, ?_⟩) ?_; rotate_left; (focus (intro w h; (try dsimp only at h); go_simp; (try with_reducible rfl))); simp only [Act.put, tA, tB, tC, tD, tE, tF])
            (refine tk 2 ?_ rfl (Or.inl ⟨by rfl, ?_⟩) ?_; rotate_left; (focus (intro w h; (try dsimp only at h); go_simp; (try with_reducible rfl))); simp only [Act.put, tA, tB, tC, tD, tE, tF])
            (refine tk 3 ?_ rfl (Or.inl ⟨by rfl, ?_⟩) ?_; rotate_left; (focus (intro w h; (try dsimp only at h); go_simp; (try with_reducible rfl))); simp only [Act.put, tA, tB, tC, tD, tE, tF])
            (refine tk 4 ?_ rfl (Or.inl ⟨by rfl, ?_⟩) ?_; rotate_left; (focus (intro w h; (try dsimp only at h); go_simp; (try with_reducible rfl))); simp only [Act.put, tA, tB, tC, tD, tE, tF])
            (refine tk 5 ?_ rfl (Or.inl ⟨by rfl, ?_⟩) ?_; rotate_left; (focus (intro w h; (try dsimp only at h); go_simp; (try with_reducible rfl))); simp only [Act.put, tA, tB, tC, tD, tE, tF])
            (refine tk 6 ?_ rfl (Or.inl ⟨by rfl, ?_⟩) ?_; rotate_left; (focus (intro w h; (try dsimp only at h); go_simp; (try with_reducible rfl))); simp only [Act.put, tA, tB, tC, tD, tE, tF])
            (refine tk 8 ?_ rfl (Or.inl ⟨by rfl, ?_⟩) ?_; rotate_left; (focus (intro w h; (try dsimp only at h); go_simp; (try with_reducible rfl))); simp only [Act.put, tA, tB, tC, tD, tE, tF])
            (refine tk 9 ?_ rfl (Or.inl ⟨by rfl, ?_⟩) ?_; rotate_left; (focus (intro w h; (try dsimp only at h); go_simp; (try with_reducible rfl))); simp only [Act.put, tA, tB, tC, tD, tE, tF])
            (refine tk 10 ?_ rfl (Or.inl ⟨by rfl, ?_⟩) ?_; rotate_left; (focus (intro w h; (try dsimp only at h); go_simp; (try with_reducible rfl))); simp only [Act.put, tA, tB, tC, tD, tE, tF])
            refine wpAnyH_ready (rs := [7]) (by kernel_rfl) (by simp) ?_
            refine AllReadyH.cons rfl (fun K hK => ?_) AllReadyH.nil
            go_simp
            go_wp2_with fail
            refine (CS1.out z _ (H1.out.below KB.out.drew)).mono ?_
            rintro e v1 ⟨pa, pc, rfl, ho1, hu1⟩
            have K1 : Hid (Below w.heap.size w v1) := KB.out.trans (((undrew hu1)).mono KB.out.size)
            have Y1 : Hid (Bx v1 w1.heap.size [.string rg.1, .string rg.2]) := YB.out.below (undrew hu1)
            have O1 := hide ho1
            clear ho1
            clear hu1
            go_wp2_with fail
            refine hK.out _ _ ⟨Y1.out.c0, Y1.out.c1⟩ (fun hHeld1 => ?_)
            clear hK K
            refine wpAnyH_ready (rs := [11]) (by kernel_rfl) (by simp) ?_
            refine AllReadyH.cons rfl (fun K hK => ?_) AllReadyH.nil
            go_simp
            go_wp2_with fail
            refine (CS2.out z _ (H2.out.below K1.out)).mono ?_
            rintro e v2 ⟨qa, qc, rfl, ho2, hu2⟩
            have K2 : Hid (Below w.heap.size w v2) := K1.out.trans ((hu2).mono K1.out.size)
            have Y2 : Hid (Bx v2 w1.heap.size [.string rg.1, .string rg.2]) := Y1.out.below hu2
            have O2 := hide (O1.out.below hu2)
            have P2 := hide ho2
            clear ho2
            clear hu2
            go_wp2_with fail
            refine hK.out _ _ ⟨Y2.out.c0, Y2.out.c1⟩ (fun hHeld2 => ?_)
            clear hK K
            refine wpAnyH_ready (rs := [12]) (by kernel_rfl) (by simp) ?_
            refine AllReadyH.cons rfl (fun K hK => ?_) AllReadyH.nil
            go_simp
            go_wp2_with fail
            refine (spairs (scanB xs rg z) (scanB ys rg z) pa qa pc qc (HLs.out _) _ O2.out.grow P2.out.grow).mono ?_
            rintro e v3 ⟨he3, hu3⟩
            have K3 : Hid (Below w.heap.size w v3) := K2.out.trans ((hu3).mono K2.out.size)
            have Y3 : Hid (Bx v3 w1.heap.size [.string rg.1, .string rg.2]) := Y2.out.below hu3
            have he4 : e = .returned (.bool false) := he3.trans (by rw [← HQ.out, hez])
            subst he4
            clear he3
            clear hu3
            go_wp2_with fail
            refine hK.out _ _ ⟨Y3.out.c0, Y3.out.c1⟩ (fun hHeld3 => ?_)
            clear hK K
            (refine tk 13 ?_ rfl (Or.inl ⟨by rfl, ?_⟩) ?_; rotate_left; (focus (intro w h; (try dsimp only at h); go_simp; (try with_reducible rfl))); simp only [Act.put, tA, tB, tC, tD, tE, tF])
            (refine tk 14 ?_ rfl (Or.inl ⟨by rfl, ?_⟩) ?_; rotate_left; (focus (intro w h; (try dsimp only at h); go_simp; (try with_reducible rfl))); simp only [Act.put, tA, tB, tC, tD, tE, tF])
            refine wpAnyH_done (by kernel_rfl) ?_ _
            go_wp2
            go_ret
            exact ⟨ret_bool HN.out.symm, K3.out⟩
          · have HG3 := hide (HG2.out (by rw [hez]; simp))
            go_wp2
            refine wp_region_held_drew (S := fun w' => w'.cell? ⟨w1.heap.size, 0, none⟩ = some (.string rg.1) ∧ w'.cell? ⟨w1.heap.size, 1, none⟩ = some (.string rg.2)) (by kernel_rfl) ⟨YB.out.c0, YB.out.c1⟩ (fun hHeld => ?_)
            (refine tk 0 ?_ rfl (Or.inl ⟨by rfl, ?_⟩) ?_; rotate_left; (focus (intro w h; (try dsimp only at h); go_simp; (try with_reducible rfl))); simp only [Act.put, tA, tB, tD, tE, tF])
            (refine tk 1 ?_ rfl (Or.inl ⟨by rfl, ?_⟩) ?_; rotate_left; (focus (intro w h; (try dsimp only at h); go_simp; (try with_reducible rfl))); simp only [Act.put, tA, tB, tC, tD, tE, tF])
            (refine tk 2 ?_ rfl (Or.inl ⟨by rfl, ?_⟩) ?_; rotate_left; (focus (intro w h; (try dsimp only at h); go_simp; (try with_reducible rfl))); simp only [Act.put, tA, tB, tC, tD, tE, tF])
            (refine tk 3 ?_ rfl (Or.inl ⟨by rfl, ?_⟩) ?_; rotate_left; (focus (intro w h; (try dsimp only at h); go_simp; (try with_reducible rfl))); simp only [Act.put, tA, tB, tC, tD, tE, tF])
            (refine tk 4 ?_ rfl (Or.inl ⟨by rfl, ?_⟩) ?_; rotate_left; (focus (intro w h; (try dsimp only at h); go_simp; (try with_reducible rfl))); simp only [Act.put, tA, tB, tC, tD, tE, tF])
            (refine tk 5 ?_ rfl (Or.inl ⟨by rfl, ?_⟩) ?_; rotate_left; (focus (intro w h; (try dsimp only at h); go_simp; (try with_reducible rfl))); simp only [Act.put, tA, tB, tC, tD, tE, tF])
            (refine tk 6 ?_ rfl (Or.inl ⟨by rfl, ?_⟩) ?_; rotate_left; (focus (intro w h; (try dsimp only at h); go_simp; (try with_reducible rfl))); simp only [Act.put, tA, tB, tC, tD, tE, tF])
            (refine tk 8 ?_ rfl (Or.inl ⟨by rfl, ?_⟩) ?_; rotate_left; (focus (intro w h; (try dsimp only at h); go_simp; (try with_reducible rfl))); simp only [Act.put, tA, tB, tC, tD, tE, tF])
            (refine tk 9 ?_ rfl (Or.inl ⟨by rfl, ?_⟩) ?_; rotate_left; (focus (intro w h; (try dsimp only at h); go_simp; (try with_reducible rfl))); simp only [Act.put, tA, tB, tC, tD, tE, tF])
            (refine tk 10 ?_ rfl (Or.inl ⟨by rfl, ?_⟩) ?_; rotate_left; (focus (intro w h; (try dsimp only at h); go_simp; (try with_reducible rfl))); simp only [Act.put, tA, tB, tC, tD, tE, tF])
            refine wpAnyH_ready (rs := [7]) (by kernel_rfl) (by simp) ?_
            refine AllReadyH.cons rfl (fun K hK => ?_) AllReadyH.nil
            go_simp
            go_wp2_with fail
            refine (CS1.out z _ (H1.out.below KB.out.drew)).mono ?_
            rintro e v1 ⟨pa, pc, rfl, ho1, hu1⟩
            have K1 : Hid (Below w.heap.size w v1) := KB.out.trans (((undrew hu1)).mono KB.out.size)
            have Y1 : Hid (Bx v1 w1.heap.size [.string rg.1, .string rg.2]) := YB.out.below (undrew hu1)
            have O1 := hide ho1
            clear ho1
            clear hu1
            go_wp2_with fail
            refine hK.out _ _ ⟨Y1.out.c0, Y1.out.c1⟩ (fun hHeld1 => ?_)
            clear hK K
            refine wpAnyH_ready (rs := [11]) (by kernel_rfl) (by simp) ?_
            refine AllReadyH.cons rfl (fun K hK => ?_) AllReadyH.nil
            go_simp
            go_wp2_with fail
            refine (CS2.out z _ (H2.out.below K1.out)).mono ?_
            rintro e v2 ⟨qa, qc, rfl, ho2, hu2⟩
            have K2 : Hid (Below w.heap.size w v2) := K1.out.trans ((hu2).mono K1.out.size)
            have Y2 : Hid (Bx v2 w1.heap.size [.string rg.1, .string rg.2]) := Y1.out.below hu2
            have O2 := hide (O1.out.below hu2)
            have P2 := hide ho2
            clear ho2
            clear hu2
            go_wp2_with fail
            refine hK.out _ _ ⟨Y2.out.c0, Y2.out.c1⟩ (fun hHeld2 => ?_)
            clear hK K
            refine wpAnyH_ready (rs := [12]) (by kernel_rfl) (by simp) ?_
            refine AllReadyH.cons rfl (fun K hK => ?_) AllReadyH.nil
            go_simp
            go_wp2_with fail
            refine (spairs (scanB xs rg z) (scanB ys rg z) pa qa pc qc (HLs.out _) _ O2.out.grow P2.out.grow).mono ?_
            rintro e v3 ⟨he3, hu3⟩
            have K3 : Hid (Below w.heap.size w v3) := K2.out.trans ((hu3).mono K2.out.size)
            have Y3 : Hid (Bx v3 w1.heap.size [.string rg.1, .string rg.2]) := Y2.out.below hu3
            have he4 : e = .returned (.bool true) := he3.trans (by rw [← HQ.out, hez])
            subst he4
            clear he3
            clear hu3
            go_wp2_with fail
            refine hK.out _ _ ⟨Y3.out.c0, Y3.out.c1⟩ (fun hHeld3 => ?_)
            clear hK K
            (refine tk 13 ?_ rfl (Or.inl ⟨by rfl, ?_⟩) ?_; rotate_left; (focus (intro w h; (try dsimp only at h); go_simp; (try with_reducible rfl))); simp only [Act.put, tA, tB, tC, tD, tE, tF])
            (refine tk 14 ?_ rfl (Or.inl ⟨by rfl, ?_⟩) ?_; rotate_left; (focus (intro w h; (try dsimp only at h); go_simp; (try with_reducible rfl))); simp only [Act.put, tA, tB, tC, tD, tE, tF])
            refine wpAnyH_done (by kernel_rfl) ?_ _
            go_wp2
            have YF := Y3
            have KF := K3
            go_roundw
            case rel => exact ⟨i + 1, by omega, by go_num, HG3, YF, KF⟩
            case measure => simp [intOf]; omega
        · have hgt' : decide (s < z) = false := by simpa using hgt
          have HG3 := hide (HG2.out (by rw [hgt']; rfl))
          go_wp2
          refine wp_region_held_drew (S := fun w' => w'.cell? ⟨w1.heap.size, 0, none⟩ = some (.string rg.1) ∧ w'.cell? ⟨w1.heap.size, 1, none⟩ = some (.string rg.2)) (by kernel_rfl) ⟨YB.out.c0, YB.out.c1⟩ (fun hHeld => ?_)
          (refine tk 0 ?_ rfl (Or.inl ⟨by rfl, ?_⟩) ?_; rotate_left; (focus (intro w h; (try dsimp only at h); go_simp; (try with_reducible rfl))); simp only [Act.put, tA, tB, tD, tE, tF])
          (refine tk 1 ?_ rfl (Or.inl ⟨by rfl, ?_⟩) ?_; rotate_left; (focus (intro w h; (try dsimp only at h); go_simp; (try with_reducible rfl))); simp only [Act.put, tA, tB, tC, tD, tE, tF])
          (refine tk 2 ?_ rfl (Or.inl ⟨by rfl, ?_⟩) ?_; rotate_left; (focus (intro w h; (try dsimp only at h); go_simp; (try with_reducible rfl))); simp only [Act.put, tA, tB, tC, tD, tE, tF])
          (refine tk 3 ?_ rfl (Or.inl ⟨by rfl, ?_⟩) ?_; rotate_left; (focus (intro w h; (try dsimp only at h); go_simp; (try with_reducible rfl))); simp only [Act.put, tA, tB, tC, tD, tE, tF])
          (refine tk 4 undef rfl (Or.inr ⟨by rfl, rfl⟩) ?_; simp only [Act.put, tA, tB, tC, tD, tE, tF])
          (refine tk 5 undef rfl (Or.inr ⟨by rfl, rfl⟩) ?_; simp only [Act.put, tA, tB, tC, tD, tE, tF])
          (refine tk 6 undef rfl (Or.inr ⟨by rfl, rfl⟩) ?_; simp only [Act.put, tA, tB, tC, tD, tE, tF])
          (refine tk 7 undef rfl (Or.inr ⟨by rfl, rfl⟩) ?_; simp only [Act.put, tA, tB, tC, tD, tE, tF])
          (refine tk 8 undef rfl (Or.inr ⟨by rfl, rfl⟩) ?_; simp only [Act.put, tA, tB, tC, tD, tE, tF])
          (refine tk 9 undef rfl (Or.inr ⟨by rfl, rfl⟩) ?_; simp only [Act.put, tA, tB, tC, tD, tE, tF])
          (refine tk 10 undef rfl (Or.inr ⟨by rfl, rfl⟩) ?_; simp only [Act.put, tA, tB, tC, tD, tE, tF])
          (refine tk 11 undef rfl (Or.inr ⟨by rfl, rfl⟩) ?_; simp only [Act.put, tA, tB, tC, tD, tE, tF])
          (refine tk 12 undef rfl (Or.inr ⟨by rfl, rfl⟩) ?_; simp only [Act.put, tA, tB, tC, tD, tE, tF])
          (refine tk 13 undef rfl (Or.inr ⟨by rfl, rfl⟩) ?_; simp only [Act.put, tA, tB, tC, tD, tE, tF])
          (refine tk 14 ?_ rfl (Or.inl ⟨by rfl, ?_⟩) ?_; rotate_left; (focus (intro w h; (try dsimp only at h); go_simp; (try with_reducible rfl))); simp only [Act.put, tA, tB, tC, tD, tE, tF])
          refine wpAnyH_done (by kernel_rfl) ?_ _
          go_wp2
          have YF : Hid (Bx wr.drew w1.heap.size [.string rg.1, .string rg.2]) := YB.out.drew
          have KF : Hid (Below w.heap.size w wr.drew) := KB.out.drew
          go_roundw
          case rel => exact ⟨i + 1, by omega, by go_num, HG3, YF, KF⟩
          case measure => simp [intOf]; omega
    · have hlt' : ¬ (i : Int) < (xs.length : Int) + (ys.length : Int) := by omega
      have HT : Hid (sameB xs ys s = true) := by
        show _ = _
        unfold sameB
        rw [HSs.out, Bool.true_and, List.all_eq_true]
        intro v hv
        obtain ⟨j, hj, rfl⟩ := List.getElem_of_mem hv
        exact HG.out j hj (by rw [List.length_append] at hj; omega)
      go_wp2
      go_ret
      exact ⟨ret_bool HT.out.symm, KB.out⟩
end Go.Proofs.YtmaipaeehalabaaGreat

/- The law FnExactScanAt, walked. -/
import Derived.Test.YtnlfojaflgehbaaH4
import Derived.Test.YtnlfojaflgehbaaMv
import Derived.Test.YtnlfojaflgehbaaLie
namespace Go.Proofs.Ytnlfojaflgehbaa
open Go.RowKit
open KM
open VM
attribute [local go_sem ↓] Go.wp_at_zero Go.wp_at_succ

theorem scan_len (vs : List Vr) (rg : Rg) (s : Int) : (scanB vs rg s).length ≤ vs.length := by
  unfold scanB
  refine Nat.le_trans (fmap_len _ _) (Nat.le_trans (keys_len _) ?_)
  rw [List.length_map]; exact Nat.le_refl _

set_option maxRecDepth 100000 in
set_option maxHeartbeats 4000000 in
theorem law7 (xs : List Vr) (a0 : Option Addr) (c0 : Nat) (f t : ByteArray) (s : Int) (w : World) (hn0 : xs.length ≤ maxLen) (hl0 : ∀ x ∈ xs, x.1.size ≤ maxLen ∧ x.2.1.size ≤ maxLen) (hp0 : GRow encV w a0 xs) (hf : f.size ≤ maxLen) (ht : t.size ≤ maxLen) : Calls Try.prog 7 #[.slice a0 xs.length c0, .agg #[.string f, .string t], .int .i64 s] w fun e w' => e = .returned (.bool true) ∧ Below w.heap.size w w' := by
  obtain ⟨rg, hrg⟩ : ∃ rg : Rg, rg = (f, t) := ⟨_, rfl⟩
  have e1 : f = rg.1 := by rw [hrg]
  have e2 : t = rg.2 := by rw [hrg]
  rw [e1] at hf
  rw [e2] at ht
  rw [e1, e2]
  clear e1 e2 hrg
  have HP0 : Hid (GRow encV w a0 xs) := hp0
  have HL0 : Hid (∀ x ∈ xs, x.1.size ≤ maxLen ∧ x.2.1.size ≤ maxLen) := hl0
  clear hp0 hl0
  unfold maxLen at hn0
  have BX0 : Hid (Bx (w.alloc (.cells #[.string rg.1, .string rg.2] 58)) w.heap.size [.string rg.1, .string rg.2]) := Bx.new w [.string rg.1, .string rg.2] 58
  have HB0 : Hid (Below w.heap.size w (w.alloc (.cells #[.string rg.1, .string rg.2] 58))) := (belowRefl w).alloc (Nat.le_refl _) _
  go_enter Try.func7, Try.ntmps7
  go_wp2_with fail
  refine (szSV xs a0 c0 hn0 HL0.out _ (by omega) (by omega) _ (HP0.out.below HB0.out)).mono ?_
  rintro e w1 ⟨hb1, r0, rfl, hu0, hr0⟩
  have HB1 : Hid (Below w.heap.size w w1) := HB0.out.trans (hb1.mono HB0.out.size)
  have BX1 : Hid (Bx w1 w.heap.size [.string rg.1, .string rg.2]) := BX0.out.below hb1
  clear hb1
  by_cases hneg0 : r0 < 0
  · clear hr0
    go_wp2
    go_ret
    exact ⟨rfl, HB1.out⟩
  have hpos0 : ¬ r0 < 0 := hneg0
  have HF0 : Hid (VFit xs) := (hr0 (by omega)).2
  have hn : xs.length ≤ 1048576 := (hr0 (by omega)).1
  clear hr0
  have x0 := BX1.out.c0
  have x1 := BX1.out.c1
  go_wp2_with fail
  refine (szr rg.1 rg.2 r0 (by omega) hu0 hf ht _).mono ?_
  rintro e w2 ⟨r1, rfl, hr1, hb2⟩
  have HB2 : Hid (Below w.heap.size w w2) := HB1.out.trans (hb2.mono HB1.out.size)
  have BX2 : Hid (Bx w2 w.heap.size [.string rg.1, .string rg.2]) := BX1.out.below hb2
  have S2 : Hid (w.heap.size + 1 ≤ w2.heap.size) := BX2.out.lt
  clear hb2 x0 x1 hr1
  by_cases hneg1 : r1 < 0
  · go_wp2
    go_ret
    exact ⟨rfl, HB2.out⟩
  have hpos1 : ¬ r1 < 0 := hneg1
  have CI : Hid (∀ a c w, GRow encV w a xs → Calls Try.prog 19 #[.slice a xs.length c, .agg #[.string rg.1, .string rg.2], .int .i64 s] w fun e w' => ∃ a1 c1, e = .returned (.slice a1 (scanB xs rg s).length c1) ∧ GOwn encR 87 w' w.heap.size (.slice a1 (scanB xs rg s).length c1) (scanB xs rg s) ∧ Below w.heap.size w w') := fun a c w h => iscan xs a c rg s (by omega) HF0.out w h
  have CS : Hid (∀ a c w, GRow encV w a xs → Calls Try.prog 30 #[.slice a xs.length c, .agg #[.string rg.1, .string rg.2], .int .i64 s] w fun e w' => ∃ a1 c1, e = .returned (.slice a1 (scanB xs rg s).length c1) ∧ GOwn encR 87 w' w.heap.size (.slice a1 (scanB xs rg s).length c1) (scanB xs rg s) ∧ Below w.heap.size w w') := fun a c w h => sscan xs a c rg s (by omega) w h
  have hrl : (scanB xs rg s).length ≤ 1048576 := Nat.le_trans (scan_len xs rg s) hn
  generalize scanB xs rg s = rs at CI CS hrl
  have TR : Hid (∀ w, Calls Try.prog 36 #[.agg #[.string rg.1, .string rg.2]] w fun e w' => e = .returned (.agg #[.string rg.1, .string rg.2]) ∧ Below w.heap.size w w') := fun w => tor rg.1 rg.2 w
  go_wp2
  refine wp_region_held_drew (S := fun w' => w'.cell? ⟨w.heap.size, 0, none⟩ = some (.string rg.1) ∧ w'.cell? ⟨w.heap.size, 1, none⟩ = some (.string rg.2)) (by kernel_rfl) ⟨BX2.out.c0, BX2.out.c1⟩ (fun hHeld => ?_)
  (refine wpAnyH_take (i := 0) (v := ?_) rfl (by kernel_rfl) (by kernel_rfl) (by kernel_rfl) (fun _ _ _ h => h) (Or.inl ⟨by rfl, ?_⟩) (by assumption) ?_; rotate_left; (focus (intro w hSw; (try dsimp only at hSw); go_simp; (try with_reducible rfl); done)); simp only [Act.put, List.getElem_toArray, List.getElem_cons_zero, List.setIfInBounds_toArray, List.set_cons_zero, List.set_cons_succ])
  (refine wpAnyH_take (i := 2) (v := ?_) rfl (by kernel_rfl) (by kernel_rfl) (by kernel_rfl) (fun _ _ _ h => h) (Or.inl ⟨by rfl, ?_⟩) (by assumption) ?_; rotate_left; (focus (intro w hSw; (try dsimp only at hSw); go_simp; (try with_reducible rfl); done)); simp only [Act.put, List.getElem_toArray, List.getElem_cons_zero, List.getElem_cons_succ, List.setIfInBounds_toArray, List.set_cons_zero, List.set_cons_succ])
  (refine wpAnyH_take (i := 4) (v := ?_) rfl (by kernel_rfl) (by kernel_rfl) (by kernel_rfl) (fun _ _ _ h => h) (Or.inl ⟨by rfl, ?_⟩) (by assumption) ?_; rotate_left; (focus (intro w hSw; (try dsimp only at hSw); go_simp; (try with_reducible rfl); done)); simp only [Act.put, List.getElem_toArray, List.getElem_cons_zero, List.getElem_cons_succ, List.setIfInBounds_toArray, List.set_cons_zero, List.set_cons_succ])
  refine wpAnyH_ready (rs := [1]) (by kernel_rfl) (by simp) ?_
  refine AllReadyH.cons rfl (fun K hK => ?_) AllReadyH.nil
  go_simp
  go_wp2_with fail
  refine (toSV xs a0 c0 (by omega) _ (HP0.out.below HB2.out.drew)).mono ?_
  rintro e w3 ⟨pa, pc, rfl, hd3, hb3⟩
  have BX3 : Hid (Bx w3 w.heap.size [.string rg.1, .string rg.2]) := BX2.out.below (undrew hb3)
  have HB3 : Hid (Below w.heap.size w w3) := HB2.out.trans (((undrew hb3)).mono HB2.out.size)
  have S3 : Hid (w2.heap.size ≤ w3.heap.size) := ((undrew hb3)).size
  have P3 : Hid (GRow encV w3 pa xs) := hd3.grow
  clear hd3
  go_wp2_with fail
  refine hK.out _ _ ⟨BX3.out.c0, BX3.out.c1⟩ (fun hHeld3 => ?_)
  clear hK K hb3
  refine wpAnyH_ready (rs := [3]) (by kernel_rfl) (by simp) ?_
  refine AllReadyH.cons rfl (fun K hK => ?_) AllReadyH.nil
  go_simp
  go_wp2_with fail
  refine (TR.out _).mono ?_
  rintro e w4 ⟨rfl, hb4⟩
  have BX4 : Hid (Bx w4 w.heap.size [.string rg.1, .string rg.2]) := BX3.out.below hb4
  have HB4 : Hid (Below w.heap.size w w4) := HB3.out.trans ((hb4).mono HB3.out.size)
  have S4 : Hid (w3.heap.size ≤ w4.heap.size) := (hb4).size
  have P4 : Hid (GRow encV w4 pa xs) := P3.out.below hb4
  go_wp2_with fail
  refine hK.out _ _ ⟨BX4.out.c0, BX4.out.c1⟩ (fun hHeld4 => ?_)
  clear hK K hb4
  refine wpAnyH_ready (rs := [5]) (by kernel_rfl) (by simp) ?_
  refine AllReadyH.cons rfl (fun K hK => ?_) AllReadyH.nil
  go_simp
  go_wp2_with fail
  refine (CS.out pa _ _ P4.out).mono ?_
  rintro e w5 ⟨ra, rc, rfl, ho5, hb5⟩
  have BX5 : Hid (Bx w5 w.heap.size [.string rg.1, .string rg.2]) := BX4.out.below hb5
  have HB5 : Hid (Below w.heap.size w w5) := HB4.out.trans ((hb5).mono HB4.out.size)
  have S5 : Hid (w4.heap.size ≤ w5.heap.size) := (hb5).size
  have RR5 : Hid (Lies encR 87 w5 w4.heap.size w5.heap.size (.slice ra rs.length rc) rs) := Lies.of ho5
  clear ho5
  go_wp2_with fail
  refine hK.out _ _ ⟨BX5.out.c0, BX5.out.c1⟩ (fun hHeld5 => ?_)
  clear hK K hb5
  (refine wpAnyH_take (i := 6) (v := ?_) rfl (by kernel_rfl) (by kernel_rfl) (by kernel_rfl) (fun _ _ _ h => h) (Or.inl ⟨by rfl, ?_⟩) (by assumption) ?_; rotate_left; (focus (intro w hSw; (try dsimp only at hSw); go_simp; (try with_reducible rfl); done)); simp only [Act.put, List.getElem_toArray, List.getElem_cons_zero, List.getElem_cons_succ, List.setIfInBounds_toArray, List.set_cons_zero, List.set_cons_succ])
  refine wpAnyH_done (by kernel_rfl) ?_ _
  go_wp2_with fail
  refine (toSV xs a0 c0 (by omega) _ (HP0.out.below HB5.out)).mono ?_
  rintro e w6 ⟨xa, xc, rfl, hd6, hb6⟩
  have RR6 : Hid (Lies encR 87 w6 w4.heap.size w5.heap.size (.slice ra rs.length rc) rs) := RR5.out.below hb6
  have BX6 : Hid (Bx w6 w.heap.size [.string rg.1, .string rg.2]) := BX5.out.below hb6
  have HB6 : Hid (Below w.heap.size w w6) := HB5.out.trans ((hb6).mono HB5.out.size)
  have S6 : Hid (w5.heap.size ≤ w6.heap.size) := (hb6).size
  have XX6 : Hid (Lies encV 74 w6 w5.heap.size w6.heap.size (.slice xa xs.length xc) xs) := Lies.of hd6
  clear hd6
  clear hb6
  have x0 := BX6.out.c0
  have x1 := BX6.out.c1
  go_wp2_with fail
  refine (TR.out _).mono ?_
  rintro e w7 ⟨rfl, hb7⟩
  have RR7 : Hid (Lies encR 87 w7 w4.heap.size w5.heap.size (.slice ra rs.length rc) rs) := RR6.out.below hb7
  have XX7 : Hid (Lies encV 74 w7 w5.heap.size w6.heap.size (.slice xa xs.length xc) xs) := XX6.out.below hb7
  have BX7 : Hid (Bx w7 w.heap.size [.string rg.1, .string rg.2]) := BX6.out.below hb7
  have HB7 : Hid (Below w.heap.size w w7) := HB6.out.trans ((hb7).mono HB6.out.size)
  have S7 : Hid (w6.heap.size ≤ w7.heap.size) := (hb7).size
  clear hb7
  clear x0 x1
  go_wp2_with fail
  refine (CI.out xa _ _ XX7.out.own.grow).mono ?_
  rintro e w8 ⟨ya, yc, rfl, ho8, hb8⟩
  have RR8 : Hid (Lies encR 87 w8 w4.heap.size w5.heap.size (.slice ra rs.length rc) rs) := RR7.out.below hb8
  have XX8 : Hid (Lies encV 74 w8 w5.heap.size w6.heap.size (.slice xa xs.length xc) xs) := XX7.out.below hb8
  have BX8 : Hid (Bx w8 w.heap.size [.string rg.1, .string rg.2]) := BX7.out.below hb8
  have HB8 : Hid (Below w.heap.size w w8) := HB7.out.trans ((hb8).mono HB7.out.size)
  have S8 : Hid (w7.heap.size ≤ w8.heap.size) := (hb8).size
  have YY8 : Hid (Lies encR 87 w8 w7.heap.size w8.heap.size (.slice ya rs.length yc) rs) := Lies.of ho8
  clear ho8
  clear hb8
  go_wp2_with fail
  refine (eqSP ya ra _ _ rs (by omega) _ YY8.out.own.grow RR8.out.own.grow).mono ?_
  rintro e w9 ⟨rfl, hb9⟩
  have RR9 : Hid (Lies encR 87 w9 w4.heap.size w5.heap.size (.slice ra rs.length rc) rs) := RR8.out.below hb9
  have XX9 : Hid (Lies encV 74 w9 w5.heap.size w6.heap.size (.slice xa xs.length xc) xs) := XX8.out.below hb9
  have YY9 : Hid (Lies encR 87 w9 w7.heap.size w8.heap.size (.slice ya rs.length yc) rs) := YY8.out.below hb9
  have BX9 : Hid (Bx w9 w.heap.size [.string rg.1, .string rg.2]) := BX8.out.below hb9
  have HB9 : Hid (Below w.heap.size w w9) := HB8.out.trans ((hb9).mono HB8.out.size)
  have S9 : Hid (w8.heap.size ≤ w9.heap.size) := (hb9).size
  clear hb9
  go_wp2_with fail
  refine (toSV xs a0 c0 (by omega) _ (HP0.out.below HB9.out)).mono ?_
  rintro e w10 ⟨qa, qc, rfl, hd10, hb10⟩
  have RR10 : Hid (Lies encR 87 w10 w4.heap.size w5.heap.size (.slice ra rs.length rc) rs) := RR9.out.below hb10
  have XX10 : Hid (Lies encV 74 w10 w5.heap.size w6.heap.size (.slice xa xs.length xc) xs) := XX9.out.below hb10
  have YY10 : Hid (Lies encR 87 w10 w7.heap.size w8.heap.size (.slice ya rs.length yc) rs) := YY9.out.below hb10
  have BX10 : Hid (Bx w10 w.heap.size [.string rg.1, .string rg.2]) := BX9.out.below hb10
  have HB10 : Hid (Below w.heap.size w w10) := HB9.out.trans ((hb10).mono HB9.out.size)
  have S10 : Hid (w9.heap.size ≤ w10.heap.size) := (hb10).size
  have Q10 := hide hd10.grow
  clear hd10
  clear hb10
  go_wp2_with fail
  refine (eqSV xa qa _ _ xs (by omega) _ XX10.out.own.grow Q10.out).mono ?_
  rintro e w11 ⟨rfl, hb11⟩
  have RR11 : Hid (Lies encR 87 w11 w4.heap.size w5.heap.size (.slice ra rs.length rc) rs) := RR10.out.below hb11
  have XX11 : Hid (Lies encV 74 w11 w5.heap.size w6.heap.size (.slice xa xs.length xc) xs) := XX10.out.below hb11
  have YY11 : Hid (Lies encR 87 w11 w7.heap.size w8.heap.size (.slice ya rs.length yc) rs) := YY10.out.below hb11
  have BX11 : Hid (Bx w11 w.heap.size [.string rg.1, .string rg.2]) := BX10.out.below hb11
  have HB11 : Hid (Below w.heap.size w w11) := HB10.out.trans ((hb11).mono HB10.out.size)
  have S11 : Hid (w10.heap.size ≤ w11.heap.size) := (hb11).size
  clear hb11
  have LLRRXX : Hid (w5.heap.size ≤ w5.heap.size) := Nat.le_refl _
  have LLYYXX : Hid (w6.heap.size ≤ w7.heap.size) := by show _ ≤ _; have := S7.out; omega
  have LLRRYY : Hid (w5.heap.size ≤ w7.heap.size) := by show _ ≤ _; have := S6.out; have := S7.out; omega
  have LL0XX : Hid (w.heap.size < w5.heap.size) := by show _ < _; have := S2.out; have := S3.out; have := S4.out; have := S5.out; omega
  have LL0YY : Hid (w.heap.size < w7.heap.size) := by show _ < _; have := S2.out; have := S3.out; have := S4.out; have := S5.out; have := S6.out; have := S7.out; omega
  go_wp2_with fail
  refine (markV xs.length 1 xa xc w5.heap.size _ (by omega) (by omega) (by omega) _ XX11.out.own).mono ?_
  rintro e w12 ⟨rfl, hm12, hg12⟩
  have LO12 : Hid (∀ g, (Value.slice xa xs.length xc).ownBlock = some g → w5.heap.size ≤ g ∧ g < w6.heap.size) := XX11.out.lo
  have RR12 : Hid (Lies encR 87 w12 w4.heap.size w5.heap.size (.slice ra rs.length rc) rs) := RR11.out.marked hg12 (fun g h => by have := LO12.out g h; have := LLRRXX.out; omega)
  have YY12 : Hid (Lies encR 87 w12 w7.heap.size w8.heap.size (.slice ya rs.length yc) rs) := YY11.out.marked hg12 (fun g h => by have := LO12.out g h; have := LLYYXX.out; omega)
  have BX12 : Hid (Bx w12 w.heap.size [.string rg.1, .string rg.2]) := bx_marked BX11.out hg12 (fun h => by have := LO12.out _ h; have := LL0XX.out; omega)
  have HB12 : Hid (Below w.heap.size w w12) := HB11.out.trans (grown_low hg12 (fun g h => by have := LO12.out g h; have := LL0XX.out; omega) HB11.out.size)
  have S12 : Hid (w11.heap.size ≤ w12.heap.size) := hg12.size
  clear hm12 hg12
  have hnn : ¬ ((1 + 4 * xs.length : Nat) : Int) < 0 := by omega
  have hnd : decide (((1 + 4 * xs.length : Nat) : Int) < 0) = false := by simp; omega
  generalize ((1 + 4 * xs.length : Nat) : Int) = K1 at *
  go_wp2_with fail
  refine (eqSP ya ra _ _ rs (by omega) _ YY12.out.own.grow RR12.out.own.grow).mono ?_
  rintro e w13 ⟨rfl, hb13⟩
  have RR13 : Hid (Lies encR 87 w13 w4.heap.size w5.heap.size (.slice ra rs.length rc) rs) := RR12.out.below hb13
  have YY13 : Hid (Lies encR 87 w13 w7.heap.size w8.heap.size (.slice ya rs.length yc) rs) := YY12.out.below hb13
  have BX13 : Hid (Bx w13 w.heap.size [.string rg.1, .string rg.2]) := BX12.out.below hb13
  have HB13 : Hid (Below w.heap.size w w13) := HB12.out.trans ((hb13).mono HB12.out.size)
  have S13 : Hid (w12.heap.size ≤ w13.heap.size) := (hb13).size
  clear hb13
  go_wp2_with fail
  refine (markP rs.length 1 ya yc w7.heap.size _ (by omega) (by omega) (by omega) _ YY13.out.own).mono ?_
  rintro e w14 ⟨rfl, hm14, hg14⟩
  have LO14 : Hid (∀ g, (Value.slice ya rs.length yc).ownBlock = some g → w7.heap.size ≤ g ∧ g < w8.heap.size) := YY13.out.lo
  have RR14 : Hid (Lies encR 87 w14 w4.heap.size w5.heap.size (.slice ra rs.length rc) rs) := RR13.out.marked hg14 (fun g h => by have := LO14.out g h; have := LLRRYY.out; omega)
  have BX14 : Hid (Bx w14 w.heap.size [.string rg.1, .string rg.2]) := bx_marked BX13.out hg14 (fun h => by have := LO14.out _ h; have := LL0YY.out; omega)
  have HB14 : Hid (Below w.heap.size w w14) := HB13.out.trans (grown_low hg14 (fun g h => by have := LO14.out g h; have := LL0YY.out; omega) HB13.out.size)
  have S14 : Hid (w13.heap.size ≤ w14.heap.size) := hg14.size
  have M14 : Hid (GRow encR w14 ya (mkP 1 rs.length)) := by
    have h := hm14
    rw [show Value.slice ya rs.length yc = .slice ya (mkP 1 rs.length).length yc by rw [mkP_len]] at h
    exact h.grow
  clear hm14 hg14
  have hk2 : ¬ ((1 + 2 * rs.length : Nat) : Int) < 0 := by omega
  have hk3 := ne_self_int ((1 + 2 * rs.length : Nat) : Int)
  have CH : Hid (∀ w, GRow encR w ya (mkP 1 rs.length) → Calls Try.prog 40 #[.slice ya rs.length yc, .int .i64 1] w fun e w' => e = .returned (.int .i64 ((1 + 2 * rs.length : Nat) : Int)) ∧ Below w.heap.size w w') := fun w h => heldP rs.length 1 ya yc (by omega) (by omega) (by omega) w h
  generalize ((1 + 2 * rs.length : Nat) : Int) = K2 at *
  go_wp2_with fail
  refine (CH.out _ M14.out).mono ?_
  rintro e w15 ⟨rfl, hb15⟩
  have RR15 : Hid (Lies encR 87 w15 w4.heap.size w5.heap.size (.slice ra rs.length rc) rs) := RR14.out.below hb15
  have BX15 : Hid (Bx w15 w.heap.size [.string rg.1, .string rg.2]) := BX14.out.below hb15
  have HB15 : Hid (Below w.heap.size w w15) := HB14.out.trans ((hb15).mono HB14.out.size)
  have S15 : Hid (w14.heap.size ≤ w15.heap.size) := (hb15).size
  have M15 := hide (M14.out.below hb15)
  clear hb15
  go_wp2
  refine wp_region_held_drew (S := fun w' => w'.cell? ⟨w.heap.size, 0, none⟩ = some (.string rg.1) ∧ w'.cell? ⟨w.heap.size, 1, none⟩ = some (.string rg.2)) (by kernel_rfl) ⟨BX15.out.c0, BX15.out.c1⟩ (fun hHeld => ?_)
  (refine wpAnyH_take (i := 0) (v := ?_) rfl (by kernel_rfl) (by kernel_rfl) (by kernel_rfl) (fun _ _ _ h => h) (Or.inl ⟨by rfl, ?_⟩) (by assumption) ?_; rotate_left; (focus (intro w hSw; (try dsimp only at hSw); go_simp; (try with_reducible rfl); done)); simp only [Act.put, List.getElem_toArray, List.getElem_cons_zero, List.setIfInBounds_toArray, List.set_cons_zero, List.set_cons_succ])
  (refine wpAnyH_take (i := 2) (v := ?_) rfl (by kernel_rfl) (by kernel_rfl) (by kernel_rfl) (fun _ _ _ h => h) (Or.inl ⟨by rfl, ?_⟩) (by assumption) ?_; rotate_left; (focus (intro w hSw; (try dsimp only at hSw); go_simp; (try with_reducible rfl); done)); simp only [Act.put, List.getElem_toArray, List.getElem_cons_zero, List.getElem_cons_succ, List.setIfInBounds_toArray, List.set_cons_zero, List.set_cons_succ])
  (refine wpAnyH_take (i := 4) (v := ?_) rfl (by kernel_rfl) (by kernel_rfl) (by kernel_rfl) (fun _ _ _ h => h) (Or.inl ⟨by rfl, ?_⟩) (by assumption) ?_; rotate_left; (focus (intro w hSw; (try dsimp only at hSw); go_simp; (try with_reducible rfl); done)); simp only [Act.put, List.getElem_toArray, List.getElem_cons_zero, List.getElem_cons_succ, List.setIfInBounds_toArray, List.set_cons_zero, List.set_cons_succ])
  refine wpAnyH_ready (rs := [1]) (by kernel_rfl) (by simp) ?_
  refine AllReadyH.cons rfl (fun K hK => ?_) AllReadyH.nil
  go_simp
  go_wp2_with fail
  refine (toSV xs a0 c0 (by omega) _ (HP0.out.below HB15.out.drew)).mono ?_
  rintro e w16 ⟨ua, uc, rfl, hd16, hb16⟩
  have RR16 : Hid (Lies encR 87 w16 w4.heap.size w5.heap.size (.slice ra rs.length rc) rs) := RR15.out.below (undrew hb16)
  have BX16 : Hid (Bx w16 w.heap.size [.string rg.1, .string rg.2]) := BX15.out.below (undrew hb16)
  have HB16 : Hid (Below w.heap.size w w16) := HB15.out.trans (((undrew hb16)).mono HB15.out.size)
  have S16 : Hid (w15.heap.size ≤ w16.heap.size) := ((undrew hb16)).size
  have M16 := hide (M15.out.below (undrew hb16))
  have P16 : Hid (GRow encV w16 ua xs) := hd16.grow
  clear hd16
  go_wp2_with fail
  refine hK.out _ _ ⟨BX16.out.c0, BX16.out.c1⟩ (fun hHeld16 => ?_)
  clear hK K hb16
  refine wpAnyH_ready (rs := [3]) (by kernel_rfl) (by simp) ?_
  refine AllReadyH.cons rfl (fun K hK => ?_) AllReadyH.nil
  go_simp
  go_wp2_with fail
  refine (TR.out _).mono ?_
  rintro e w17 ⟨rfl, hb17⟩
  have RR17 : Hid (Lies encR 87 w17 w4.heap.size w5.heap.size (.slice ra rs.length rc) rs) := RR16.out.below hb17
  have BX17 : Hid (Bx w17 w.heap.size [.string rg.1, .string rg.2]) := BX16.out.below hb17
  have HB17 : Hid (Below w.heap.size w w17) := HB16.out.trans ((hb17).mono HB16.out.size)
  have S17 : Hid (w16.heap.size ≤ w17.heap.size) := (hb17).size
  have M17 := hide (M16.out.below hb17)
  have P17 : Hid (GRow encV w17 ua xs) := P16.out.below hb17
  go_wp2_with fail
  refine hK.out _ _ ⟨BX17.out.c0, BX17.out.c1⟩ (fun hHeld17 => ?_)
  clear hK K hb17
  refine wpAnyH_ready (rs := [5]) (by kernel_rfl) (by simp) ?_
  refine AllReadyH.cons rfl (fun K hK => ?_) AllReadyH.nil
  go_simp
  go_wp2_with fail
  refine (CI.out ua _ _ P17.out).mono ?_
  rintro e w18 ⟨ha, hc, rfl, ho18, hb18⟩
  have RR18 : Hid (Lies encR 87 w18 w4.heap.size w5.heap.size (.slice ra rs.length rc) rs) := RR17.out.below hb18
  have BX18 : Hid (Bx w18 w.heap.size [.string rg.1, .string rg.2]) := BX17.out.below hb18
  have HB18 : Hid (Below w.heap.size w w18) := HB17.out.trans ((hb18).mono HB17.out.size)
  have S18 : Hid (w17.heap.size ≤ w18.heap.size) := (hb18).size
  have M18 := hide (M17.out.below hb18)
  have HH18 : Hid (Lies encR 87 w18 w17.heap.size w18.heap.size (.slice ha rs.length hc) rs) := Lies.of ho18
  clear ho18
  go_wp2_with fail
  refine hK.out _ _ ⟨BX18.out.c0, BX18.out.c1⟩ (fun hHeld18 => ?_)
  clear hK K hb18
  (refine wpAnyH_take (i := 6) (v := ?_) rfl (by kernel_rfl) (by kernel_rfl) (by kernel_rfl) (fun _ _ _ h => h) (Or.inl ⟨by rfl, ?_⟩) (by assumption) ?_; rotate_left; (focus (intro w hSw; (try dsimp only at hSw); go_simp; (try with_reducible rfl); done)); simp only [Act.put, List.getElem_toArray, List.getElem_cons_zero, List.getElem_cons_succ, List.setIfInBounds_toArray, List.set_cons_zero, List.set_cons_succ])
  refine wpAnyH_done (by kernel_rfl) ?_ _
  go_wp2_with fail
  refine (eqSP ha ra _ _ rs (by omega) _ HH18.out.own.grow RR18.out.own.grow).mono ?_
  rintro e w19 ⟨rfl, hb19⟩
  have RR19 : Hid (Lies encR 87 w19 w4.heap.size w5.heap.size (.slice ra rs.length rc) rs) := RR18.out.below hb19
  have HH19 : Hid (Lies encR 87 w19 w17.heap.size w18.heap.size (.slice ha rs.length hc) rs) := HH18.out.below hb19
  have BX19 : Hid (Bx w19 w.heap.size [.string rg.1, .string rg.2]) := BX18.out.below hb19
  have HB19 : Hid (Below w.heap.size w w19) := HB18.out.trans ((hb19).mono HB18.out.size)
  have S19 : Hid (w18.heap.size ≤ w19.heap.size) := (hb19).size
  have M19 := hide (M18.out.below hb19)
  clear hb19
  go_wp2_with fail
  refine (CH.out _ M19.out).mono ?_
  rintro e w20 ⟨rfl, hb20⟩
  have RR20 : Hid (Lies encR 87 w20 w4.heap.size w5.heap.size (.slice ra rs.length rc) rs) := RR19.out.below hb20
  have HH20 : Hid (Lies encR 87 w20 w17.heap.size w18.heap.size (.slice ha rs.length hc) rs) := HH19.out.below hb20
  have BX20 : Hid (Bx w20 w.heap.size [.string rg.1, .string rg.2]) := BX19.out.below hb20
  have HB20 : Hid (Below w.heap.size w w20) := HB19.out.trans ((hb20).mono HB19.out.size)
  have S20 : Hid (w19.heap.size ≤ w20.heap.size) := (hb20).size
  clear hb20
  go_wp2
  go_ret
  exact ⟨rfl, HB20.out⟩
end Go.Proofs.Ytnlfojaflgehbaa

/- The law FnExactViewOf, walked. -/
import Derived.Test.YtebcfdomjlikoaaVo
import Derived.Test.YtebcfdomjlikoaaVZn
namespace Go.Proofs.Ytebcfdomjlikoaa
open Go.RowKit
open KM
attribute [local go_sem ↓] Go.wp_at_zero Go.wp_at_succ

theorem vcon (ms : List Rg) (rg : Rg) (hn : ms.length ≤ 1048576) (hf : RFit ms) : ∃ rs : List Rg, rs.length ≤ 1048576 ∧ (∀ (a : Option Addr) (c : Nat) (W : World), GRow encR W a ms → Calls Try.prog 25 #[.slice a ms.length c, .agg #[.string rg.1, .string rg.2]] W fun e w' => ∃ (a1 : Option Addr) (c1 : Nat), e = .returned (.slice a1 rs.length c1) ∧ Lies encR 81 w' W.heap.size w'.heap.size (.slice a1 rs.length c1) rs ∧ Below W.heap.size W w') ∧ (∀ (a : Option Addr) (c : Nat) (W : World), GRow encR W a ms → Calls Try.prog 22 #[.slice a ms.length c, .agg #[.string rg.1, .string rg.2]] W fun e w' => ∃ (a1 : Option Addr) (c1 : Nat), e = .returned (.slice a1 rs.length c1) ∧ Lies encR 81 w' W.heap.size w'.heap.size (.slice a1 rs.length c1) rs ∧ Below W.heap.size W w') := by
  refine ⟨viewB ms rg, ?_, ?_, ?_⟩
  · exact Nat.le_trans (List.length_filter_le _ _) hn
  · intro a c W h
    refine (iview ms a c ms.length rg rfl hn hf W h).mono ?_
    rintro e w' ⟨a1, c1, he, ho, hb⟩
    exact ⟨a1, c1, he, Lies.of ho, hb⟩
  · intro a c W h
    refine (sview ms a c ms.length rg rfl hn W h).mono ?_
    rintro e w' ⟨a1, c1, he, ho, hb⟩
    exact ⟨a1, c1, he, Lies.of ho, hb⟩
theorem growNR {w : World} {lo hi c n e : Nat} {a : Option Addr} {l : List Rg} (h : Lies encR e w lo hi (.slice a n c) l) (hn : n = l.length) : GRow encR w a l := by
  subst hn
  exact h.own.grow
theorem Lies.growR {w : World} {lo hi c e : Nat} {a : Option Addr} {l : List Rg} (h : Lies encR e w lo hi (.slice a l.length c) l) : GRow encR w a l := h.own.grow

set_option maxRecDepth 100000 in
set_option maxHeartbeats 6000000 in
theorem law5 (ms : List Rg) (a : Option Addr) (c : Nat) (f t2 : ByteArray) (w : World) (hmn : ms.length ≤ maxLen) (hml : ∀ x ∈ ms, x.1.size ≤ maxLen ∧ x.2.size ≤ maxLen) (hmp : GRow encR w a ms) (hfs : f.size ≤ maxLen) (hts : t2.size ≤ maxLen) : Calls Try.prog 5 #[.slice a ms.length c, .agg #[.string f, .string t2]] w fun e w' => e = .returned (.bool true) ∧ Below w.heap.size w w' := by
  obtain ⟨rg, hrg⟩ : ∃ rg : Rg, rg = (f, t2) := ⟨_, rfl⟩
  have e1 : f = rg.1 := by rw [hrg]
  have e2 : t2 = rg.2 := by rw [hrg]
  rw [e1] at hfs
  rw [e2] at hts
  rw [e1, e2]
  clear e1 e2 hrg
  have HML : Hid (∀ x ∈ ms, x.1.size ≤ maxLen ∧ x.2.size ≤ maxLen) := hml
  have HMP : Hid (GRow encR w a ms) := hmp
  clear hml hmp
  have BR : Hid (Bx (w.alloc (.cells #[.string rg.1, .string rg.2] 48)) (w.heap.size) [.string rg.1, .string rg.2]) := Bx.new w [.string rg.1, .string rg.2] 48
  have HB : Hid (Below w.heap.size w (w.alloc (.cells #[.string rg.1, .string rg.2] 48))) := (belowRefl w).alloc (Nat.le_refl _) _
  have MR : Hid (GRow encR (w.alloc (.cells #[.string rg.1, .string rg.2] 48)) a ms) := HMP.out.below HB.out
  go_enter Try.func5, Try.ntmps5
  go_wp2_with fail
  refine (szSC ms a c hmn HML.out 1048576 (by omega) (by omega) _ MR.out).mono ?_
  rintro e w1 ⟨hb1, r1, rfl, hu1, hr1⟩
  have Z1 : Hid (w.heap.size + 1 ≤ w1.heap.size) := by show _ ≤ _; have h := hb1.size; simpa using h
  replace BR : Hid (Bx w1 (w.heap.size) [.string rg.1, .string rg.2]) := BR.out.below hb1
  replace HB : Hid (Below w.heap.size w w1) := HB.out.trans (hb1.mono HB.out.size)
  replace MR : Hid (GRow encR w1 a ms) := HMP.out.below HB.out
  clear hb1
  by_cases hneg1 : r1 < 0
  · clear hr1
    go_wp2
    go_ret
    exact ⟨rfl, HB.out⟩
  have hpos1 : ¬ r1 < 0 := hneg1
  have hpos1' : 0 ≤ r1 := by omega
  have HMF : Hid (RFit ms) := (hr1 (by omega)).2
  have hmn' : ms.length ≤ 1048576 := (hr1 (by omega)).1
  clear hr1 hneg1
  have y0 := BR.out.c0
  have y1 := BR.out.c1
  go_wp2_with fail
  refine (szr rg.1 rg.2 r1 hpos1' hu1 hfs hts _).mono ?_
  rintro e w2 ⟨r2, rfl, hr2, hb2⟩
  have Z2 : Hid (w1.heap.size ≤ w2.heap.size) := by show _ ≤ _; have h := hb2.size; simpa using h
  replace BR : Hid (Bx w2 (w.heap.size) [.string rg.1, .string rg.2]) := BR.out.below hb2
  replace HB : Hid (Below w.heap.size w w2) := HB.out.trans (hb2.mono HB.out.size)
  replace MR : Hid (GRow encR w2 a ms) := HMP.out.below HB.out
  clear hb2 y0 y1 hr2
  by_cases hneg2 : r2 < 0
  · go_wp2
    go_ret
    exact ⟨rfl, HB.out⟩
  have hpos2 : ¬ r2 < 0 := hneg2
  clear hneg2
  obtain ⟨rs, hrl, ci, cs⟩ := vcon ms rg hmn' HMF.out
  have CI := hide ci
  have CS := hide cs
  have TRg : Hid (∀ w, Calls Try.prog 24 #[.agg #[.string rg.1, .string rg.2]] w fun e w' => e = .returned (.agg #[.string rg.1, .string rg.2]) ∧ Below w.heap.size w w') := fun w => tor rg.1 rg.2 w
  clear ci cs
  go_wp2
  refine wp_region_held_drew (S := fun w' => w'.cell? ⟨w.heap.size, 0, none⟩ = some (.string rg.1) ∧ w'.cell? ⟨w.heap.size, 1, none⟩ = some (.string rg.2)) (by kernel_rfl) ⟨BR.out.c0, BR.out.c1⟩ (fun hHeld => ?_)
  (refine wpAnyH_take (i := 0) (v := ?_) rfl (by kernel_rfl) (by kernel_rfl) (by kernel_rfl) (fun _ _ _ h => h) (Or.inl ⟨by rfl, ?_⟩) (by assumption) ?_; rotate_left; (focus (intro w hSw; (try dsimp only at hSw); go_simp; (try with_reducible rfl); done)); simp only [Act.put, List.getElem_toArray, List.getElem_cons_zero, List.setIfInBounds_toArray, List.set_cons_zero, List.set_cons_succ])
  (refine wpAnyH_take (i := 2) (v := ?_) rfl (by kernel_rfl) (by kernel_rfl) (by kernel_rfl) (fun _ _ _ h => h) (Or.inl ⟨by rfl, ?_⟩) (by assumption) ?_; rotate_left; (focus (intro w hSw; (try dsimp only at hSw); go_simp; (try with_reducible rfl); done)); simp only [Act.put, List.getElem_toArray, List.getElem_cons_zero, List.getElem_cons_succ, List.setIfInBounds_toArray, List.set_cons_zero, List.set_cons_succ])
  refine wpAnyH_ready (rs := [1]) (by kernel_rfl) (by simp) ?_
  refine AllReadyH.cons rfl (fun K hK => ?_) AllReadyH.nil
  go_simp
  go_wp2_with fail
  refine (toSC ms a c (by omega) _ MR.out.drew).mono ?_
  rintro e w3 ⟨ya1, yc1, rfl, hd, hb3⟩
  have hbu3 := undrew hb3
  have Z3 : Hid (w2.heap.size ≤ w3.heap.size) := by show _ ≤ _; have h := hbu3.size; simpa using h
  replace BR : Hid (Bx w3 (w.heap.size) [.string rg.1, .string rg.2]) := BR.out.below hbu3
  replace HB : Hid (Below w.heap.size w w3) := HB.out.trans (hbu3.mono HB.out.size)
  replace MR : Hid (GRow encR w3 a ms) := HMP.out.below HB.out
  have Y1 : Hid (Lies encR 80 w3 (w2.heap.size) w3.heap.size (.slice ya1 ms.length yc1) ms) := Lies.of hd
  clear hd
  go_wp2_with fail
  refine hK.out _ _ ⟨BR.out.c0, BR.out.c1⟩ (fun hHeld3 => ?_)
  clear hK K hb3 hbu3
  refine wpAnyH_ready (rs := [3]) (by kernel_rfl) (by simp) ?_
  refine AllReadyH.cons rfl (fun K hK => ?_) AllReadyH.nil
  go_simp
  go_wp2_with fail
  refine (TRg.out _).mono ?_
  rintro e w4 ⟨rfl, hb4⟩
  have Z4 : Hid (w3.heap.size ≤ w4.heap.size) := by show _ ≤ _; have h := hb4.size; simpa using h
  replace BR : Hid (Bx w4 (w.heap.size) [.string rg.1, .string rg.2]) := BR.out.below hb4
  replace HB : Hid (Below w.heap.size w w4) := HB.out.trans (hb4.mono HB.out.size)
  replace MR : Hid (GRow encR w4 a ms) := HMP.out.below HB.out
  replace Y1 : Hid (Lies encR 80 w4 (w2.heap.size) w3.heap.size (.slice ya1 ms.length yc1) ms) := Y1.out.below hb4
  go_wp2_with fail
  refine hK.out _ _ ⟨BR.out.c0, BR.out.c1⟩ (fun hHeld4 => ?_)
  clear hK K hb4
  refine wpAnyH_ready (rs := [4]) (by kernel_rfl) (by simp) ?_
  refine AllReadyH.cons rfl (fun K hK => ?_) AllReadyH.nil
  go_simp
  go_wp2_with fail
  refine (CS.out ya1 yc1 _ Y1.out.growR).mono ?_
  rintro e w5 ⟨sa1, sc1, rfl, hd, hb5⟩
  have Z5 : Hid (w4.heap.size ≤ w5.heap.size) := by show _ ≤ _; have h := hb5.size; simpa using h
  replace BR : Hid (Bx w5 (w.heap.size) [.string rg.1, .string rg.2]) := BR.out.below hb5
  replace HB : Hid (Below w.heap.size w w5) := HB.out.trans (hb5.mono HB.out.size)
  replace MR : Hid (GRow encR w5 a ms) := HMP.out.below HB.out
  replace Y1 : Hid (Lies encR 80 w5 (w2.heap.size) w3.heap.size (.slice ya1 ms.length yc1) ms) := Y1.out.below hb5
  have S1 : Hid (Lies encR 81 w5 (w4.heap.size) w5.heap.size (.slice sa1 rs.length sc1) rs) := hd
  clear hd
  go_wp2_with fail
  refine hK.out _ _ ⟨BR.out.c0, BR.out.c1⟩ (fun hHeld5 => ?_)
  clear hK K hb5
  (refine wpAnyH_take (i := 5) (v := ?_) rfl (by kernel_rfl) (by kernel_rfl) (by kernel_rfl) (fun _ _ _ h => h) (Or.inl ⟨by rfl, ?_⟩) (by assumption) ?_; rotate_left; (focus (intro w hSw; (try dsimp only at hSw); go_simp; (try with_reducible rfl); done)); simp only [Act.put, List.getElem_toArray, List.getElem_cons_zero, List.getElem_cons_succ, List.setIfInBounds_toArray, List.set_cons_zero, List.set_cons_succ])
  refine wpAnyH_done (by kernel_rfl) ?_ _
  clear Y1
  go_wp2_with fail
  refine (toSC ms a c (by omega) _ MR.out).mono ?_
  rintro e w6 ⟨ya2, yc2, rfl, hd, hb6⟩
  have Z6 : Hid (w5.heap.size ≤ w6.heap.size) := by show _ ≤ _; have h := hb6.size; simpa using h
  replace BR : Hid (Bx w6 (w.heap.size) [.string rg.1, .string rg.2]) := BR.out.below hb6
  replace HB : Hid (Below w.heap.size w w6) := HB.out.trans (hb6.mono HB.out.size)
  replace MR : Hid (GRow encR w6 a ms) := HMP.out.below HB.out
  replace S1 : Hid (Lies encR 81 w6 (w4.heap.size) w5.heap.size (.slice sa1 rs.length sc1) rs) := S1.out.below hb6
  have Y2 : Hid (Lies encR 80 w6 (w5.heap.size) w6.heap.size (.slice ya2 ms.length yc2) ms) := Lies.of hd
  clear hd
  clear hb6
  have z0 := BR.out.c0
  have z1 := BR.out.c1
  go_wp2_with fail
  refine (TRg.out _).mono ?_
  rintro e w7 ⟨rfl, hb7⟩
  have Z7 : Hid (w6.heap.size ≤ w7.heap.size) := by show _ ≤ _; have h := hb7.size; simpa using h
  replace BR : Hid (Bx w7 (w.heap.size) [.string rg.1, .string rg.2]) := BR.out.below hb7
  replace HB : Hid (Below w.heap.size w w7) := HB.out.trans (hb7.mono HB.out.size)
  replace MR : Hid (GRow encR w7 a ms) := HMP.out.below HB.out
  replace S1 : Hid (Lies encR 81 w7 (w4.heap.size) w5.heap.size (.slice sa1 rs.length sc1) rs) := S1.out.below hb7
  replace Y2 : Hid (Lies encR 80 w7 (w5.heap.size) w6.heap.size (.slice ya2 ms.length yc2) ms) := Y2.out.below hb7
  clear hb7 z0 z1
  go_wp2_with fail
  refine (CI.out ya2 yc2 _ Y2.out.growR).mono ?_
  rintro e w8 ⟨sa2, sc2, rfl, hd, hb8⟩
  have Z8 : Hid (w7.heap.size ≤ w8.heap.size) := by show _ ≤ _; have h := hb8.size; simpa using h
  replace BR : Hid (Bx w8 (w.heap.size) [.string rg.1, .string rg.2]) := BR.out.below hb8
  replace HB : Hid (Below w.heap.size w w8) := HB.out.trans (hb8.mono HB.out.size)
  replace MR : Hid (GRow encR w8 a ms) := HMP.out.below HB.out
  replace S1 : Hid (Lies encR 81 w8 (w4.heap.size) w5.heap.size (.slice sa1 rs.length sc1) rs) := S1.out.below hb8
  replace Y2 : Hid (Lies encR 80 w8 (w5.heap.size) w6.heap.size (.slice ya2 ms.length yc2) ms) := Y2.out.below hb8
  have S2 : Hid (Lies encR 81 w8 (w7.heap.size) w8.heap.size (.slice sa2 rs.length sc2) rs) := hd
  clear hd
  clear hb8
  go_wp2_with fail
  refine (eqSP sa2 sa1 sc2 sc1 rs (by omega) _ S2.out.growR S1.out.growR).mono ?_
  rintro e w9 ⟨rfl, hb9⟩
  have Z9 : Hid (w8.heap.size ≤ w9.heap.size) := by show _ ≤ _; have h := hb9.size; simpa using h
  replace BR : Hid (Bx w9 (w.heap.size) [.string rg.1, .string rg.2]) := BR.out.below hb9
  replace HB : Hid (Below w.heap.size w w9) := HB.out.trans (hb9.mono HB.out.size)
  replace MR : Hid (GRow encR w9 a ms) := HMP.out.below HB.out
  replace S1 : Hid (Lies encR 81 w9 (w4.heap.size) w5.heap.size (.slice sa1 rs.length sc1) rs) := S1.out.below hb9
  replace Y2 : Hid (Lies encR 80 w9 (w5.heap.size) w6.heap.size (.slice ya2 ms.length yc2) ms) := Y2.out.below hb9
  replace S2 : Hid (Lies encR 81 w9 (w7.heap.size) w8.heap.size (.slice sa2 rs.length sc2) rs) := S2.out.below hb9
  clear hb9
  go_wp2_with fail
  refine (toSC ms a c (by omega) _ MR.out).mono ?_
  rintro e w10 ⟨ya3, yc3, rfl, hd, hb10⟩
  have Z10 : Hid (w9.heap.size ≤ w10.heap.size) := by show _ ≤ _; have h := hb10.size; simpa using h
  replace BR : Hid (Bx w10 (w.heap.size) [.string rg.1, .string rg.2]) := BR.out.below hb10
  replace HB : Hid (Below w.heap.size w w10) := HB.out.trans (hb10.mono HB.out.size)
  replace MR : Hid (GRow encR w10 a ms) := HMP.out.below HB.out
  replace S1 : Hid (Lies encR 81 w10 (w4.heap.size) w5.heap.size (.slice sa1 rs.length sc1) rs) := S1.out.below hb10
  replace Y2 : Hid (Lies encR 80 w10 (w5.heap.size) w6.heap.size (.slice ya2 ms.length yc2) ms) := Y2.out.below hb10
  replace S2 : Hid (Lies encR 81 w10 (w7.heap.size) w8.heap.size (.slice sa2 rs.length sc2) rs) := S2.out.below hb10
  have Y3 : Hid (Lies encR 80 w10 (w9.heap.size) w10.heap.size (.slice ya3 ms.length yc3) ms) := Lies.of hd
  clear hd
  clear hb10
  go_wp2_with fail
  refine (eqSC ya2 ya3 yc2 yc3 ms (by omega) _ Y2.out.growR Y3.out.growR).mono ?_
  rintro e w11 ⟨rfl, hb11⟩
  have Z11 : Hid (w10.heap.size ≤ w11.heap.size) := by show _ ≤ _; have h := hb11.size; simpa using h
  replace BR : Hid (Bx w11 (w.heap.size) [.string rg.1, .string rg.2]) := BR.out.below hb11
  replace HB : Hid (Below w.heap.size w w11) := HB.out.trans (hb11.mono HB.out.size)
  replace MR : Hid (GRow encR w11 a ms) := HMP.out.below HB.out
  replace S1 : Hid (Lies encR 81 w11 (w4.heap.size) w5.heap.size (.slice sa1 rs.length sc1) rs) := S1.out.below hb11
  replace Y2 : Hid (Lies encR 80 w11 (w5.heap.size) w6.heap.size (.slice ya2 ms.length yc2) ms) := Y2.out.below hb11
  replace S2 : Hid (Lies encR 81 w11 (w7.heap.size) w8.heap.size (.slice sa2 rs.length sc2) rs) := S2.out.below hb11
  replace Y3 : Hid (Lies encR 80 w11 (w9.heap.size) w10.heap.size (.slice ya3 ms.length yc3) ms) := Y3.out.below hb11
  clear hb11
  clear Y3
  go_wp2_with fail
  refine (markC ms.length 1 ya2 yc2 _ _ (by omega) (by omega) (by omega) _ Y2.out.own).mono ?_
  rintro e w12 ⟨rfl, _, hg12⟩
  have hz12 : Zn (w5.heap.size) (w6.heap.size) _ w12 := Zn.ofGrown hg12 (fun g h => Y2.out.lo g h)
  clear hg12
  have Z12 : Hid (w11.heap.size ≤ w12.heap.size) := hz12.size
  replace BR : Hid (Bx w12 (w.heap.size) [.string rg.1, .string rg.2]) := BR.out.zn hz12 (by have := Z1.out; have := Z2.out; have := Z3.out; have := Z4.out; have := Z5.out; have := Z6.out; have := Z7.out; have := Z8.out; have := Z9.out; have := Z10.out; have := Z11.out; omega)
  replace HB : Hid (Below w.heap.size w w12) := HB.out.trans (hz12.below (by have := Z1.out; have := Z2.out; have := Z3.out; have := Z4.out; have := Z5.out; have := Z6.out; have := Z7.out; have := Z8.out; have := Z9.out; have := Z10.out; have := Z11.out; omega) HB.out.size)
  replace MR : Hid (GRow encR w12 a ms) := HMP.out.below HB.out
  replace S1 : Hid (Lies encR 81 w12 (w4.heap.size) w5.heap.size (.slice sa1 rs.length sc1) rs) := S1.out.zn hz12 (by have := Z1.out; have := Z2.out; have := Z3.out; have := Z4.out; have := Z5.out; have := Z6.out; have := Z7.out; have := Z8.out; have := Z9.out; have := Z10.out; have := Z11.out; omega)
  replace S2 : Hid (Lies encR 81 w12 (w7.heap.size) w8.heap.size (.slice sa2 rs.length sc2) rs) := S2.out.zn hz12 (by have := Z1.out; have := Z2.out; have := Z3.out; have := Z4.out; have := Z5.out; have := Z6.out; have := Z7.out; have := Z8.out; have := Z9.out; have := Z10.out; have := Z11.out; omega)
  clear hz12 Y2
  obtain ⟨q1, hq1⟩ : ∃ q1 : Nat, q1 = 1 + 2 * ms.length := ⟨_, rfl⟩
  rw [← hq1]
  clear hq1
  have hK1a : ¬ (q1 : Int) < 0 := by omega
  have hK1b : decide ((q1 : Int) < 0) = false := by simp
  go_wp2_with fail
  refine (eqSP sa2 sa1 sc2 sc1 rs (by omega) _ S2.out.growR S1.out.growR).mono ?_
  rintro e w13 ⟨rfl, hb13⟩
  have Z13 : Hid (w12.heap.size ≤ w13.heap.size) := by show _ ≤ _; have h := hb13.size; simpa using h
  replace BR : Hid (Bx w13 (w.heap.size) [.string rg.1, .string rg.2]) := BR.out.below hb13
  replace HB : Hid (Below w.heap.size w w13) := HB.out.trans (hb13.mono HB.out.size)
  replace MR : Hid (GRow encR w13 a ms) := HMP.out.below HB.out
  replace S1 : Hid (Lies encR 81 w13 (w4.heap.size) w5.heap.size (.slice sa1 rs.length sc1) rs) := S1.out.below hb13
  replace S2 : Hid (Lies encR 81 w13 (w7.heap.size) w8.heap.size (.slice sa2 rs.length sc2) rs) := S2.out.below hb13
  clear hb13
  go_wp2_with fail
  refine (markQ rs.length 1 sa2 sc2 _ _ (by omega) (by omega) (by omega) _ S2.out.own).mono ?_
  rintro e w14 ⟨rfl, hm2, hg14⟩
  have hz14 : Zn (w7.heap.size) (w8.heap.size) _ w14 := Zn.ofGrown hg14 (fun g h => S2.out.lo g h)
  clear hg14
  have Z14 : Hid (w13.heap.size ≤ w14.heap.size) := hz14.size
  replace BR : Hid (Bx w14 (w.heap.size) [.string rg.1, .string rg.2]) := BR.out.zn hz14 (by have := Z1.out; have := Z2.out; have := Z3.out; have := Z4.out; have := Z5.out; have := Z6.out; have := Z7.out; have := Z8.out; have := Z9.out; have := Z10.out; have := Z11.out; have := Z12.out; have := Z13.out; omega)
  replace HB : Hid (Below w.heap.size w w14) := HB.out.trans (hz14.below (by have := Z1.out; have := Z2.out; have := Z3.out; have := Z4.out; have := Z5.out; have := Z6.out; have := Z7.out; have := Z8.out; have := Z9.out; have := Z10.out; have := Z11.out; have := Z12.out; have := Z13.out; omega) HB.out.size)
  replace MR : Hid (GRow encR w14 a ms) := HMP.out.below HB.out
  replace S1 : Hid (Lies encR 81 w14 (w4.heap.size) w5.heap.size (.slice sa1 rs.length sc1) rs) := S1.out.zn hz14 (by have := Z1.out; have := Z2.out; have := Z3.out; have := Z4.out; have := Z5.out; have := Z6.out; have := Z7.out; have := Z8.out; have := Z9.out; have := Z10.out; have := Z11.out; have := Z12.out; have := Z13.out; omega)
  have MO : Hid (Lies encR 81 w14 (w7.heap.size) (w8.heap.size) (.slice sa2 rs.length sc2) (mkQ 1 rs.length)) := ⟨hm2, S2.out.up⟩
  clear hm2
  clear hz14 S2
  obtain ⟨q3, hq3⟩ : ∃ q3 : Nat, q3 = 1 + 2 * rs.length := ⟨_, rfl⟩
  have HQ3 : Hid (q3 = 1 + 2 * rs.length) := hq3
  rw [← hq3]
  clear hq3
  have hK3a : ¬ (q3 : Int) < 0 := by omega
  have hK3b : ((q3 : Int) != (q3 : Int)) = false := by simp
  have HH := hide (heldQ rs.length 1 sa2 sc2 (by omega) (by omega) (by omega) _ (growNR MO.out (mkQ_len _ _).symm))
  rw [← HQ3.out] at HH
  go_wp2_with fail
  refine (HH.out).mono ?_
  rintro e w15 ⟨rfl, hb15⟩
  have Z15 : Hid (w14.heap.size ≤ w15.heap.size) := by show _ ≤ _; have h := hb15.size; simpa using h
  replace BR : Hid (Bx w15 (w.heap.size) [.string rg.1, .string rg.2]) := BR.out.below hb15
  replace HB : Hid (Below w.heap.size w w15) := HB.out.trans (hb15.mono HB.out.size)
  replace MR : Hid (GRow encR w15 a ms) := HMP.out.below HB.out
  replace S1 : Hid (Lies encR 81 w15 (w4.heap.size) w5.heap.size (.slice sa1 rs.length sc1) rs) := S1.out.below hb15
  replace MO : Hid (Lies encR 81 w15 (w7.heap.size) (w8.heap.size) (.slice sa2 rs.length sc2) (mkQ 1 rs.length)) := MO.out.below hb15
  clear hb15 HH
  go_wp2
  refine wp_region_held_drew (S := fun w' => w'.cell? ⟨w.heap.size, 0, none⟩ = some (.string rg.1) ∧ w'.cell? ⟨w.heap.size, 1, none⟩ = some (.string rg.2)) (by kernel_rfl) ⟨BR.out.c0, BR.out.c1⟩ (fun hHeld => ?_)
  (refine wpAnyH_take (i := 0) (v := ?_) rfl (by kernel_rfl) (by kernel_rfl) (by kernel_rfl) (fun _ _ _ h => h) (Or.inl ⟨by rfl, ?_⟩) (by assumption) ?_; rotate_left; (focus (intro w hSw; (try dsimp only at hSw); go_simp; (try with_reducible rfl); done)); simp only [Act.put, List.getElem_toArray, List.getElem_cons_zero, List.setIfInBounds_toArray, List.set_cons_zero, List.set_cons_succ])
  (refine wpAnyH_take (i := 2) (v := ?_) rfl (by kernel_rfl) (by kernel_rfl) (by kernel_rfl) (fun _ _ _ h => h) (Or.inl ⟨by rfl, ?_⟩) (by assumption) ?_; rotate_left; (focus (intro w hSw; (try dsimp only at hSw); go_simp; (try with_reducible rfl); done)); simp only [Act.put, List.getElem_toArray, List.getElem_cons_zero, List.getElem_cons_succ, List.setIfInBounds_toArray, List.set_cons_zero, List.set_cons_succ])
  refine wpAnyH_ready (rs := [1]) (by kernel_rfl) (by simp) ?_
  refine AllReadyH.cons rfl (fun K hK => ?_) AllReadyH.nil
  go_simp
  go_wp2_with fail
  refine (toSC ms a c (by omega) _ MR.out.drew).mono ?_
  rintro e w16 ⟨ya4, yc4, rfl, hd, hb16⟩
  have hbu16 := undrew hb16
  have Z16 : Hid (w15.heap.size ≤ w16.heap.size) := by show _ ≤ _; have h := hbu16.size; simpa using h
  replace BR : Hid (Bx w16 (w.heap.size) [.string rg.1, .string rg.2]) := BR.out.below hbu16
  replace HB : Hid (Below w.heap.size w w16) := HB.out.trans (hbu16.mono HB.out.size)
  replace MR : Hid (GRow encR w16 a ms) := HMP.out.below HB.out
  replace S1 : Hid (Lies encR 81 w16 (w4.heap.size) w5.heap.size (.slice sa1 rs.length sc1) rs) := S1.out.below hbu16
  replace MO : Hid (Lies encR 81 w16 (w7.heap.size) (w8.heap.size) (.slice sa2 rs.length sc2) (mkQ 1 rs.length)) := MO.out.below hbu16
  have Y4 : Hid (Lies encR 80 w16 (w15.heap.size) w16.heap.size (.slice ya4 ms.length yc4) ms) := Lies.of hd
  clear hd
  go_wp2_with fail
  refine hK.out _ _ ⟨BR.out.c0, BR.out.c1⟩ (fun hHeld16 => ?_)
  clear hK K hb16 hbu16
  refine wpAnyH_ready (rs := [3]) (by kernel_rfl) (by simp) ?_
  refine AllReadyH.cons rfl (fun K hK => ?_) AllReadyH.nil
  go_simp
  go_wp2_with fail
  refine (TRg.out _).mono ?_
  rintro e w17 ⟨rfl, hb17⟩
  have Z17 : Hid (w16.heap.size ≤ w17.heap.size) := by show _ ≤ _; have h := hb17.size; simpa using h
  replace BR : Hid (Bx w17 (w.heap.size) [.string rg.1, .string rg.2]) := BR.out.below hb17
  replace HB : Hid (Below w.heap.size w w17) := HB.out.trans (hb17.mono HB.out.size)
  replace MR : Hid (GRow encR w17 a ms) := HMP.out.below HB.out
  replace S1 : Hid (Lies encR 81 w17 (w4.heap.size) w5.heap.size (.slice sa1 rs.length sc1) rs) := S1.out.below hb17
  replace MO : Hid (Lies encR 81 w17 (w7.heap.size) (w8.heap.size) (.slice sa2 rs.length sc2) (mkQ 1 rs.length)) := MO.out.below hb17
  replace Y4 : Hid (Lies encR 80 w17 (w15.heap.size) w16.heap.size (.slice ya4 ms.length yc4) ms) := Y4.out.below hb17
  go_wp2_with fail
  refine hK.out _ _ ⟨BR.out.c0, BR.out.c1⟩ (fun hHeld17 => ?_)
  clear hK K hb17
  refine wpAnyH_ready (rs := [4]) (by kernel_rfl) (by simp) ?_
  refine AllReadyH.cons rfl (fun K hK => ?_) AllReadyH.nil
  go_simp
  go_wp2_with fail
  refine (CI.out ya4 yc4 _ Y4.out.growR).mono ?_
  rintro e w18 ⟨sa4, sc4, rfl, hd, hb18⟩
  have Z18 : Hid (w17.heap.size ≤ w18.heap.size) := by show _ ≤ _; have h := hb18.size; simpa using h
  replace BR : Hid (Bx w18 (w.heap.size) [.string rg.1, .string rg.2]) := BR.out.below hb18
  replace HB : Hid (Below w.heap.size w w18) := HB.out.trans (hb18.mono HB.out.size)
  replace MR : Hid (GRow encR w18 a ms) := HMP.out.below HB.out
  replace S1 : Hid (Lies encR 81 w18 (w4.heap.size) w5.heap.size (.slice sa1 rs.length sc1) rs) := S1.out.below hb18
  replace MO : Hid (Lies encR 81 w18 (w7.heap.size) (w8.heap.size) (.slice sa2 rs.length sc2) (mkQ 1 rs.length)) := MO.out.below hb18
  replace Y4 : Hid (Lies encR 80 w18 (w15.heap.size) w16.heap.size (.slice ya4 ms.length yc4) ms) := Y4.out.below hb18
  have S4 : Hid (Lies encR 81 w18 (w17.heap.size) w18.heap.size (.slice sa4 rs.length sc4) rs) := hd
  clear hd
  go_wp2_with fail
  refine hK.out _ _ ⟨BR.out.c0, BR.out.c1⟩ (fun hHeld18 => ?_)
  clear hK K hb18
  (refine wpAnyH_take (i := 5) (v := ?_) rfl (by kernel_rfl) (by kernel_rfl) (by kernel_rfl) (fun _ _ _ h => h) (Or.inl ⟨by rfl, ?_⟩) (by assumption) ?_; rotate_left; (focus (intro w hSw; (try dsimp only at hSw); go_simp; (try with_reducible rfl); done)); simp only [Act.put, List.getElem_toArray, List.getElem_cons_zero, List.getElem_cons_succ, List.setIfInBounds_toArray, List.set_cons_zero, List.set_cons_succ])
  refine wpAnyH_done (by kernel_rfl) ?_ _
  clear Y4
  go_wp2_with fail
  refine (eqSP sa4 sa1 sc4 sc1 rs (by omega) _ S4.out.growR S1.out.growR).mono ?_
  rintro e w19 ⟨rfl, hb19⟩
  have Z19 : Hid (w18.heap.size ≤ w19.heap.size) := by show _ ≤ _; have h := hb19.size; simpa using h
  replace BR : Hid (Bx w19 (w.heap.size) [.string rg.1, .string rg.2]) := BR.out.below hb19
  replace HB : Hid (Below w.heap.size w w19) := HB.out.trans (hb19.mono HB.out.size)
  replace MR : Hid (GRow encR w19 a ms) := HMP.out.below HB.out
  replace S1 : Hid (Lies encR 81 w19 (w4.heap.size) w5.heap.size (.slice sa1 rs.length sc1) rs) := S1.out.below hb19
  replace MO : Hid (Lies encR 81 w19 (w7.heap.size) (w8.heap.size) (.slice sa2 rs.length sc2) (mkQ 1 rs.length)) := MO.out.below hb19
  replace S4 : Hid (Lies encR 81 w19 (w17.heap.size) w18.heap.size (.slice sa4 rs.length sc4) rs) := S4.out.below hb19
  clear hb19
  have HH := hide (heldQ rs.length 1 sa2 sc2 (by omega) (by omega) (by omega) _ (growNR MO.out (mkQ_len _ _).symm))
  rw [← HQ3.out] at HH
  go_wp2_with fail
  refine (HH.out).mono ?_
  rintro e w20 ⟨rfl, hb20⟩
  have Z20 : Hid (w19.heap.size ≤ w20.heap.size) := by show _ ≤ _; have h := hb20.size; simpa using h
  replace BR : Hid (Bx w20 (w.heap.size) [.string rg.1, .string rg.2]) := BR.out.below hb20
  replace HB : Hid (Below w.heap.size w w20) := HB.out.trans (hb20.mono HB.out.size)
  replace MR : Hid (GRow encR w20 a ms) := HMP.out.below HB.out
  replace S1 : Hid (Lies encR 81 w20 (w4.heap.size) w5.heap.size (.slice sa1 rs.length sc1) rs) := S1.out.below hb20
  replace MO : Hid (Lies encR 81 w20 (w7.heap.size) (w8.heap.size) (.slice sa2 rs.length sc2) (mkQ 1 rs.length)) := MO.out.below hb20
  replace S4 : Hid (Lies encR 81 w20 (w17.heap.size) w18.heap.size (.slice sa4 rs.length sc4) rs) := S4.out.below hb20
  clear hb20 HH
  go_wp2
  go_ret
  exact ⟨rfl, HB.out⟩
end Go.Proofs.Ytebcfdomjlikoaa

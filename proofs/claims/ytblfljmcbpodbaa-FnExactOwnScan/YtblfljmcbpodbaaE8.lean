/- The law FnExactOwnScan, walked. -/
import Derived.Test.YtblfljmcbpodbaaB3
import Derived.Test.YtblfljmcbpodbaaE4
import Derived.Test.YtblfljmcbpodbaaZn
import Derived.Test.YtblfljmcbpodbaaR1
namespace Go.Proofs.Ytblfljmcbpodbaa
open Go.RowKit
open KM
open VM
attribute [local go_sem ↓] Go.wp_at_zero Go.wp_at_succ

set_option maxRecDepth 100000 in
set_option maxHeartbeats 4000000 in
theorem law8 (t : Tx) (ra wa : Option Addr) (rc wc : Nat) (vs : List Vr) (va : Option Addr) (vc : Nat) (f t2 : ByteArray) (w : World) (hp : TArg w t ra wa) (hvn : vs.length ≤ maxLen) (hvl : ∀ x ∈ vs, x.1.size ≤ maxLen ∧ x.2.1.size ≤ maxLen) (hvp : GRow encV w va vs) (hf : f.size ≤ maxLen) (ht : t2.size ≤ maxLen) : Calls Try.prog 8 #[.agg #[.int .i64 t.id, .int .i64 t.st, .int .i64 t.snap, .int .i64 t.cs, .slice ra t.rs.length rc, .slice wa t.ws.length wc, .bool t.out, .string t.nm], .slice va vs.length vc, .agg #[.string f, .string t2]] w fun e w' => e = .returned (.bool true) ∧ Below w.heap.size w w' := by
  obtain ⟨rg, hrg⟩ : ∃ rg : Rg, rg = (f, t2) := ⟨_, rfl⟩
  have e1 : f = rg.1 := by rw [hrg]
  have e2 : t2 = rg.2 := by rw [hrg]
  rw [e1] at hf
  rw [e2] at ht
  rw [e1, e2]
  clear e1 e2 hrg
  have HP : Hid (TArg w t ra wa) := hp
  have HVL : Hid (∀ x ∈ vs, x.1.size ≤ maxLen ∧ x.2.1.size ≤ maxLen) := hvl
  have HVP : Hid (GRow encV w va vs) := hvp
  clear hp hvl hvp
  unfold maxLen at hvn
  have BA : Hid (Bx ((w.alloc (.cells #[.int .i64 t.id, .int .i64 t.st, .int .i64 t.snap, .int .i64 t.cs, .slice ra t.rs.length rc, .slice wa t.ws.length wc, .bool t.out, .string t.nm] 47)).alloc (.cells #[.string rg.1, .string rg.2] 53)) (w.heap.size) [.int .i64 t.id, .int .i64 t.st, .int .i64 t.snap, .int .i64 t.cs, .slice ra t.rs.length rc, .slice wa t.ws.length wc, .bool t.out, .string t.nm]) := (Bx.new w [.int .i64 t.id, .int .i64 t.st, .int .i64 t.snap, .int .i64 t.cs, .slice ra t.rs.length rc, .slice wa t.ws.length wc, .bool t.out, .string t.nm] 47).alloc _
  have BR : Hid (Bx ((w.alloc (.cells #[.int .i64 t.id, .int .i64 t.st, .int .i64 t.snap, .int .i64 t.cs, .slice ra t.rs.length rc, .slice wa t.ws.length wc, .bool t.out, .string t.nm] 47)).alloc (.cells #[.string rg.1, .string rg.2] 53)) (w.heap.size + 1) [.string rg.1, .string rg.2]) := by
    have h := Bx.new (w.alloc (.cells #[.int .i64 t.id, .int .i64 t.st, .int .i64 t.snap, .int .i64 t.cs, .slice ra t.rs.length rc, .slice wa t.ws.length wc, .bool t.out, .string t.nm] 47)) [.string rg.1, .string rg.2] 53
    rw [World.size_alloc] at h
    exact h
  have HB : Hid (Below w.heap.size w ((w.alloc (.cells #[.int .i64 t.id, .int .i64 t.st, .int .i64 t.snap, .int .i64 t.cs, .slice ra t.rs.length rc, .slice wa t.ws.length wc, .bool t.out, .string t.nm] 47)).alloc (.cells #[.string rg.1, .string rg.2] 53))) := ((belowRefl w).alloc (Nat.le_refl _) _).alloc (by simp) _
  have TR : Hid (TRow ((w.alloc (.cells #[.int .i64 t.id, .int .i64 t.st, .int .i64 t.snap, .int .i64 t.cs, .slice ra t.rs.length rc, .slice wa t.ws.length wc, .bool t.out, .string t.nm] 47)).alloc (.cells #[.string rg.1, .string rg.2] 53)) t ra wa) := HP.out.row.below HB.out
  have VR : Hid (GRow encV ((w.alloc (.cells #[.int .i64 t.id, .int .i64 t.st, .int .i64 t.snap, .int .i64 t.cs, .slice ra t.rs.length rc, .slice wa t.ws.length wc, .bool t.out, .string t.nm] 47)).alloc (.cells #[.string rg.1, .string rg.2] 53)) va vs) := HVP.out.below HB.out
  go_enter Try.func8, Try.ntmps8
  go_wp2_with fail
  refine (szT t ra wa rc wc 1048576 (by omega) (by omega) _ ⟨HP.out.rl, HP.out.rf, HP.out.wl, HP.out.wf, HP.out.nm, TR.out⟩).mono ?_
  rintro e w1 ⟨hb1, r0, rfl, hu0, hr0⟩
  have Z1 : Hid (w.heap.size + 1 + 1 ≤ w1.heap.size) := by show _ ≤ _; have h := hb1.size; simpa using h
  replace BA : Hid (Bx w1 (w.heap.size) [.int .i64 t.id, .int .i64 t.st, .int .i64 t.snap, .int .i64 t.cs, .slice ra t.rs.length rc, .slice wa t.ws.length wc, .bool t.out, .string t.nm]) := BA.out.below hb1
  replace BR : Hid (Bx w1 (w.heap.size + 1) [.string rg.1, .string rg.2]) := BR.out.below hb1
  replace HB : Hid (Below w.heap.size w w1) := HB.out.trans (hb1.mono HB.out.size)
  replace TR : Hid (TRow w1 t ra wa) := HP.out.row.below HB.out
  replace VR : Hid (GRow encV w1 va vs) := HVP.out.below HB.out
  clear hb1
  by_cases hneg : r0 < 0
  · clear hr0
    go_wp2
    go_ret
    exact ⟨rfl, HB.out⟩
  have hpos : ¬ r0 < 0 := hneg
  have hpos' : 0 ≤ r0 := by omega
  have HF : Hid (TFit t) := hr0 (by omega)
  clear hr0 hneg
  have hrl : t.rs.length ≤ 1048576 := HF.out.1
  have hwl : t.ws.length ≤ 1048576 := HF.out.2.2.1
  go_wp2_with fail
  refine (szSV vs va vc hvn HVL.out r0 hpos' hu0 _ VR.out).mono ?_
  rintro e w2 ⟨hb2, r1, rfl, hu1, hr1⟩
  have Z2 : Hid (w1.heap.size ≤ w2.heap.size) := by show _ ≤ _; have h := hb2.size; simpa using h
  replace BA : Hid (Bx w2 (w.heap.size) [.int .i64 t.id, .int .i64 t.st, .int .i64 t.snap, .int .i64 t.cs, .slice ra t.rs.length rc, .slice wa t.ws.length wc, .bool t.out, .string t.nm]) := BA.out.below hb2
  replace BR : Hid (Bx w2 (w.heap.size + 1) [.string rg.1, .string rg.2]) := BR.out.below hb2
  replace HB : Hid (Below w.heap.size w w2) := HB.out.trans (hb2.mono HB.out.size)
  replace TR : Hid (TRow w2 t ra wa) := HP.out.row.below HB.out
  replace VR : Hid (GRow encV w2 va vs) := HVP.out.below HB.out
  clear hb2
  by_cases hneg1 : r1 < 0
  · clear hr1
    go_wp2
    go_ret
    exact ⟨rfl, HB.out⟩
  have hpos1 : ¬ r1 < 0 := hneg1
  have HVF : Hid (VFit vs) := (hr1 (by omega)).2
  have hvn' : vs.length ≤ 1048576 := (hr1 (by omega)).1
  clear hr1 hneg1
  have y0 := BR.out.c0
  have y1 := BR.out.c1
  go_wp2_with fail
  refine (szr rg.1 rg.2 r1 (by omega) hu1 hf ht _).mono ?_
  rintro e w3 ⟨r2, rfl, hr2, hb3⟩
  have Z3 : Hid (w2.heap.size ≤ w3.heap.size) := by show _ ≤ _; have h := hb3.size; simpa using h
  replace BA : Hid (Bx w3 (w.heap.size) [.int .i64 t.id, .int .i64 t.st, .int .i64 t.snap, .int .i64 t.cs, .slice ra t.rs.length rc, .slice wa t.ws.length wc, .bool t.out, .string t.nm]) := BA.out.below hb3
  replace BR : Hid (Bx w3 (w.heap.size + 1) [.string rg.1, .string rg.2]) := BR.out.below hb3
  replace HB : Hid (Below w.heap.size w w3) := HB.out.trans (hb3.mono HB.out.size)
  replace TR : Hid (TRow w3 t ra wa) := HP.out.row.below HB.out
  replace VR : Hid (GRow encV w3 va vs) := HVP.out.below HB.out
  clear hb3 y0 y1 hr2
  by_cases hneg2 : r2 < 0
  · go_wp2
    go_ret
    exact ⟨rfl, HB.out⟩
  have hpos2 : ¬ r2 < 0 := hneg2
  clear hneg2
  have CI : Hid (∀ pa pc qa qc va vc w, GRow encW w qa t.ws → GRow encV w va vs → Calls Try.prog 14 #[.agg #[.int .i64 t.id, .int .i64 t.st, .int .i64 t.snap, .int .i64 t.cs, .slice pa t.rs.length pc, .slice qa t.ws.length qc, .bool t.out, .string t.nm], .slice va vs.length vc, .agg #[.string rg.1, .string rg.2]] w fun e w' => ∃ a1 c1, e = .returned (.slice a1 (scanO t vs rg).length c1) ∧ GOwn encR 41 w' w.heap.size (.slice a1 (scanO t vs rg).length c1) (scanO t vs rg) ∧ Below w.heap.size w w') := fun pa pc qa qc va vc w h1 h2 => iscanO t pa qa pc qc vs va vc rg (by omega) HF.out.2.2.2.1 (by omega) HVF.out w h1 h2
  have CS : Hid (∀ pa pc qa qc va vc b w, GRow encW w qa t.ws → GOwn encV 91 w b (.slice va vs.length vc) vs → Calls Try.prog 19 #[.agg #[.int .i64 t.id, .int .i64 t.st, .int .i64 t.snap, .int .i64 t.cs, .slice pa t.rs.length pc, .slice qa t.ws.length qc, .bool t.out, .string t.nm], .slice va vs.length vc, .agg #[.string rg.1, .string rg.2]] w fun e w' => ∃ a1 c1, e = .returned (.slice a1 (scanO t vs rg).length c1) ∧ GOwn encR 41 w' w.heap.size (.slice a1 (scanO t vs rg).length c1) (scanO t vs rg) ∧ Below w.heap.size w w') := fun pa pc qa qc va vc b w h1 h2 => sscanO t pa qa pc qc vs va vc b rg (by omega) (by omega) w h1 h2
  have TRg : Hid (∀ w, Calls Try.prog 27 #[.agg #[.string rg.1, .string rg.2]] w fun e w' => e = .returned (.agg #[.string rg.1, .string rg.2]) ∧ Below w.heap.size w w') := fun w => tor rg.1 rg.2 w
  have hol : (scanO t vs rg).length ≤ 3000000 := by
    unfold scanO
    refine Nat.le_trans (fmap_len _ _) (Nat.le_trans (List.length_filter_le _ _) (Nat.le_trans (keys_len _) ?_))
    rw [List.length_append, List.length_map, List.length_map]; omega
  generalize scanO t vs rg = rs at CI CS hol
  go_wp2
  refine wp_region_held_drew (S := fun w' => w'.cell? ⟨w.heap.size, 0, none⟩ = some (.int .i64 t.id) ∧ w'.cell? ⟨w.heap.size, 1, none⟩ = some (.int .i64 t.st) ∧ w'.cell? ⟨w.heap.size, 2, none⟩ = some (.int .i64 t.snap) ∧ w'.cell? ⟨w.heap.size, 3, none⟩ = some (.int .i64 t.cs) ∧ w'.cell? ⟨w.heap.size, 4, none⟩ = some (.slice ra t.rs.length rc) ∧ w'.cell? ⟨w.heap.size, 5, none⟩ = some (.slice wa t.ws.length wc) ∧ w'.cell? ⟨w.heap.size, 6, none⟩ = some (.bool t.out) ∧ w'.cell? ⟨w.heap.size, 7, none⟩ = some (.string t.nm) ∧ w'.cell? ⟨w.heap.size + 1, 0, none⟩ = some (.string rg.1) ∧ w'.cell? ⟨w.heap.size + 1, 1, none⟩ = some (.string rg.2)) (by kernel_rfl) ⟨BA.out.c0, BA.out.c1, BA.out.c2, BA.out.c3, BA.out.c4, BA.out.c5, BA.out.c6, BA.out.c7, BR.out.c0, BR.out.c1⟩ (fun hHeld => ?_)
  (refine wpAnyH_take (i := 0) (v := ?_) rfl (by kernel_rfl) (by kernel_rfl) (by kernel_rfl) (fun _ _ _ h => h) (Or.inl ⟨by rfl, ?_⟩) (by assumption) ?_; rotate_left; (focus (intro w hSw; (try dsimp only at hSw); go_simp; (try with_reducible rfl); done)); simp only [Act.put, List.getElem_toArray, List.getElem_cons_zero, List.setIfInBounds_toArray, List.set_cons_zero, List.set_cons_succ])
  (refine wpAnyH_take (i := 2) (v := ?_) rfl (by kernel_rfl) (by kernel_rfl) (by kernel_rfl) (fun _ _ _ h => h) (Or.inl ⟨by rfl, ?_⟩) (by assumption) ?_; rotate_left; (focus (intro w hSw; (try dsimp only at hSw); go_simp; (try with_reducible rfl); done)); simp only [Act.put, List.getElem_toArray, List.getElem_cons_zero, List.getElem_cons_succ, List.setIfInBounds_toArray, List.set_cons_zero, List.set_cons_succ])
  (refine wpAnyH_take (i := 4) (v := ?_) rfl (by kernel_rfl) (by kernel_rfl) (by kernel_rfl) (fun _ _ _ h => h) (Or.inl ⟨by rfl, ?_⟩) (by assumption) ?_; rotate_left; (focus (intro w hSw; (try dsimp only at hSw); go_simp; (try with_reducible rfl); done)); simp only [Act.put, List.getElem_toArray, List.getElem_cons_zero, List.getElem_cons_succ, List.setIfInBounds_toArray, List.set_cons_zero, List.set_cons_succ])
  refine wpAnyH_ready (rs := [1]) (by kernel_rfl) (by simp) ?_
  refine AllReadyH.cons rfl (fun K hK => ?_) AllReadyH.nil
  go_simp
  go_wp2_with fail
  refine (toT t ra wa rc wc (by omega) (by omega) _ TR.out.drewT).mono ?_
  rintro e w4 ⟨pa1, pc1, qa1, qc1, rfl, hl, hb4⟩
  have hbu4 := undrew hb4
  have Z4 : Hid (w3.heap.size ≤ w4.heap.size) := by show _ ≤ _; have h := hbu4.size; simpa using h
  replace BA : Hid (Bx w4 (w.heap.size) [.int .i64 t.id, .int .i64 t.st, .int .i64 t.snap, .int .i64 t.cs, .slice ra t.rs.length rc, .slice wa t.ws.length wc, .bool t.out, .string t.nm]) := BA.out.below hbu4
  replace BR : Hid (Bx w4 (w.heap.size + 1) [.string rg.1, .string rg.2]) := BR.out.below hbu4
  replace HB : Hid (Below w.heap.size w w4) := HB.out.trans (hbu4.mono HB.out.size)
  replace TR : Hid (TRow w4 t ra wa) := HP.out.row.below HB.out
  replace VR : Hid (GRow encV w4 va vs) := HVP.out.below HB.out
  have T1 : Hid (TLie w4 (w3.heap.size) w4.heap.size t pa1 pc1 qa1 qc1) := hl
  clear hl
  go_wp2_with fail
  refine hK.out _ _ ⟨BA.out.c0, BA.out.c1, BA.out.c2, BA.out.c3, BA.out.c4, BA.out.c5, BA.out.c6, BA.out.c7, BR.out.c0, BR.out.c1⟩ (fun hHeld4 => ?_)
  clear hK K hb4 hbu4
  refine wpAnyH_ready (rs := [3]) (by kernel_rfl) (by simp) ?_
  refine AllReadyH.cons rfl (fun K hK => ?_) AllReadyH.nil
  go_simp
  go_wp2_with fail
  refine (toSV vs va vc (by omega) _ VR.out).mono ?_
  rintro e w5 ⟨ya1, yc1, rfl, hd, hb5⟩
  have Z5 : Hid (w4.heap.size ≤ w5.heap.size) := by show _ ≤ _; have h := hb5.size; simpa using h
  replace BA : Hid (Bx w5 (w.heap.size) [.int .i64 t.id, .int .i64 t.st, .int .i64 t.snap, .int .i64 t.cs, .slice ra t.rs.length rc, .slice wa t.ws.length wc, .bool t.out, .string t.nm]) := BA.out.below hb5
  replace BR : Hid (Bx w5 (w.heap.size + 1) [.string rg.1, .string rg.2]) := BR.out.below hb5
  replace HB : Hid (Below w.heap.size w w5) := HB.out.trans (hb5.mono HB.out.size)
  replace TR : Hid (TRow w5 t ra wa) := HP.out.row.below HB.out
  replace VR : Hid (GRow encV w5 va vs) := HVP.out.below HB.out
  replace T1 : Hid (TLie w5 (w3.heap.size) w4.heap.size t pa1 pc1 qa1 qc1) := T1.out.below hb5
  have Y1 : Hid (Lies encV 91 w5 (w4.heap.size) w5.heap.size (.slice ya1 vs.length yc1) vs) := Lies.of hd
  clear hd
  go_wp2_with fail
  refine hK.out _ _ ⟨BA.out.c0, BA.out.c1, BA.out.c2, BA.out.c3, BA.out.c4, BA.out.c5, BA.out.c6, BA.out.c7, BR.out.c0, BR.out.c1⟩ (fun hHeld5 => ?_)
  clear hK K hb5
  refine wpAnyH_ready (rs := [5]) (by kernel_rfl) (by simp) ?_
  refine AllReadyH.cons rfl (fun K hK => ?_) AllReadyH.nil
  go_simp
  go_wp2_with fail
  refine (TRg.out _).mono ?_
  rintro e w6 ⟨rfl, hb6⟩
  have Z6 : Hid (w5.heap.size ≤ w6.heap.size) := by show _ ≤ _; have h := hb6.size; simpa using h
  replace BA : Hid (Bx w6 (w.heap.size) [.int .i64 t.id, .int .i64 t.st, .int .i64 t.snap, .int .i64 t.cs, .slice ra t.rs.length rc, .slice wa t.ws.length wc, .bool t.out, .string t.nm]) := BA.out.below hb6
  replace BR : Hid (Bx w6 (w.heap.size + 1) [.string rg.1, .string rg.2]) := BR.out.below hb6
  replace HB : Hid (Below w.heap.size w w6) := HB.out.trans (hb6.mono HB.out.size)
  replace TR : Hid (TRow w6 t ra wa) := HP.out.row.below HB.out
  replace VR : Hid (GRow encV w6 va vs) := HVP.out.below HB.out
  replace T1 : Hid (TLie w6 (w3.heap.size) w4.heap.size t pa1 pc1 qa1 qc1) := T1.out.below hb6
  replace Y1 : Hid (Lies encV 91 w6 (w4.heap.size) w5.heap.size (.slice ya1 vs.length yc1) vs) := Y1.out.below hb6
  go_wp2_with fail
  refine hK.out _ _ ⟨BA.out.c0, BA.out.c1, BA.out.c2, BA.out.c3, BA.out.c4, BA.out.c5, BA.out.c6, BA.out.c7, BR.out.c0, BR.out.c1⟩ (fun hHeld6 => ?_)
  clear hK K hb6
  refine wpAnyH_ready (rs := [6]) (by kernel_rfl) (by simp) ?_
  refine AllReadyH.cons rfl (fun K hK => ?_) AllReadyH.nil
  go_simp
  go_wp2_with fail
  refine (CS.out pa1 pc1 qa1 qc1 ya1 yc1 _ _ T1.out.row.w Y1.out.own).mono ?_
  rintro e w7 ⟨sa1, sc1, rfl, hd, hb7⟩
  have Z7 : Hid (w6.heap.size ≤ w7.heap.size) := by show _ ≤ _; have h := hb7.size; simpa using h
  replace BA : Hid (Bx w7 (w.heap.size) [.int .i64 t.id, .int .i64 t.st, .int .i64 t.snap, .int .i64 t.cs, .slice ra t.rs.length rc, .slice wa t.ws.length wc, .bool t.out, .string t.nm]) := BA.out.below hb7
  replace BR : Hid (Bx w7 (w.heap.size + 1) [.string rg.1, .string rg.2]) := BR.out.below hb7
  replace HB : Hid (Below w.heap.size w w7) := HB.out.trans (hb7.mono HB.out.size)
  replace TR : Hid (TRow w7 t ra wa) := HP.out.row.below HB.out
  replace VR : Hid (GRow encV w7 va vs) := HVP.out.below HB.out
  replace T1 : Hid (TLie w7 (w3.heap.size) w4.heap.size t pa1 pc1 qa1 qc1) := T1.out.below hb7
  replace Y1 : Hid (Lies encV 91 w7 (w4.heap.size) w5.heap.size (.slice ya1 vs.length yc1) vs) := Y1.out.below hb7
  have S1 : Hid (Lies encR 41 w7 (w6.heap.size) w7.heap.size (.slice sa1 rs.length sc1) rs) := Lies.of hd
  clear hd
  go_wp2_with fail
  refine hK.out _ _ ⟨BA.out.c0, BA.out.c1, BA.out.c2, BA.out.c3, BA.out.c4, BA.out.c5, BA.out.c6, BA.out.c7, BR.out.c0, BR.out.c1⟩ (fun hHeld7 => ?_)
  clear hK K hb7
  (refine wpAnyH_take (i := 7) (v := ?_) rfl (by kernel_rfl) (by kernel_rfl) (by kernel_rfl) (fun _ _ _ h => h) (Or.inl ⟨by rfl, ?_⟩) (by assumption) ?_; rotate_left; (focus (intro w hSw; (try dsimp only at hSw); go_simp; (try with_reducible rfl); done)); simp only [Act.put, List.getElem_toArray, List.getElem_cons_zero, List.getElem_cons_succ, List.setIfInBounds_toArray, List.set_cons_zero, List.set_cons_succ])
  refine wpAnyH_done (by kernel_rfl) ?_ _
  clear T1 Y1
  have x0 := BA.out.c0
  have x1 := BA.out.c1
  have x2 := BA.out.c2
  have x3 := BA.out.c3
  have x4 := BA.out.c4
  have x5 := BA.out.c5
  have x6 := BA.out.c6
  have x7 := BA.out.c7
  go_wp2_with fail
  refine (toT t ra wa rc wc (by omega) (by omega) _ TR.out).mono ?_
  rintro e w8 ⟨pa2, pc2, qa2, qc2, rfl, hl, hb8⟩
  have Z8 : Hid (w7.heap.size ≤ w8.heap.size) := by show _ ≤ _; have h := hb8.size; simpa using h
  replace BA : Hid (Bx w8 (w.heap.size) [.int .i64 t.id, .int .i64 t.st, .int .i64 t.snap, .int .i64 t.cs, .slice ra t.rs.length rc, .slice wa t.ws.length wc, .bool t.out, .string t.nm]) := BA.out.below hb8
  replace BR : Hid (Bx w8 (w.heap.size + 1) [.string rg.1, .string rg.2]) := BR.out.below hb8
  replace HB : Hid (Below w.heap.size w w8) := HB.out.trans (hb8.mono HB.out.size)
  replace TR : Hid (TRow w8 t ra wa) := HP.out.row.below HB.out
  replace VR : Hid (GRow encV w8 va vs) := HVP.out.below HB.out
  replace S1 : Hid (Lies encR 41 w8 (w6.heap.size) w7.heap.size (.slice sa1 rs.length sc1) rs) := S1.out.below hb8
  clear hb8 x0 x1 x2 x3 x4 x5 x6 x7

  have T2 : Hid (TLie w8 (w7.heap.size) w8.heap.size t pa2 pc2 qa2 qc2) := hl
  clear hl
  have hba : Below w8.heap.size w8 (w8.alloc (.cells #[.int .i64 t.id, .int .i64 t.st, .int .i64 t.snap, .int .i64 t.cs, .slice pa2 t.rs.length pc2, .slice qa2 t.ws.length qc2, .bool t.out, .string t.nm] 27)) := (belowRefl _).alloc (Nat.le_refl _) _
  replace BA : Hid (Bx (w8.alloc (.cells #[.int .i64 t.id, .int .i64 t.st, .int .i64 t.snap, .int .i64 t.cs, .slice pa2 t.rs.length pc2, .slice qa2 t.ws.length qc2, .bool t.out, .string t.nm] 27)) (w.heap.size) [.int .i64 t.id, .int .i64 t.st, .int .i64 t.snap, .int .i64 t.cs, .slice ra t.rs.length rc, .slice wa t.ws.length wc, .bool t.out, .string t.nm]) := BA.out.below hba
  replace BR : Hid (Bx (w8.alloc (.cells #[.int .i64 t.id, .int .i64 t.st, .int .i64 t.snap, .int .i64 t.cs, .slice pa2 t.rs.length pc2, .slice qa2 t.ws.length qc2, .bool t.out, .string t.nm] 27)) (w.heap.size + 1) [.string rg.1, .string rg.2]) := BR.out.below hba
  replace HB : Hid (Below w.heap.size w (w8.alloc (.cells #[.int .i64 t.id, .int .i64 t.st, .int .i64 t.snap, .int .i64 t.cs, .slice pa2 t.rs.length pc2, .slice qa2 t.ws.length qc2, .bool t.out, .string t.nm] 27))) := HB.out.trans (hba.mono HB.out.size)
  replace TR : Hid (TRow (w8.alloc (.cells #[.int .i64 t.id, .int .i64 t.st, .int .i64 t.snap, .int .i64 t.cs, .slice pa2 t.rs.length pc2, .slice qa2 t.ws.length qc2, .bool t.out, .string t.nm] 27)) t ra wa) := HP.out.row.below HB.out
  replace VR : Hid (GRow encV (w8.alloc (.cells #[.int .i64 t.id, .int .i64 t.st, .int .i64 t.snap, .int .i64 t.cs, .slice pa2 t.rs.length pc2, .slice qa2 t.ws.length qc2, .bool t.out, .string t.nm] 27)) va vs) := HVP.out.below HB.out
  replace S1 : Hid (Lies encR 41 (w8.alloc (.cells #[.int .i64 t.id, .int .i64 t.st, .int .i64 t.snap, .int .i64 t.cs, .slice pa2 t.rs.length pc2, .slice qa2 t.ws.length qc2, .bool t.out, .string t.nm] 27)) (w6.heap.size) w7.heap.size (.slice sa1 rs.length sc1) rs) := S1.out.below hba
  replace T2 : Hid (TLie (w8.alloc (.cells #[.int .i64 t.id, .int .i64 t.st, .int .i64 t.snap, .int .i64 t.cs, .slice pa2 t.rs.length pc2, .slice qa2 t.ws.length qc2, .bool t.out, .string t.nm] 27)) (w7.heap.size) w8.heap.size t pa2 pc2 qa2 qc2) := T2.out.below hba
  clear hba
  have BX : Hid (Bx (w8.alloc (.cells #[.int .i64 t.id, .int .i64 t.st, .int .i64 t.snap, .int .i64 t.cs, .slice pa2 t.rs.length pc2, .slice qa2 t.ws.length qc2, .bool t.out, .string t.nm] 27)) (w8.heap.size) [.int .i64 t.id, .int .i64 t.st, .int .i64 t.snap, .int .i64 t.cs, .slice pa2 t.rs.length pc2, .slice qa2 t.ws.length qc2, .bool t.out, .string t.nm]) := Bx.new w8 [.int .i64 t.id, .int .i64 t.st, .int .i64 t.snap, .int .i64 t.cs, .slice pa2 t.rs.length pc2, .slice qa2 t.ws.length qc2, .bool t.out, .string t.nm] 27
  go_wp2_with fail
  refine (toSV vs va vc (by omega) _ VR.out).mono ?_
  rintro e w9 ⟨ya2, yc2, rfl, hd, hb9⟩
  have Z9 : Hid (w8.heap.size + 1 ≤ w9.heap.size) := by show _ ≤ _; have h := hb9.size; simpa using h
  replace BA : Hid (Bx w9 (w.heap.size) [.int .i64 t.id, .int .i64 t.st, .int .i64 t.snap, .int .i64 t.cs, .slice ra t.rs.length rc, .slice wa t.ws.length wc, .bool t.out, .string t.nm]) := BA.out.below hb9
  replace BR : Hid (Bx w9 (w.heap.size + 1) [.string rg.1, .string rg.2]) := BR.out.below hb9
  replace HB : Hid (Below w.heap.size w w9) := HB.out.trans (hb9.mono HB.out.size)
  replace TR : Hid (TRow w9 t ra wa) := HP.out.row.below HB.out
  replace VR : Hid (GRow encV w9 va vs) := HVP.out.below HB.out
  replace S1 : Hid (Lies encR 41 w9 (w6.heap.size) w7.heap.size (.slice sa1 rs.length sc1) rs) := S1.out.below hb9
  replace T2 : Hid (TLie w9 (w7.heap.size) w8.heap.size t pa2 pc2 qa2 qc2) := T2.out.below hb9
  replace BX : Hid (Bx w9 (w8.heap.size) [.int .i64 t.id, .int .i64 t.st, .int .i64 t.snap, .int .i64 t.cs, .slice pa2 t.rs.length pc2, .slice qa2 t.ws.length qc2, .bool t.out, .string t.nm]) := BX.out.below hb9
  have hd2 : GOwn encV 91 w9 (w8.heap.size + 1) (.slice ya2 vs.length yc2) vs := by simpa using hd
  clear hd
  clear hb9
  have Y2 : Hid (Lies encV 91 w9 (w8.heap.size + 1) w9.heap.size (.slice ya2 vs.length yc2) vs) := Lies.of hd2
  clear hd2
  go_wp2
  refine wp_region_held_drew (S := fun w' => w'.cell? ⟨w8.heap.size, 0, none⟩ = some (.int .i64 t.id) ∧ w'.cell? ⟨w8.heap.size, 1, none⟩ = some (.int .i64 t.st) ∧ w'.cell? ⟨w8.heap.size, 2, none⟩ = some (.int .i64 t.snap) ∧ w'.cell? ⟨w8.heap.size, 3, none⟩ = some (.int .i64 t.cs) ∧ w'.cell? ⟨w8.heap.size, 4, none⟩ = some (.slice pa2 t.rs.length pc2) ∧ w'.cell? ⟨w8.heap.size, 5, none⟩ = some (.slice qa2 t.ws.length qc2) ∧ w'.cell? ⟨w8.heap.size, 6, none⟩ = some (.bool t.out) ∧ w'.cell? ⟨w8.heap.size, 7, none⟩ = some (.string t.nm) ∧ w'.cell? ⟨w.heap.size + 1, 0, none⟩ = some (.string rg.1) ∧ w'.cell? ⟨w.heap.size + 1, 1, none⟩ = some (.string rg.2)) (by kernel_rfl) ⟨BX.out.c0, BX.out.c1, BX.out.c2, BX.out.c3, BX.out.c4, BX.out.c5, BX.out.c6, BX.out.c7, BR.out.c0, BR.out.c1⟩ (fun hHeld => ?_)
  (refine wpAnyH_take (i := 0) (v := ?_) rfl (by kernel_rfl) (by kernel_rfl) (by kernel_rfl) (fun _ _ _ h => h) (Or.inl ⟨by rfl, ?_⟩) (by assumption) ?_; rotate_left; (focus (intro w hSw; (try dsimp only at hSw); go_simp; (try with_reducible rfl); done)); simp only [Act.put, List.getElem_toArray, List.getElem_cons_zero, List.setIfInBounds_toArray, List.set_cons_zero, List.set_cons_succ])
  (refine wpAnyH_take (i := 1) (v := ?_) rfl (by kernel_rfl) (by kernel_rfl) (by kernel_rfl) (fun _ _ _ h => h) (Or.inl ⟨by rfl, ?_⟩) (by assumption) ?_; rotate_left; (focus (intro w hSw; (try dsimp only at hSw); go_simp; (try with_reducible rfl); done)); simp only [Act.put, List.getElem_toArray, List.getElem_cons_zero, List.getElem_cons_succ, List.setIfInBounds_toArray, List.set_cons_zero, List.set_cons_succ])
  (refine wpAnyH_take (i := 2) (v := ?_) rfl (by kernel_rfl) (by kernel_rfl) (by kernel_rfl) (fun _ _ _ h => h) (Or.inl ⟨by rfl, ?_⟩) (by assumption) ?_; rotate_left; (focus (intro w hSw; (try dsimp only at hSw); go_simp; (try with_reducible rfl); done)); simp only [Act.put, List.getElem_toArray, List.getElem_cons_zero, List.getElem_cons_succ, List.setIfInBounds_toArray, List.set_cons_zero, List.set_cons_succ])
  refine wpAnyH_ready (rs := [3]) (by kernel_rfl) (by simp) ?_
  refine AllReadyH.cons rfl (fun K hK => ?_) AllReadyH.nil
  go_simp
  go_wp2_with fail
  refine (TRg.out _).mono ?_
  rintro e w10 ⟨rfl, hb10⟩
  have hbu10 := undrew hb10
  have Z10 : Hid (w9.heap.size ≤ w10.heap.size) := by show _ ≤ _; have h := hbu10.size; simpa using h
  replace BA : Hid (Bx w10 (w.heap.size) [.int .i64 t.id, .int .i64 t.st, .int .i64 t.snap, .int .i64 t.cs, .slice ra t.rs.length rc, .slice wa t.ws.length wc, .bool t.out, .string t.nm]) := BA.out.below hbu10
  replace BR : Hid (Bx w10 (w.heap.size + 1) [.string rg.1, .string rg.2]) := BR.out.below hbu10
  replace HB : Hid (Below w.heap.size w w10) := HB.out.trans (hbu10.mono HB.out.size)
  replace TR : Hid (TRow w10 t ra wa) := HP.out.row.below HB.out
  replace VR : Hid (GRow encV w10 va vs) := HVP.out.below HB.out
  replace S1 : Hid (Lies encR 41 w10 (w6.heap.size) w7.heap.size (.slice sa1 rs.length sc1) rs) := S1.out.below hbu10
  replace T2 : Hid (TLie w10 (w7.heap.size) w8.heap.size t pa2 pc2 qa2 qc2) := T2.out.below hbu10
  replace BX : Hid (Bx w10 (w8.heap.size) [.int .i64 t.id, .int .i64 t.st, .int .i64 t.snap, .int .i64 t.cs, .slice pa2 t.rs.length pc2, .slice qa2 t.ws.length qc2, .bool t.out, .string t.nm]) := BX.out.below hbu10
  replace Y2 : Hid (Lies encV 91 w10 (w8.heap.size + 1) w9.heap.size (.slice ya2 vs.length yc2) vs) := Y2.out.below hbu10
  go_wp2_with fail
  refine hK.out _ _ ⟨BX.out.c0, BX.out.c1, BX.out.c2, BX.out.c3, BX.out.c4, BX.out.c5, BX.out.c6, BX.out.c7, BR.out.c0, BR.out.c1⟩ (fun hHeld10 => ?_)
  clear hK K hb10 hbu10
  refine wpAnyH_ready (rs := [4]) (by kernel_rfl) (by simp) ?_
  refine AllReadyH.cons rfl (fun K hK => ?_) AllReadyH.nil
  go_simp
  go_wp2_with fail
  refine (CI.out pa2 pc2 qa2 qc2 ya2 yc2 _ T2.out.row.w Y2.out.own.grow).mono ?_
  rintro e w11 ⟨sa2, sc2, rfl, hd, hb11⟩
  have Z11 : Hid (w10.heap.size ≤ w11.heap.size) := by show _ ≤ _; have h := hb11.size; simpa using h
  replace BA : Hid (Bx w11 (w.heap.size) [.int .i64 t.id, .int .i64 t.st, .int .i64 t.snap, .int .i64 t.cs, .slice ra t.rs.length rc, .slice wa t.ws.length wc, .bool t.out, .string t.nm]) := BA.out.below hb11
  replace BR : Hid (Bx w11 (w.heap.size + 1) [.string rg.1, .string rg.2]) := BR.out.below hb11
  replace HB : Hid (Below w.heap.size w w11) := HB.out.trans (hb11.mono HB.out.size)
  replace TR : Hid (TRow w11 t ra wa) := HP.out.row.below HB.out
  replace VR : Hid (GRow encV w11 va vs) := HVP.out.below HB.out
  replace S1 : Hid (Lies encR 41 w11 (w6.heap.size) w7.heap.size (.slice sa1 rs.length sc1) rs) := S1.out.below hb11
  replace T2 : Hid (TLie w11 (w7.heap.size) w8.heap.size t pa2 pc2 qa2 qc2) := T2.out.below hb11
  replace BX : Hid (Bx w11 (w8.heap.size) [.int .i64 t.id, .int .i64 t.st, .int .i64 t.snap, .int .i64 t.cs, .slice pa2 t.rs.length pc2, .slice qa2 t.ws.length qc2, .bool t.out, .string t.nm]) := BX.out.below hb11
  replace Y2 : Hid (Lies encV 91 w11 (w8.heap.size + 1) w9.heap.size (.slice ya2 vs.length yc2) vs) := Y2.out.below hb11
  have S2 : Hid (Lies encR 41 w11 (w10.heap.size) w11.heap.size (.slice sa2 rs.length sc2) rs) := Lies.of hd
  clear hd
  go_wp2_with fail
  refine hK.out _ _ ⟨BX.out.c0, BX.out.c1, BX.out.c2, BX.out.c3, BX.out.c4, BX.out.c5, BX.out.c6, BX.out.c7, BR.out.c0, BR.out.c1⟩ (fun hHeld11 => ?_)
  clear hK K hb11
  (refine wpAnyH_take (i := 5) (v := ?_) rfl (by kernel_rfl) (by kernel_rfl) (by kernel_rfl) (fun _ _ _ h => h) (Or.inl ⟨by rfl, ?_⟩) (by assumption) ?_; rotate_left; (focus (intro w hSw; (try dsimp only at hSw); go_simp; (try with_reducible rfl); done)); simp only [Act.put, List.getElem_toArray, List.getElem_cons_zero, List.getElem_cons_succ, List.setIfInBounds_toArray, List.set_cons_zero, List.set_cons_succ])
  refine wpAnyH_done (by kernel_rfl) ?_ _
  go_wp2_with fail
  refine (eqSP sa2 sa1 _ _ rs (by omega) _ S2.out.own.grow S1.out.own.grow).mono ?_
  rintro e w12 ⟨rfl, hb12⟩
  have Z12 : Hid (w11.heap.size ≤ w12.heap.size) := by show _ ≤ _; have h := hb12.size; simpa using h
  replace BA : Hid (Bx w12 (w.heap.size) [.int .i64 t.id, .int .i64 t.st, .int .i64 t.snap, .int .i64 t.cs, .slice ra t.rs.length rc, .slice wa t.ws.length wc, .bool t.out, .string t.nm]) := BA.out.below hb12
  replace BR : Hid (Bx w12 (w.heap.size + 1) [.string rg.1, .string rg.2]) := BR.out.below hb12
  replace HB : Hid (Below w.heap.size w w12) := HB.out.trans (hb12.mono HB.out.size)
  replace TR : Hid (TRow w12 t ra wa) := HP.out.row.below HB.out
  replace VR : Hid (GRow encV w12 va vs) := HVP.out.below HB.out
  replace S1 : Hid (Lies encR 41 w12 (w6.heap.size) w7.heap.size (.slice sa1 rs.length sc1) rs) := S1.out.below hb12
  replace T2 : Hid (TLie w12 (w7.heap.size) w8.heap.size t pa2 pc2 qa2 qc2) := T2.out.below hb12
  replace BX : Hid (Bx w12 (w8.heap.size) [.int .i64 t.id, .int .i64 t.st, .int .i64 t.snap, .int .i64 t.cs, .slice pa2 t.rs.length pc2, .slice qa2 t.ws.length qc2, .bool t.out, .string t.nm]) := BX.out.below hb12
  replace Y2 : Hid (Lies encV 91 w12 (w8.heap.size + 1) w9.heap.size (.slice ya2 vs.length yc2) vs) := Y2.out.below hb12
  replace S2 : Hid (Lies encR 41 w12 (w10.heap.size) w11.heap.size (.slice sa2 rs.length sc2) rs) := S2.out.below hb12
  clear hb12
  go_wp2
  refine wp_region_held_drew (S := fun w' => w'.cell? ⟨w8.heap.size, 0, none⟩ = some (.int .i64 t.id) ∧ w'.cell? ⟨w8.heap.size, 1, none⟩ = some (.int .i64 t.st) ∧ w'.cell? ⟨w8.heap.size, 2, none⟩ = some (.int .i64 t.snap) ∧ w'.cell? ⟨w8.heap.size, 3, none⟩ = some (.int .i64 t.cs) ∧ w'.cell? ⟨w8.heap.size, 4, none⟩ = some (.slice pa2 t.rs.length pc2) ∧ w'.cell? ⟨w8.heap.size, 5, none⟩ = some (.slice qa2 t.ws.length qc2) ∧ w'.cell? ⟨w8.heap.size, 6, none⟩ = some (.bool t.out) ∧ w'.cell? ⟨w8.heap.size, 7, none⟩ = some (.string t.nm) ∧ w'.cell? ⟨w.heap.size, 0, none⟩ = some (.int .i64 t.id) ∧ w'.cell? ⟨w.heap.size, 1, none⟩ = some (.int .i64 t.st) ∧ w'.cell? ⟨w.heap.size, 2, none⟩ = some (.int .i64 t.snap) ∧ w'.cell? ⟨w.heap.size, 3, none⟩ = some (.int .i64 t.cs) ∧ w'.cell? ⟨w.heap.size, 4, none⟩ = some (.slice ra t.rs.length rc) ∧ w'.cell? ⟨w.heap.size, 5, none⟩ = some (.slice wa t.ws.length wc) ∧ w'.cell? ⟨w.heap.size, 6, none⟩ = some (.bool t.out) ∧ w'.cell? ⟨w.heap.size, 7, none⟩ = some (.string t.nm)) (by kernel_rfl) ⟨BX.out.c0, BX.out.c1, BX.out.c2, BX.out.c3, BX.out.c4, BX.out.c5, BX.out.c6, BX.out.c7, BA.out.c0, BA.out.c1, BA.out.c2, BA.out.c3, BA.out.c4, BA.out.c5, BA.out.c6, BA.out.c7⟩ (fun hHeld => ?_)
  (refine wpAnyH_take (i := 0) (v := ?_) rfl (by kernel_rfl) (by kernel_rfl) (by kernel_rfl) (fun _ _ _ h => h) (Or.inl ⟨by rfl, ?_⟩) (by assumption) ?_; rotate_left; (focus (intro w hSw; (try dsimp only at hSw); go_simp; (try with_reducible rfl); done)); simp only [Act.put, List.getElem_toArray, List.getElem_cons_zero, List.setIfInBounds_toArray, List.set_cons_zero, List.set_cons_succ])
  (refine wpAnyH_take (i := 1) (v := ?_) rfl (by kernel_rfl) (by kernel_rfl) (by kernel_rfl) (fun _ _ _ h => h) (Or.inl ⟨by rfl, ?_⟩) (by assumption) ?_; rotate_left; (focus (intro w hSw; (try dsimp only at hSw); go_simp; (try with_reducible rfl); done)); simp only [Act.put, List.getElem_toArray, List.getElem_cons_zero, List.getElem_cons_succ, List.setIfInBounds_toArray, List.set_cons_zero, List.set_cons_succ])
  refine wpAnyH_ready (rs := [2]) (by kernel_rfl) (by simp) ?_
  refine AllReadyH.cons rfl (fun K hK => ?_) AllReadyH.nil
  go_simp
  go_wp2_with fail
  refine (toT t ra wa rc wc (by omega) (by omega) _ TR.out.drewT).mono ?_
  rintro e w13 ⟨pa3, pc3, qa3, qc3, rfl, hl, hb13⟩
  have hbu13 := undrew hb13
  have Z13 : Hid (w12.heap.size ≤ w13.heap.size) := by show _ ≤ _; have h := hbu13.size; simpa using h
  replace BA : Hid (Bx w13 (w.heap.size) [.int .i64 t.id, .int .i64 t.st, .int .i64 t.snap, .int .i64 t.cs, .slice ra t.rs.length rc, .slice wa t.ws.length wc, .bool t.out, .string t.nm]) := BA.out.below hbu13
  replace BR : Hid (Bx w13 (w.heap.size + 1) [.string rg.1, .string rg.2]) := BR.out.below hbu13
  replace HB : Hid (Below w.heap.size w w13) := HB.out.trans (hbu13.mono HB.out.size)
  replace TR : Hid (TRow w13 t ra wa) := HP.out.row.below HB.out
  replace VR : Hid (GRow encV w13 va vs) := HVP.out.below HB.out
  replace S1 : Hid (Lies encR 41 w13 (w6.heap.size) w7.heap.size (.slice sa1 rs.length sc1) rs) := S1.out.below hbu13
  replace T2 : Hid (TLie w13 (w7.heap.size) w8.heap.size t pa2 pc2 qa2 qc2) := T2.out.below hbu13
  replace BX : Hid (Bx w13 (w8.heap.size) [.int .i64 t.id, .int .i64 t.st, .int .i64 t.snap, .int .i64 t.cs, .slice pa2 t.rs.length pc2, .slice qa2 t.ws.length qc2, .bool t.out, .string t.nm]) := BX.out.below hbu13
  replace Y2 : Hid (Lies encV 91 w13 (w8.heap.size + 1) w9.heap.size (.slice ya2 vs.length yc2) vs) := Y2.out.below hbu13
  replace S2 : Hid (Lies encR 41 w13 (w10.heap.size) w11.heap.size (.slice sa2 rs.length sc2) rs) := S2.out.below hbu13
  have T3 : Hid (TLie w13 (w12.heap.size) w13.heap.size t pa3 pc3 qa3 qc3) := hl
  clear hl
  go_wp2_with fail
  refine hK.out _ _ ⟨BX.out.c0, BX.out.c1, BX.out.c2, BX.out.c3, BX.out.c4, BX.out.c5, BX.out.c6, BX.out.c7, BA.out.c0, BA.out.c1, BA.out.c2, BA.out.c3, BA.out.c4, BA.out.c5, BA.out.c6, BA.out.c7⟩ (fun hHeld13 => ?_)
  clear hK K hb13 hbu13
  refine wpAnyH_ready (rs := [3]) (by kernel_rfl) (by simp) ?_
  refine AllReadyH.cons rfl (fun K hK => ?_) AllReadyH.nil
  go_simp
  go_wp2_with fail
  refine (eqT t pa2 qa2 pa3 qa3 pc2 qc2 pc3 qc3 (by omega) (by omega) _ T2.out.row T3.out.row).mono ?_
  rintro e w14 ⟨rfl, hb14⟩
  have Z14 : Hid (w13.heap.size ≤ w14.heap.size) := by show _ ≤ _; have h := hb14.size; simpa using h
  replace BA : Hid (Bx w14 (w.heap.size) [.int .i64 t.id, .int .i64 t.st, .int .i64 t.snap, .int .i64 t.cs, .slice ra t.rs.length rc, .slice wa t.ws.length wc, .bool t.out, .string t.nm]) := BA.out.below hb14
  replace BR : Hid (Bx w14 (w.heap.size + 1) [.string rg.1, .string rg.2]) := BR.out.below hb14
  replace HB : Hid (Below w.heap.size w w14) := HB.out.trans (hb14.mono HB.out.size)
  replace TR : Hid (TRow w14 t ra wa) := HP.out.row.below HB.out
  replace VR : Hid (GRow encV w14 va vs) := HVP.out.below HB.out
  replace S1 : Hid (Lies encR 41 w14 (w6.heap.size) w7.heap.size (.slice sa1 rs.length sc1) rs) := S1.out.below hb14
  replace T2 : Hid (TLie w14 (w7.heap.size) w8.heap.size t pa2 pc2 qa2 qc2) := T2.out.below hb14
  replace BX : Hid (Bx w14 (w8.heap.size) [.int .i64 t.id, .int .i64 t.st, .int .i64 t.snap, .int .i64 t.cs, .slice pa2 t.rs.length pc2, .slice qa2 t.ws.length qc2, .bool t.out, .string t.nm]) := BX.out.below hb14
  replace Y2 : Hid (Lies encV 91 w14 (w8.heap.size + 1) w9.heap.size (.slice ya2 vs.length yc2) vs) := Y2.out.below hb14
  replace S2 : Hid (Lies encR 41 w14 (w10.heap.size) w11.heap.size (.slice sa2 rs.length sc2) rs) := S2.out.below hb14
  replace T3 : Hid (TLie w14 (w12.heap.size) w13.heap.size t pa3 pc3 qa3 qc3) := T3.out.below hb14
  go_wp2_with fail
  refine hK.out _ _ ⟨BX.out.c0, BX.out.c1, BX.out.c2, BX.out.c3, BX.out.c4, BX.out.c5, BX.out.c6, BX.out.c7, BA.out.c0, BA.out.c1, BA.out.c2, BA.out.c3, BA.out.c4, BA.out.c5, BA.out.c6, BA.out.c7⟩ (fun hHeld14 => ?_)
  clear hK K hb14
  (refine wpAnyH_take (i := 4) (v := ?_) rfl (by kernel_rfl) (by kernel_rfl) (by kernel_rfl) (fun _ _ _ h => h) (Or.inl ⟨by rfl, ?_⟩) (by assumption) ?_; rotate_left; (focus (intro w hSw; (try dsimp only at hSw); go_simp; (try with_reducible rfl); done)); simp only [Act.put, List.getElem_toArray, List.getElem_cons_zero, List.getElem_cons_succ, List.setIfInBounds_toArray, List.set_cons_zero, List.set_cons_succ])
  refine wpAnyH_done (by kernel_rfl) ?_ _
  clear T3
  go_wp2_with fail
  refine (toSV vs va vc (by omega) _ VR.out).mono ?_
  rintro e w15 ⟨ya3, yc3, rfl, hd, hb15⟩
  have Z15 : Hid (w14.heap.size ≤ w15.heap.size) := by show _ ≤ _; have h := hb15.size; simpa using h
  replace BA : Hid (Bx w15 (w.heap.size) [.int .i64 t.id, .int .i64 t.st, .int .i64 t.snap, .int .i64 t.cs, .slice ra t.rs.length rc, .slice wa t.ws.length wc, .bool t.out, .string t.nm]) := BA.out.below hb15
  replace BR : Hid (Bx w15 (w.heap.size + 1) [.string rg.1, .string rg.2]) := BR.out.below hb15
  replace HB : Hid (Below w.heap.size w w15) := HB.out.trans (hb15.mono HB.out.size)
  replace TR : Hid (TRow w15 t ra wa) := HP.out.row.below HB.out
  replace VR : Hid (GRow encV w15 va vs) := HVP.out.below HB.out
  replace S1 : Hid (Lies encR 41 w15 (w6.heap.size) w7.heap.size (.slice sa1 rs.length sc1) rs) := S1.out.below hb15
  replace T2 : Hid (TLie w15 (w7.heap.size) w8.heap.size t pa2 pc2 qa2 qc2) := T2.out.below hb15
  replace BX : Hid (Bx w15 (w8.heap.size) [.int .i64 t.id, .int .i64 t.st, .int .i64 t.snap, .int .i64 t.cs, .slice pa2 t.rs.length pc2, .slice qa2 t.ws.length qc2, .bool t.out, .string t.nm]) := BX.out.below hb15
  replace Y2 : Hid (Lies encV 91 w15 (w8.heap.size + 1) w9.heap.size (.slice ya2 vs.length yc2) vs) := Y2.out.below hb15
  replace S2 : Hid (Lies encR 41 w15 (w10.heap.size) w11.heap.size (.slice sa2 rs.length sc2) rs) := S2.out.below hb15
  have Y3 := hide0 hd.grow
  clear hd
  clear hb15
  go_wp2_with fail
  refine (eqSV ya2 ya3 _ _ vs (by omega) _ Y2.out.own.grow (Y3.out)).mono ?_
  rintro e w16 ⟨rfl, hb16⟩
  have Z16 : Hid (w15.heap.size ≤ w16.heap.size) := by show _ ≤ _; have h := hb16.size; simpa using h
  replace BA : Hid (Bx w16 (w.heap.size) [.int .i64 t.id, .int .i64 t.st, .int .i64 t.snap, .int .i64 t.cs, .slice ra t.rs.length rc, .slice wa t.ws.length wc, .bool t.out, .string t.nm]) := BA.out.below hb16
  replace BR : Hid (Bx w16 (w.heap.size + 1) [.string rg.1, .string rg.2]) := BR.out.below hb16
  replace HB : Hid (Below w.heap.size w w16) := HB.out.trans (hb16.mono HB.out.size)
  replace TR : Hid (TRow w16 t ra wa) := HP.out.row.below HB.out
  replace VR : Hid (GRow encV w16 va vs) := HVP.out.below HB.out
  replace S1 : Hid (Lies encR 41 w16 (w6.heap.size) w7.heap.size (.slice sa1 rs.length sc1) rs) := S1.out.below hb16
  replace T2 : Hid (TLie w16 (w7.heap.size) w8.heap.size t pa2 pc2 qa2 qc2) := T2.out.below hb16
  replace BX : Hid (Bx w16 (w8.heap.size) [.int .i64 t.id, .int .i64 t.st, .int .i64 t.snap, .int .i64 t.cs, .slice pa2 t.rs.length pc2, .slice qa2 t.ws.length qc2, .bool t.out, .string t.nm]) := BX.out.below hb16
  replace Y2 : Hid (Lies encV 91 w16 (w8.heap.size + 1) w9.heap.size (.slice ya2 vs.length yc2) vs) := Y2.out.below hb16
  replace S2 : Hid (Lies encR 41 w16 (w10.heap.size) w11.heap.size (.slice sa2 rs.length sc2) rs) := S2.out.below hb16
  clear Y3
  clear hb16
  have x0 := BX.out.c0
  have x1 := BX.out.c1
  have x2 := BX.out.c2
  have x3 := BX.out.c3
  have x4 := BX.out.c4
  have x5 := BX.out.c5
  have x6 := BX.out.c6
  have x7 := BX.out.c7
  go_wp2_with fail
  refine (markT t pa2 qa2 pc2 qc2 (w7.heap.size) (w8.heap.size) 1 (by omega) (by omega) (by omega) (by omega) _ (by have := Z1.out; have := Z2.out; have := Z3.out; have := Z4.out; have := Z5.out; have := Z6.out; have := Z7.out; have := Z8.out; have := Z9.out; have := Z10.out; have := Z11.out; have := Z12.out; have := Z13.out; have := Z14.out; have := Z15.out; have := Z16.out; omega) T2.out).mono ?_
  rintro e w17 ⟨rfl, _, hz17⟩
  have Z17 : Hid (w16.heap.size ≤ w17.heap.size) := hz17.size
  replace BA : Hid (Bx w17 (w.heap.size) [.int .i64 t.id, .int .i64 t.st, .int .i64 t.snap, .int .i64 t.cs, .slice ra t.rs.length rc, .slice wa t.ws.length wc, .bool t.out, .string t.nm]) := BA.out.zn hz17 (by have := Z1.out; have := Z2.out; have := Z3.out; have := Z4.out; have := Z5.out; have := Z6.out; have := Z7.out; have := Z8.out; have := Z9.out; have := Z10.out; have := Z11.out; have := Z12.out; have := Z13.out; have := Z14.out; have := Z15.out; have := Z16.out; omega)
  replace BR : Hid (Bx w17 (w.heap.size + 1) [.string rg.1, .string rg.2]) := BR.out.zn hz17 (by have := Z1.out; have := Z2.out; have := Z3.out; have := Z4.out; have := Z5.out; have := Z6.out; have := Z7.out; have := Z8.out; have := Z9.out; have := Z10.out; have := Z11.out; have := Z12.out; have := Z13.out; have := Z14.out; have := Z15.out; have := Z16.out; omega)
  replace HB : Hid (Below w.heap.size w w17) := HB.out.trans (hz17.below (by have := Z1.out; have := Z2.out; have := Z3.out; have := Z4.out; have := Z5.out; have := Z6.out; have := Z7.out; have := Z8.out; have := Z9.out; have := Z10.out; have := Z11.out; have := Z12.out; have := Z13.out; have := Z14.out; have := Z15.out; have := Z16.out; omega) HB.out.size)
  replace TR : Hid (TRow w17 t ra wa) := HP.out.row.below HB.out
  replace VR : Hid (GRow encV w17 va vs) := HVP.out.below HB.out
  replace S1 : Hid (Lies encR 41 w17 (w6.heap.size) w7.heap.size (.slice sa1 rs.length sc1) rs) := S1.out.zn hz17 (by have := Z1.out; have := Z2.out; have := Z3.out; have := Z4.out; have := Z5.out; have := Z6.out; have := Z7.out; have := Z8.out; have := Z9.out; have := Z10.out; have := Z11.out; have := Z12.out; have := Z13.out; have := Z14.out; have := Z15.out; have := Z16.out; omega)
  replace BX : Hid (Bx w17 (w8.heap.size) [.int .i64 t.id, .int .i64 t.st, .int .i64 t.snap, .int .i64 t.cs, .slice pa2 t.rs.length pc2, .slice qa2 t.ws.length qc2, .bool t.out, .string t.nm]) := BX.out.zn hz17 (by have := Z1.out; have := Z2.out; have := Z3.out; have := Z4.out; have := Z5.out; have := Z6.out; have := Z7.out; have := Z8.out; have := Z9.out; have := Z10.out; have := Z11.out; have := Z12.out; have := Z13.out; have := Z14.out; have := Z15.out; have := Z16.out; omega)
  replace Y2 : Hid (Lies encV 91 w17 (w8.heap.size + 1) w9.heap.size (.slice ya2 vs.length yc2) vs) := Y2.out.zn hz17 (by have := Z1.out; have := Z2.out; have := Z3.out; have := Z4.out; have := Z5.out; have := Z6.out; have := Z7.out; have := Z8.out; have := Z9.out; have := Z10.out; have := Z11.out; have := Z12.out; have := Z13.out; have := Z14.out; have := Z15.out; have := Z16.out; omega)
  replace S2 : Hid (Lies encR 41 w17 (w10.heap.size) w11.heap.size (.slice sa2 rs.length sc2) rs) := S2.out.zn hz17 (by have := Z1.out; have := Z2.out; have := Z3.out; have := Z4.out; have := Z5.out; have := Z6.out; have := Z7.out; have := Z8.out; have := Z9.out; have := Z10.out; have := Z11.out; have := Z12.out; have := Z13.out; have := Z14.out; have := Z15.out; have := Z16.out; omega)
  clear hz17 x0 x1 x2 x3 x4 x5 x6 x7 T2
  obtain ⟨K1, hK1⟩ : ∃ K1, K1 = 1 + 2 * t.rs.length + 3 * t.ws.length := ⟨_, rfl⟩
  rw [← hK1]
  have hK1a : 0 < K1 := by omega
  have hK1b : K1 ≤ 100000000 := by omega
  clear hK1
  go_wp2_with fail
  refine (markV vs.length K1 ya2 yc2 _ _ (by omega) hK1a hK1b _ Y2.out.own).mono ?_
  rintro e w18 ⟨rfl, _, hg18⟩
  have hz18 : Zn (w8.heap.size + 1) (w9.heap.size) _ w18 := Zn.ofGrown hg18 (fun g h => Y2.out.lo g h)
  clear hg18
  have Z18 : Hid (w17.heap.size ≤ w18.heap.size) := hz18.size
  replace BA : Hid (Bx w18 (w.heap.size) [.int .i64 t.id, .int .i64 t.st, .int .i64 t.snap, .int .i64 t.cs, .slice ra t.rs.length rc, .slice wa t.ws.length wc, .bool t.out, .string t.nm]) := BA.out.zn hz18 (by have := Z1.out; have := Z2.out; have := Z3.out; have := Z4.out; have := Z5.out; have := Z6.out; have := Z7.out; have := Z8.out; have := Z9.out; have := Z10.out; have := Z11.out; have := Z12.out; have := Z13.out; have := Z14.out; have := Z15.out; have := Z16.out; have := Z17.out; omega)
  replace BR : Hid (Bx w18 (w.heap.size + 1) [.string rg.1, .string rg.2]) := BR.out.zn hz18 (by have := Z1.out; have := Z2.out; have := Z3.out; have := Z4.out; have := Z5.out; have := Z6.out; have := Z7.out; have := Z8.out; have := Z9.out; have := Z10.out; have := Z11.out; have := Z12.out; have := Z13.out; have := Z14.out; have := Z15.out; have := Z16.out; have := Z17.out; omega)
  replace HB : Hid (Below w.heap.size w w18) := HB.out.trans (hz18.below (by have := Z1.out; have := Z2.out; have := Z3.out; have := Z4.out; have := Z5.out; have := Z6.out; have := Z7.out; have := Z8.out; have := Z9.out; have := Z10.out; have := Z11.out; have := Z12.out; have := Z13.out; have := Z14.out; have := Z15.out; have := Z16.out; have := Z17.out; omega) HB.out.size)
  replace TR : Hid (TRow w18 t ra wa) := HP.out.row.below HB.out
  replace VR : Hid (GRow encV w18 va vs) := HVP.out.below HB.out
  replace S1 : Hid (Lies encR 41 w18 (w6.heap.size) w7.heap.size (.slice sa1 rs.length sc1) rs) := S1.out.zn hz18 (by have := Z1.out; have := Z2.out; have := Z3.out; have := Z4.out; have := Z5.out; have := Z6.out; have := Z7.out; have := Z8.out; have := Z9.out; have := Z10.out; have := Z11.out; have := Z12.out; have := Z13.out; have := Z14.out; have := Z15.out; have := Z16.out; have := Z17.out; omega)
  replace BX : Hid (Bx w18 (w8.heap.size) [.int .i64 t.id, .int .i64 t.st, .int .i64 t.snap, .int .i64 t.cs, .slice pa2 t.rs.length pc2, .slice qa2 t.ws.length qc2, .bool t.out, .string t.nm]) := BX.out.zn hz18 (by have := Z1.out; have := Z2.out; have := Z3.out; have := Z4.out; have := Z5.out; have := Z6.out; have := Z7.out; have := Z8.out; have := Z9.out; have := Z10.out; have := Z11.out; have := Z12.out; have := Z13.out; have := Z14.out; have := Z15.out; have := Z16.out; have := Z17.out; omega)
  replace S2 : Hid (Lies encR 41 w18 (w10.heap.size) w11.heap.size (.slice sa2 rs.length sc2) rs) := S2.out.zn hz18 (by have := Z1.out; have := Z2.out; have := Z3.out; have := Z4.out; have := Z5.out; have := Z6.out; have := Z7.out; have := Z8.out; have := Z9.out; have := Z10.out; have := Z11.out; have := Z12.out; have := Z13.out; have := Z14.out; have := Z15.out; have := Z16.out; have := Z17.out; omega)
  clear hz18
  clear Y2
  obtain ⟨K2, hK2⟩ : ∃ K2, K2 = K1 + 4 * vs.length := ⟨_, rfl⟩
  rw [← hK2]
  have hK2a : ¬ (K2 : Int) < 0 := by omega
  have hK2b : decide ((K2 : Int) < 0) = false := by simp
  clear hK2
  go_wp2_with fail
  refine (eqSP sa2 sa1 _ _ rs (by omega) _ S2.out.own.grow S1.out.own.grow).mono ?_
  rintro e w19 ⟨rfl, hb19⟩
  have Z19 : Hid (w18.heap.size ≤ w19.heap.size) := by show _ ≤ _; have h := hb19.size; simpa using h
  replace BA : Hid (Bx w19 (w.heap.size) [.int .i64 t.id, .int .i64 t.st, .int .i64 t.snap, .int .i64 t.cs, .slice ra t.rs.length rc, .slice wa t.ws.length wc, .bool t.out, .string t.nm]) := BA.out.below hb19
  replace BR : Hid (Bx w19 (w.heap.size + 1) [.string rg.1, .string rg.2]) := BR.out.below hb19
  replace HB : Hid (Below w.heap.size w w19) := HB.out.trans (hb19.mono HB.out.size)
  replace TR : Hid (TRow w19 t ra wa) := HP.out.row.below HB.out
  replace VR : Hid (GRow encV w19 va vs) := HVP.out.below HB.out
  replace S1 : Hid (Lies encR 41 w19 (w6.heap.size) w7.heap.size (.slice sa1 rs.length sc1) rs) := S1.out.below hb19
  replace BX : Hid (Bx w19 (w8.heap.size) [.int .i64 t.id, .int .i64 t.st, .int .i64 t.snap, .int .i64 t.cs, .slice pa2 t.rs.length pc2, .slice qa2 t.ws.length qc2, .bool t.out, .string t.nm]) := BX.out.below hb19
  replace S2 : Hid (Lies encR 41 w19 (w10.heap.size) w11.heap.size (.slice sa2 rs.length sc2) rs) := S2.out.below hb19
  clear hb19
  go_wp2_with fail
  refine (markP rs.length 1 sa2 sc2 _ _ (by omega) (by omega) (by omega) _ S2.out.own).mono ?_
  rintro e w20 ⟨rfl, hm, hg20⟩
  have hz20 : Zn (w10.heap.size) (w11.heap.size) _ w20 := Zn.ofGrown hg20 (fun g h => S2.out.lo g h)
  clear hg20
  have Z20 : Hid (w19.heap.size ≤ w20.heap.size) := hz20.size
  replace BA : Hid (Bx w20 (w.heap.size) [.int .i64 t.id, .int .i64 t.st, .int .i64 t.snap, .int .i64 t.cs, .slice ra t.rs.length rc, .slice wa t.ws.length wc, .bool t.out, .string t.nm]) := BA.out.zn hz20 (by have := Z1.out; have := Z2.out; have := Z3.out; have := Z4.out; have := Z5.out; have := Z6.out; have := Z7.out; have := Z8.out; have := Z9.out; have := Z10.out; have := Z11.out; have := Z12.out; have := Z13.out; have := Z14.out; have := Z15.out; have := Z16.out; have := Z17.out; have := Z18.out; have := Z19.out; omega)
  replace BR : Hid (Bx w20 (w.heap.size + 1) [.string rg.1, .string rg.2]) := BR.out.zn hz20 (by have := Z1.out; have := Z2.out; have := Z3.out; have := Z4.out; have := Z5.out; have := Z6.out; have := Z7.out; have := Z8.out; have := Z9.out; have := Z10.out; have := Z11.out; have := Z12.out; have := Z13.out; have := Z14.out; have := Z15.out; have := Z16.out; have := Z17.out; have := Z18.out; have := Z19.out; omega)
  replace HB : Hid (Below w.heap.size w w20) := HB.out.trans (hz20.below (by have := Z1.out; have := Z2.out; have := Z3.out; have := Z4.out; have := Z5.out; have := Z6.out; have := Z7.out; have := Z8.out; have := Z9.out; have := Z10.out; have := Z11.out; have := Z12.out; have := Z13.out; have := Z14.out; have := Z15.out; have := Z16.out; have := Z17.out; have := Z18.out; have := Z19.out; omega) HB.out.size)
  replace TR : Hid (TRow w20 t ra wa) := HP.out.row.below HB.out
  replace VR : Hid (GRow encV w20 va vs) := HVP.out.below HB.out
  replace S1 : Hid (Lies encR 41 w20 (w6.heap.size) w7.heap.size (.slice sa1 rs.length sc1) rs) := S1.out.zn hz20 (by have := Z1.out; have := Z2.out; have := Z3.out; have := Z4.out; have := Z5.out; have := Z6.out; have := Z7.out; have := Z8.out; have := Z9.out; have := Z10.out; have := Z11.out; have := Z12.out; have := Z13.out; have := Z14.out; have := Z15.out; have := Z16.out; have := Z17.out; have := Z18.out; have := Z19.out; omega)
  replace BX : Hid (Bx w20 (w8.heap.size) [.int .i64 t.id, .int .i64 t.st, .int .i64 t.snap, .int .i64 t.cs, .slice pa2 t.rs.length pc2, .slice qa2 t.ws.length qc2, .bool t.out, .string t.nm]) := BX.out.zn hz20 (by have := Z1.out; have := Z2.out; have := Z3.out; have := Z4.out; have := Z5.out; have := Z6.out; have := Z7.out; have := Z8.out; have := Z9.out; have := Z10.out; have := Z11.out; have := Z12.out; have := Z13.out; have := Z14.out; have := Z15.out; have := Z16.out; have := Z17.out; have := Z18.out; have := Z19.out; omega)
  have M2 : Hid (Lies encR 41 w20 (w10.heap.size) (w11.heap.size) (.slice sa2 rs.length sc2) (mkP 1 rs.length)) := ⟨hm, S2.out.up⟩
  clear hm
  clear hz20
  clear S2
  obtain ⟨K3, hK3⟩ : ∃ K3, K3 = 1 + 2 * rs.length := ⟨_, rfl⟩
  have HK3 : Hid (K3 = 1 + 2 * rs.length) := hK3
  rw [← hK3]
  have hK3a : ¬ (K3 : Int) < 0 := by omega
  have hK3b := ne_self_int (K3 : Int)
  clear hK3
  have hgm : GRow encR w20 sa2 (mkP 1 rs.length) := by
    have h := M2.out.own
    obtain ⟨ao, cap, e, hr⟩ := h.row
    rw [mkP_len] at e
    cases e
    exact hr
  go_wp2_with fail
  refine (heldP rs.length 1 sa2 sc2 (by omega) (by omega) (by omega) _ hgm).mono ?_
  rintro e w21 ⟨rfl, hb21⟩
  have Z21 : Hid (w20.heap.size ≤ w21.heap.size) := by show _ ≤ _; have h := hb21.size; simpa using h
  replace BA : Hid (Bx w21 (w.heap.size) [.int .i64 t.id, .int .i64 t.st, .int .i64 t.snap, .int .i64 t.cs, .slice ra t.rs.length rc, .slice wa t.ws.length wc, .bool t.out, .string t.nm]) := BA.out.below hb21
  replace BR : Hid (Bx w21 (w.heap.size + 1) [.string rg.1, .string rg.2]) := BR.out.below hb21
  replace HB : Hid (Below w.heap.size w w21) := HB.out.trans (hb21.mono HB.out.size)
  replace TR : Hid (TRow w21 t ra wa) := HP.out.row.below HB.out
  replace VR : Hid (GRow encV w21 va vs) := HVP.out.below HB.out
  replace S1 : Hid (Lies encR 41 w21 (w6.heap.size) w7.heap.size (.slice sa1 rs.length sc1) rs) := S1.out.below hb21
  replace BX : Hid (Bx w21 (w8.heap.size) [.int .i64 t.id, .int .i64 t.st, .int .i64 t.snap, .int .i64 t.cs, .slice pa2 t.rs.length pc2, .slice qa2 t.ws.length qc2, .bool t.out, .string t.nm]) := BX.out.below hb21
  replace M2 : Hid (Lies encR 41 w21 (w10.heap.size) (w11.heap.size) (.slice sa2 rs.length sc2) (mkP 1 rs.length)) := M2.out.below hb21
  clear hgm
  rw [← HK3.out]
  clear hb21
  go_wp2
  refine wp_region_held_drew (S := fun w' => w'.cell? ⟨w.heap.size, 0, none⟩ = some (.int .i64 t.id) ∧ w'.cell? ⟨w.heap.size, 1, none⟩ = some (.int .i64 t.st) ∧ w'.cell? ⟨w.heap.size, 2, none⟩ = some (.int .i64 t.snap) ∧ w'.cell? ⟨w.heap.size, 3, none⟩ = some (.int .i64 t.cs) ∧ w'.cell? ⟨w.heap.size, 4, none⟩ = some (.slice ra t.rs.length rc) ∧ w'.cell? ⟨w.heap.size, 5, none⟩ = some (.slice wa t.ws.length wc) ∧ w'.cell? ⟨w.heap.size, 6, none⟩ = some (.bool t.out) ∧ w'.cell? ⟨w.heap.size, 7, none⟩ = some (.string t.nm) ∧ w'.cell? ⟨w.heap.size + 1, 0, none⟩ = some (.string rg.1) ∧ w'.cell? ⟨w.heap.size + 1, 1, none⟩ = some (.string rg.2)) (by kernel_rfl) ⟨BA.out.c0, BA.out.c1, BA.out.c2, BA.out.c3, BA.out.c4, BA.out.c5, BA.out.c6, BA.out.c7, BR.out.c0, BR.out.c1⟩ (fun hHeld => ?_)
  (refine wpAnyH_take (i := 0) (v := ?_) rfl (by kernel_rfl) (by kernel_rfl) (by kernel_rfl) (fun _ _ _ h => h) (Or.inl ⟨by rfl, ?_⟩) (by assumption) ?_; rotate_left; (focus (intro w hSw; (try dsimp only at hSw); go_simp; (try with_reducible rfl); done)); simp only [Act.put, List.getElem_toArray, List.getElem_cons_zero, List.setIfInBounds_toArray, List.set_cons_zero, List.set_cons_succ])
  (refine wpAnyH_take (i := 2) (v := ?_) rfl (by kernel_rfl) (by kernel_rfl) (by kernel_rfl) (fun _ _ _ h => h) (Or.inl ⟨by rfl, ?_⟩) (by assumption) ?_; rotate_left; (focus (intro w hSw; (try dsimp only at hSw); go_simp; (try with_reducible rfl); done)); simp only [Act.put, List.getElem_toArray, List.getElem_cons_zero, List.getElem_cons_succ, List.setIfInBounds_toArray, List.set_cons_zero, List.set_cons_succ])
  (refine wpAnyH_take (i := 4) (v := ?_) rfl (by kernel_rfl) (by kernel_rfl) (by kernel_rfl) (fun _ _ _ h => h) (Or.inl ⟨by rfl, ?_⟩) (by assumption) ?_; rotate_left; (focus (intro w hSw; (try dsimp only at hSw); go_simp; (try with_reducible rfl); done)); simp only [Act.put, List.getElem_toArray, List.getElem_cons_zero, List.getElem_cons_succ, List.setIfInBounds_toArray, List.set_cons_zero, List.set_cons_succ])
  refine wpAnyH_ready (rs := [1]) (by kernel_rfl) (by simp) ?_
  refine AllReadyH.cons rfl (fun K hK => ?_) AllReadyH.nil
  go_simp
  go_wp2_with fail
  refine (toT t ra wa rc wc (by omega) (by omega) _ TR.out.drewT).mono ?_
  rintro e w22 ⟨pa4, pc4, qa4, qc4, rfl, hl, hb22⟩
  have hbu22 := undrew hb22
  have Z22 : Hid (w21.heap.size ≤ w22.heap.size) := by show _ ≤ _; have h := hbu22.size; simpa using h
  replace BA : Hid (Bx w22 (w.heap.size) [.int .i64 t.id, .int .i64 t.st, .int .i64 t.snap, .int .i64 t.cs, .slice ra t.rs.length rc, .slice wa t.ws.length wc, .bool t.out, .string t.nm]) := BA.out.below hbu22
  replace BR : Hid (Bx w22 (w.heap.size + 1) [.string rg.1, .string rg.2]) := BR.out.below hbu22
  replace HB : Hid (Below w.heap.size w w22) := HB.out.trans (hbu22.mono HB.out.size)
  replace TR : Hid (TRow w22 t ra wa) := HP.out.row.below HB.out
  replace VR : Hid (GRow encV w22 va vs) := HVP.out.below HB.out
  replace S1 : Hid (Lies encR 41 w22 (w6.heap.size) w7.heap.size (.slice sa1 rs.length sc1) rs) := S1.out.below hbu22
  replace BX : Hid (Bx w22 (w8.heap.size) [.int .i64 t.id, .int .i64 t.st, .int .i64 t.snap, .int .i64 t.cs, .slice pa2 t.rs.length pc2, .slice qa2 t.ws.length qc2, .bool t.out, .string t.nm]) := BX.out.below hbu22
  replace M2 : Hid (Lies encR 41 w22 (w10.heap.size) (w11.heap.size) (.slice sa2 rs.length sc2) (mkP 1 rs.length)) := M2.out.below hbu22
  have T4 : Hid (TLie w22 (w21.heap.size) w22.heap.size t pa4 pc4 qa4 qc4) := hl
  clear hl
  go_wp2_with fail
  refine hK.out _ _ ⟨BA.out.c0, BA.out.c1, BA.out.c2, BA.out.c3, BA.out.c4, BA.out.c5, BA.out.c6, BA.out.c7, BR.out.c0, BR.out.c1⟩ (fun hHeld22 => ?_)
  clear hK K hb22 hbu22
  refine wpAnyH_ready (rs := [3]) (by kernel_rfl) (by simp) ?_
  refine AllReadyH.cons rfl (fun K hK => ?_) AllReadyH.nil
  go_simp
  go_wp2_with fail
  refine (toSV vs va vc (by omega) _ VR.out).mono ?_
  rintro e w23 ⟨ya4, yc4, rfl, hd, hb23⟩
  have Z23 : Hid (w22.heap.size ≤ w23.heap.size) := by show _ ≤ _; have h := hb23.size; simpa using h
  replace BA : Hid (Bx w23 (w.heap.size) [.int .i64 t.id, .int .i64 t.st, .int .i64 t.snap, .int .i64 t.cs, .slice ra t.rs.length rc, .slice wa t.ws.length wc, .bool t.out, .string t.nm]) := BA.out.below hb23
  replace BR : Hid (Bx w23 (w.heap.size + 1) [.string rg.1, .string rg.2]) := BR.out.below hb23
  replace HB : Hid (Below w.heap.size w w23) := HB.out.trans (hb23.mono HB.out.size)
  replace TR : Hid (TRow w23 t ra wa) := HP.out.row.below HB.out
  replace VR : Hid (GRow encV w23 va vs) := HVP.out.below HB.out
  replace S1 : Hid (Lies encR 41 w23 (w6.heap.size) w7.heap.size (.slice sa1 rs.length sc1) rs) := S1.out.below hb23
  replace BX : Hid (Bx w23 (w8.heap.size) [.int .i64 t.id, .int .i64 t.st, .int .i64 t.snap, .int .i64 t.cs, .slice pa2 t.rs.length pc2, .slice qa2 t.ws.length qc2, .bool t.out, .string t.nm]) := BX.out.below hb23
  replace M2 : Hid (Lies encR 41 w23 (w10.heap.size) (w11.heap.size) (.slice sa2 rs.length sc2) (mkP 1 rs.length)) := M2.out.below hb23
  replace T4 : Hid (TLie w23 (w21.heap.size) w22.heap.size t pa4 pc4 qa4 qc4) := T4.out.below hb23
  have Y4 : Hid (Lies encV 91 w23 (w22.heap.size) w23.heap.size (.slice ya4 vs.length yc4) vs) := Lies.of hd
  clear hd
  go_wp2_with fail
  refine hK.out _ _ ⟨BA.out.c0, BA.out.c1, BA.out.c2, BA.out.c3, BA.out.c4, BA.out.c5, BA.out.c6, BA.out.c7, BR.out.c0, BR.out.c1⟩ (fun hHeld23 => ?_)
  clear hK K hb23
  refine wpAnyH_ready (rs := [5]) (by kernel_rfl) (by simp) ?_
  refine AllReadyH.cons rfl (fun K hK => ?_) AllReadyH.nil
  go_simp
  go_wp2_with fail
  refine (TRg.out _).mono ?_
  rintro e w24 ⟨rfl, hb24⟩
  have Z24 : Hid (w23.heap.size ≤ w24.heap.size) := by show _ ≤ _; have h := hb24.size; simpa using h
  replace BA : Hid (Bx w24 (w.heap.size) [.int .i64 t.id, .int .i64 t.st, .int .i64 t.snap, .int .i64 t.cs, .slice ra t.rs.length rc, .slice wa t.ws.length wc, .bool t.out, .string t.nm]) := BA.out.below hb24
  replace BR : Hid (Bx w24 (w.heap.size + 1) [.string rg.1, .string rg.2]) := BR.out.below hb24
  replace HB : Hid (Below w.heap.size w w24) := HB.out.trans (hb24.mono HB.out.size)
  replace TR : Hid (TRow w24 t ra wa) := HP.out.row.below HB.out
  replace VR : Hid (GRow encV w24 va vs) := HVP.out.below HB.out
  replace S1 : Hid (Lies encR 41 w24 (w6.heap.size) w7.heap.size (.slice sa1 rs.length sc1) rs) := S1.out.below hb24
  replace BX : Hid (Bx w24 (w8.heap.size) [.int .i64 t.id, .int .i64 t.st, .int .i64 t.snap, .int .i64 t.cs, .slice pa2 t.rs.length pc2, .slice qa2 t.ws.length qc2, .bool t.out, .string t.nm]) := BX.out.below hb24
  replace M2 : Hid (Lies encR 41 w24 (w10.heap.size) (w11.heap.size) (.slice sa2 rs.length sc2) (mkP 1 rs.length)) := M2.out.below hb24
  replace T4 : Hid (TLie w24 (w21.heap.size) w22.heap.size t pa4 pc4 qa4 qc4) := T4.out.below hb24
  replace Y4 : Hid (Lies encV 91 w24 (w22.heap.size) w23.heap.size (.slice ya4 vs.length yc4) vs) := Y4.out.below hb24
  go_wp2_with fail
  refine hK.out _ _ ⟨BA.out.c0, BA.out.c1, BA.out.c2, BA.out.c3, BA.out.c4, BA.out.c5, BA.out.c6, BA.out.c7, BR.out.c0, BR.out.c1⟩ (fun hHeld24 => ?_)
  clear hK K hb24
  refine wpAnyH_ready (rs := [6]) (by kernel_rfl) (by simp) ?_
  refine AllReadyH.cons rfl (fun K hK => ?_) AllReadyH.nil
  go_simp
  go_wp2_with fail
  refine (CI.out pa4 pc4 qa4 qc4 ya4 yc4 _ T4.out.row.w Y4.out.own.grow).mono ?_
  rintro e w25 ⟨sa4, sc4, rfl, hd, hb25⟩
  have Z25 : Hid (w24.heap.size ≤ w25.heap.size) := by show _ ≤ _; have h := hb25.size; simpa using h
  replace BA : Hid (Bx w25 (w.heap.size) [.int .i64 t.id, .int .i64 t.st, .int .i64 t.snap, .int .i64 t.cs, .slice ra t.rs.length rc, .slice wa t.ws.length wc, .bool t.out, .string t.nm]) := BA.out.below hb25
  replace BR : Hid (Bx w25 (w.heap.size + 1) [.string rg.1, .string rg.2]) := BR.out.below hb25
  replace HB : Hid (Below w.heap.size w w25) := HB.out.trans (hb25.mono HB.out.size)
  replace TR : Hid (TRow w25 t ra wa) := HP.out.row.below HB.out
  replace VR : Hid (GRow encV w25 va vs) := HVP.out.below HB.out
  replace S1 : Hid (Lies encR 41 w25 (w6.heap.size) w7.heap.size (.slice sa1 rs.length sc1) rs) := S1.out.below hb25
  replace BX : Hid (Bx w25 (w8.heap.size) [.int .i64 t.id, .int .i64 t.st, .int .i64 t.snap, .int .i64 t.cs, .slice pa2 t.rs.length pc2, .slice qa2 t.ws.length qc2, .bool t.out, .string t.nm]) := BX.out.below hb25
  replace M2 : Hid (Lies encR 41 w25 (w10.heap.size) (w11.heap.size) (.slice sa2 rs.length sc2) (mkP 1 rs.length)) := M2.out.below hb25
  replace T4 : Hid (TLie w25 (w21.heap.size) w22.heap.size t pa4 pc4 qa4 qc4) := T4.out.below hb25
  replace Y4 : Hid (Lies encV 91 w25 (w22.heap.size) w23.heap.size (.slice ya4 vs.length yc4) vs) := Y4.out.below hb25
  have S4 : Hid (Lies encR 41 w25 (w24.heap.size) w25.heap.size (.slice sa4 rs.length sc4) rs) := Lies.of hd
  clear hd
  go_wp2_with fail
  refine hK.out _ _ ⟨BA.out.c0, BA.out.c1, BA.out.c2, BA.out.c3, BA.out.c4, BA.out.c5, BA.out.c6, BA.out.c7, BR.out.c0, BR.out.c1⟩ (fun hHeld25 => ?_)
  clear hK K hb25
  (refine wpAnyH_take (i := 7) (v := ?_) rfl (by kernel_rfl) (by kernel_rfl) (by kernel_rfl) (fun _ _ _ h => h) (Or.inl ⟨by rfl, ?_⟩) (by assumption) ?_; rotate_left; (focus (intro w hSw; (try dsimp only at hSw); go_simp; (try with_reducible rfl); done)); simp only [Act.put, List.getElem_toArray, List.getElem_cons_zero, List.getElem_cons_succ, List.setIfInBounds_toArray, List.set_cons_zero, List.set_cons_succ])
  refine wpAnyH_done (by kernel_rfl) ?_ _
  clear T4 Y4
  go_wp2_with fail
  refine (eqSP sa4 sa1 _ _ rs (by omega) _ S4.out.own.grow S1.out.own.grow).mono ?_
  rintro e w26 ⟨rfl, hb26⟩
  have Z26 : Hid (w25.heap.size ≤ w26.heap.size) := by show _ ≤ _; have h := hb26.size; simpa using h
  replace BA : Hid (Bx w26 (w.heap.size) [.int .i64 t.id, .int .i64 t.st, .int .i64 t.snap, .int .i64 t.cs, .slice ra t.rs.length rc, .slice wa t.ws.length wc, .bool t.out, .string t.nm]) := BA.out.below hb26
  replace BR : Hid (Bx w26 (w.heap.size + 1) [.string rg.1, .string rg.2]) := BR.out.below hb26
  replace HB : Hid (Below w.heap.size w w26) := HB.out.trans (hb26.mono HB.out.size)
  replace TR : Hid (TRow w26 t ra wa) := HP.out.row.below HB.out
  replace VR : Hid (GRow encV w26 va vs) := HVP.out.below HB.out
  replace S1 : Hid (Lies encR 41 w26 (w6.heap.size) w7.heap.size (.slice sa1 rs.length sc1) rs) := S1.out.below hb26
  replace BX : Hid (Bx w26 (w8.heap.size) [.int .i64 t.id, .int .i64 t.st, .int .i64 t.snap, .int .i64 t.cs, .slice pa2 t.rs.length pc2, .slice qa2 t.ws.length qc2, .bool t.out, .string t.nm]) := BX.out.below hb26
  replace M2 : Hid (Lies encR 41 w26 (w10.heap.size) (w11.heap.size) (.slice sa2 rs.length sc2) (mkP 1 rs.length)) := M2.out.below hb26
  replace S4 : Hid (Lies encR 41 w26 (w24.heap.size) w25.heap.size (.slice sa4 rs.length sc4) rs) := S4.out.below hb26
  clear hb26
  have hgm : GRow encR w26 sa2 (mkP 1 rs.length) := by
    have h := M2.out.own
    obtain ⟨ao, cap, e, hr⟩ := h.row
    rw [mkP_len] at e
    cases e
    exact hr
  go_wp2_with fail
  refine (heldP rs.length 1 sa2 sc2 (by omega) (by omega) (by omega) _ hgm).mono ?_
  rintro e w27 ⟨rfl, hb27⟩
  have Z27 : Hid (w26.heap.size ≤ w27.heap.size) := by show _ ≤ _; have h := hb27.size; simpa using h
  replace BA : Hid (Bx w27 (w.heap.size) [.int .i64 t.id, .int .i64 t.st, .int .i64 t.snap, .int .i64 t.cs, .slice ra t.rs.length rc, .slice wa t.ws.length wc, .bool t.out, .string t.nm]) := BA.out.below hb27
  replace BR : Hid (Bx w27 (w.heap.size + 1) [.string rg.1, .string rg.2]) := BR.out.below hb27
  replace HB : Hid (Below w.heap.size w w27) := HB.out.trans (hb27.mono HB.out.size)
  replace TR : Hid (TRow w27 t ra wa) := HP.out.row.below HB.out
  replace VR : Hid (GRow encV w27 va vs) := HVP.out.below HB.out
  replace S1 : Hid (Lies encR 41 w27 (w6.heap.size) w7.heap.size (.slice sa1 rs.length sc1) rs) := S1.out.below hb27
  replace BX : Hid (Bx w27 (w8.heap.size) [.int .i64 t.id, .int .i64 t.st, .int .i64 t.snap, .int .i64 t.cs, .slice pa2 t.rs.length pc2, .slice qa2 t.ws.length qc2, .bool t.out, .string t.nm]) := BX.out.below hb27
  replace M2 : Hid (Lies encR 41 w27 (w10.heap.size) (w11.heap.size) (.slice sa2 rs.length sc2) (mkP 1 rs.length)) := M2.out.below hb27
  replace S4 : Hid (Lies encR 41 w27 (w24.heap.size) w25.heap.size (.slice sa4 rs.length sc4) rs) := S4.out.below hb27
  clear hgm
  rw [← HK3.out]
  clear hb27
  go_wp2
  go_ret
  exact ⟨rfl, HB.out⟩
end Go.Proofs.Ytblfljmcbpodbaa

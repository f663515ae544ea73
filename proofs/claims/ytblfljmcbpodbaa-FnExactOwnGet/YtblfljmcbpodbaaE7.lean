/- The law FnExactOwnGet, walked. -/
import Derived.Test.YtblfljmcbpodbaaB1
import Derived.Test.YtblfljmcbpodbaaE4
import Derived.Test.YtblfljmcbpodbaaR1
namespace Go.Proofs.Ytblfljmcbpodbaa
open Go.RowKit
open KM
open VM
attribute [local go_sem ↓] Go.wp_at_zero Go.wp_at_succ

set_option maxRecDepth 100000 in
set_option maxHeartbeats 2000000 in
theorem law7 (t : Tx) (ra wa : Option Addr) (rc wc : Nat) (vs : List Vr) (va : Option Addr) (vc : Nat) (k : ByteArray) (w : World) (hp : TArg w t ra wa) (hvn : vs.length ≤ maxLen) (hvl : ∀ x ∈ vs, x.1.size ≤ maxLen ∧ x.2.1.size ≤ maxLen) (hvp : GRow encV w va vs) (hk : k.size ≤ maxLen) : Calls Try.prog 7 #[.agg #[.int .i64 t.id, .int .i64 t.st, .int .i64 t.snap, .int .i64 t.cs, .slice ra t.rs.length rc, .slice wa t.ws.length wc, .bool t.out, .string t.nm], .slice va vs.length vc, .string k] w fun e w' => e = .returned (.bool true) ∧ Below w.heap.size w w' := by
  have HP : Hid (TArg w t ra wa) := hp
  clear hp
  have HVL : Hid (∀ x ∈ vs, x.1.size ≤ maxLen ∧ x.2.1.size ≤ maxLen) := hvl
  have HVP : Hid (GRow encV w va vs) := hvp
  clear hvl hvp
  unfold maxLen at hvn hk
  have BA : Hid (Bx (w.alloc (.cells #[.int .i64 t.id, .int .i64 t.st, .int .i64 t.snap, .int .i64 t.cs, .slice ra t.rs.length rc, .slice wa t.ws.length wc, .bool t.out, .string t.nm] 47)) w.heap.size [.int .i64 t.id, .int .i64 t.st, .int .i64 t.snap, .int .i64 t.cs, .slice ra t.rs.length rc, .slice wa t.ws.length wc, .bool t.out, .string t.nm]) := Bx.new w [.int .i64 t.id, .int .i64 t.st, .int .i64 t.snap, .int .i64 t.cs, .slice ra t.rs.length rc, .slice wa t.ws.length wc, .bool t.out, .string t.nm] 47
  have HB : Hid (Below w.heap.size w (w.alloc (.cells #[.int .i64 t.id, .int .i64 t.st, .int .i64 t.snap, .int .i64 t.cs, .slice ra t.rs.length rc, .slice wa t.ws.length wc, .bool t.out, .string t.nm] 47))) := (belowRefl w).alloc (Nat.le_refl _) _
  have TR : Hid (TRow (w.alloc (.cells #[.int .i64 t.id, .int .i64 t.st, .int .i64 t.snap, .int .i64 t.cs, .slice ra t.rs.length rc, .slice wa t.ws.length wc, .bool t.out, .string t.nm] 47)) t ra wa) := HP.out.row.below HB.out
  have VR : Hid (GRow encV (w.alloc (.cells #[.int .i64 t.id, .int .i64 t.st, .int .i64 t.snap, .int .i64 t.cs, .slice ra t.rs.length rc, .slice wa t.ws.length wc, .bool t.out, .string t.nm] 47)) va vs) := HVP.out.below HB.out
  by_cases hkb : 1048576 < k.size
  · have hkb' : (1048576 : Int) < (k.size : Int) := by omega
    go_enter Try.func7, Try.ntmps7
    go_wp2
    go_ret
    exact ⟨rfl, HB.out⟩
  have hkb' : ¬ (1048576 : Int) < (k.size : Int) := by omega
  go_enter Try.func7, Try.ntmps7
  go_wp2_with fail
  refine (szT t ra wa rc wc 1048576 (by omega) (by omega) _ ⟨HP.out.rl, HP.out.rf, HP.out.wl, HP.out.wf, HP.out.nm, TR.out⟩).mono ?_
  rintro e w1 ⟨hb1, r0, rfl, hu0, hr0⟩
  replace BA : Hid (Bx w1 w.heap.size [.int .i64 t.id, .int .i64 t.st, .int .i64 t.snap, .int .i64 t.cs, .slice ra t.rs.length rc, .slice wa t.ws.length wc, .bool t.out, .string t.nm]) := BA.out.below hb1
  replace HB : Hid (Below w.heap.size w w1) := HB.out.trans (hb1.mono HB.out.size)
  replace TR : Hid (TRow w1 t ra wa) := TR.out.below hb1
  replace VR : Hid (GRow encV w1 va vs) := VR.out.below hb1
  clear hb1
  by_cases hneg : r0 < 0
  · clear hr0
    go_wp2
    go_ret
    exact ⟨rfl, HB.out⟩
  have hpos : ¬ r0 < 0 := hneg
  have hpos' : 0 ≤ r0 := by omega
  have HF : Hid (TFit t) := hr0 (by omega)
  clear hr0 hneg
  have hrl : t.rs.length ≤ 100000000 := Nat.le_trans HF.out.1 (by omega)
  have hwl : t.ws.length ≤ 100000000 := Nat.le_trans HF.out.2.2.1 (by omega)
  go_wp2_with fail
  refine (szSV vs va vc hvn HVL.out r0 hpos' hu0 _ VR.out).mono ?_
  rintro e w2 ⟨hb2, r1, rfl, hu1, hr1⟩
  replace BA : Hid (Bx w2 w.heap.size [.int .i64 t.id, .int .i64 t.st, .int .i64 t.snap, .int .i64 t.cs, .slice ra t.rs.length rc, .slice wa t.ws.length wc, .bool t.out, .string t.nm]) := BA.out.below hb2
  replace HB : Hid (Below w.heap.size w w2) := HB.out.trans (hb2.mono HB.out.size)
  replace TR : Hid (TRow w2 t ra wa) := TR.out.below hb2
  replace VR : Hid (GRow encV w2 va vs) := VR.out.below hb2
  clear hb2
  by_cases hneg1 : r1 < 0
  · clear hr1
    go_wp2
    go_ret
    exact ⟨rfl, HB.out⟩
  have hpos1 : ¬ r1 < 0 := hneg1
  have HVF : Hid (VFit vs) := (hr1 (by omega)).2
  have hvn' : vs.length ≤ 100000000 := Nat.le_trans (hr1 (by omega)).1 (by omega)
  clear hr1 hneg1
  have CI : Hid (∀ pa pc qa qc va vc w, GRow encW w qa t.ws → GRow encV w va vs → Calls Try.prog 16 #[.agg #[.int .i64 t.id, .int .i64 t.st, .int .i64 t.snap, .int .i64 t.cs, .slice pa t.rs.length pc, .slice qa t.ws.length qc, .bool t.out, .string t.nm], .slice va vs.length vc, .string k] w fun e w' => e = .returned (sawB (ownB t vs k)) ∧ Below w.heap.size w w') := fun pa pc qa qc va vc w h1 h2 => iown t pa qa pc qc vs va vc k hwl HF.out.2.2.2.1 hvn' HVF.out w h1 h2
  have CS : Hid (∀ pa pc qa qc va vc w, GRow encW w qa t.ws → GRow encV w va vs → Calls Try.prog 36 #[.agg #[.int .i64 t.id, .int .i64 t.st, .int .i64 t.snap, .int .i64 t.cs, .slice pa t.rs.length pc, .slice qa t.ws.length qc, .bool t.out, .string t.nm], .slice va vs.length vc, .string k] w fun e w' => e = .returned (sawB (ownB t vs k)) ∧ Below w.heap.size w w') := fun pa pc qa qc va vc w h1 h2 => sown t pa qa pc qc vs va vc k hwl hvn' w h1 h2
  obtain ⟨sv, sb, hsv⟩ : ∃ sv sb, sawB (ownB t vs k) = .tuple #[.string sv, .bool sb] := ⟨_, _, rfl⟩
  rw [hsv] at CI CS
  clear hsv
  have hbn := bne_self' sb
  have x0 := BA.out.c0
  have x1 := BA.out.c1
  have x2 := BA.out.c2
  have x3 := BA.out.c3
  have x4 := BA.out.c4
  have x5 := BA.out.c5
  have x6 := BA.out.c6
  have x7 := BA.out.c7
  go_wp2_with fail
  refine (toT t ra wa rc wc hrl hwl _ TR.out).mono ?_
  rintro e w3 ⟨pa1, pc1, qa1, qc1, rfl, hl, hb3⟩
  replace BA : Hid (Bx w3 w.heap.size [.int .i64 t.id, .int .i64 t.st, .int .i64 t.snap, .int .i64 t.cs, .slice ra t.rs.length rc, .slice wa t.ws.length wc, .bool t.out, .string t.nm]) := BA.out.below hb3
  replace HB : Hid (Below w.heap.size w w3) := HB.out.trans (hb3.mono HB.out.size)
  replace TR : Hid (TRow w3 t ra wa) := TR.out.below hb3
  replace VR : Hid (GRow encV w3 va vs) := VR.out.below hb3
  clear hb3 x0 x1 x2 x3 x4 x5 x6 x7
  have T1 : Hid (TRow w3 t pa1 qa1) := hl.row
  clear hl
  go_wp2_with fail
  refine (toSV vs va vc hvn' _ VR.out).mono ?_
  rintro e w4 ⟨ya1, yc1, rfl, hd, hb4⟩
  replace BA : Hid (Bx w4 w.heap.size [.int .i64 t.id, .int .i64 t.st, .int .i64 t.snap, .int .i64 t.cs, .slice ra t.rs.length rc, .slice wa t.ws.length wc, .bool t.out, .string t.nm]) := BA.out.below hb4
  replace HB : Hid (Below w.heap.size w w4) := HB.out.trans (hb4.mono HB.out.size)
  replace TR : Hid (TRow w4 t ra wa) := TR.out.below hb4
  replace VR : Hid (GRow encV w4 va vs) := VR.out.below hb4
  replace T1 : Hid (TRow w4 t pa1 qa1) := T1.out.below hb4
  clear hb4
  have Y1 : Hid (GRow encV w4 ya1 vs) := hd.grow
  clear hd
  go_wp2_with fail
  refine (CS.out pa1 pc1 qa1 qc1 ya1 yc1 _ T1.out.w Y1.out).mono ?_
  rintro e w5 ⟨rfl, hb5⟩
  replace BA : Hid (Bx w5 w.heap.size [.int .i64 t.id, .int .i64 t.st, .int .i64 t.snap, .int .i64 t.cs, .slice ra t.rs.length rc, .slice wa t.ws.length wc, .bool t.out, .string t.nm]) := BA.out.below hb5
  replace HB : Hid (Below w.heap.size w w5) := HB.out.trans (hb5.mono HB.out.size)
  replace TR : Hid (TRow w5 t ra wa) := TR.out.below hb5
  replace VR : Hid (GRow encV w5 va vs) := VR.out.below hb5
  replace T1 : Hid (TRow w5 t pa1 qa1) := T1.out.below hb5
  replace Y1 : Hid (GRow encV w5 ya1 vs) := Y1.out.below hb5
  clear hb5
  clear T1 Y1
  have x0 := BA.out.c0
  have x1 := BA.out.c1
  have x2 := BA.out.c2
  have x3 := BA.out.c3
  have x4 := BA.out.c4
  have x5 := BA.out.c5
  have x6 := BA.out.c6
  have x7 := BA.out.c7
  go_wp2_with fail
  refine (toT t ra wa rc wc hrl hwl _ TR.out).mono ?_
  rintro e w6 ⟨pa2, pc2, qa2, qc2, rfl, hl, hb6⟩
  replace BA : Hid (Bx w6 w.heap.size [.int .i64 t.id, .int .i64 t.st, .int .i64 t.snap, .int .i64 t.cs, .slice ra t.rs.length rc, .slice wa t.ws.length wc, .bool t.out, .string t.nm]) := BA.out.below hb6
  replace HB : Hid (Below w.heap.size w w6) := HB.out.trans (hb6.mono HB.out.size)
  replace TR : Hid (TRow w6 t ra wa) := TR.out.below hb6
  replace VR : Hid (GRow encV w6 va vs) := VR.out.below hb6
  clear hb6 x0 x1 x2 x3 x4 x5 x6 x7
  have T2 : Hid (TRow w6 t pa2 qa2) := hl.row
  clear hl
  have hba : Below w6.heap.size w6 (w6.alloc (.cells #[.int .i64 t.id, .int .i64 t.st, .int .i64 t.snap, .int .i64 t.cs, .slice pa2 t.rs.length pc2, .slice qa2 t.ws.length qc2, .bool t.out, .string t.nm] 27)) := (belowRefl w6).alloc (Nat.le_refl _) _
  replace BA : Hid (Bx (w6.alloc (.cells #[.int .i64 t.id, .int .i64 t.st, .int .i64 t.snap, .int .i64 t.cs, .slice pa2 t.rs.length pc2, .slice qa2 t.ws.length qc2, .bool t.out, .string t.nm] 27)) w.heap.size [.int .i64 t.id, .int .i64 t.st, .int .i64 t.snap, .int .i64 t.cs, .slice ra t.rs.length rc, .slice wa t.ws.length wc, .bool t.out, .string t.nm]) := BA.out.below hba
  replace HB : Hid (Below w.heap.size w (w6.alloc (.cells #[.int .i64 t.id, .int .i64 t.st, .int .i64 t.snap, .int .i64 t.cs, .slice pa2 t.rs.length pc2, .slice qa2 t.ws.length qc2, .bool t.out, .string t.nm] 27))) := HB.out.trans (hba.mono HB.out.size)
  replace TR : Hid (TRow (w6.alloc (.cells #[.int .i64 t.id, .int .i64 t.st, .int .i64 t.snap, .int .i64 t.cs, .slice pa2 t.rs.length pc2, .slice qa2 t.ws.length qc2, .bool t.out, .string t.nm] 27)) t ra wa) := TR.out.below hba
  replace VR : Hid (GRow encV (w6.alloc (.cells #[.int .i64 t.id, .int .i64 t.st, .int .i64 t.snap, .int .i64 t.cs, .slice pa2 t.rs.length pc2, .slice qa2 t.ws.length qc2, .bool t.out, .string t.nm] 27)) va vs) := VR.out.below hba
  replace T2 : Hid (TRow (w6.alloc (.cells #[.int .i64 t.id, .int .i64 t.st, .int .i64 t.snap, .int .i64 t.cs, .slice pa2 t.rs.length pc2, .slice qa2 t.ws.length qc2, .bool t.out, .string t.nm] 27)) t pa2 qa2) := T2.out.below hba
  clear hba
  have BX : Hid (Bx (w6.alloc (.cells #[.int .i64 t.id, .int .i64 t.st, .int .i64 t.snap, .int .i64 t.cs, .slice pa2 t.rs.length pc2, .slice qa2 t.ws.length qc2, .bool t.out, .string t.nm] 27)) w6.heap.size [.int .i64 t.id, .int .i64 t.st, .int .i64 t.snap, .int .i64 t.cs, .slice pa2 t.rs.length pc2, .slice qa2 t.ws.length qc2, .bool t.out, .string t.nm]) := Bx.new w6 [.int .i64 t.id, .int .i64 t.st, .int .i64 t.snap, .int .i64 t.cs, .slice pa2 t.rs.length pc2, .slice qa2 t.ws.length qc2, .bool t.out, .string t.nm] 27
  go_wp2_with fail
  refine (toSV vs va vc hvn' _ VR.out).mono ?_
  rintro e w7 ⟨ya2, yc2, rfl, hd, hb7⟩
  replace BA : Hid (Bx w7 w.heap.size [.int .i64 t.id, .int .i64 t.st, .int .i64 t.snap, .int .i64 t.cs, .slice ra t.rs.length rc, .slice wa t.ws.length wc, .bool t.out, .string t.nm]) := BA.out.below hb7
  replace HB : Hid (Below w.heap.size w w7) := HB.out.trans (hb7.mono HB.out.size)
  replace TR : Hid (TRow w7 t ra wa) := TR.out.below hb7
  replace VR : Hid (GRow encV w7 va vs) := VR.out.below hb7
  replace T2 : Hid (TRow w7 t pa2 qa2) := T2.out.below hb7
  replace BX : Hid (Bx w7 w6.heap.size [.int .i64 t.id, .int .i64 t.st, .int .i64 t.snap, .int .i64 t.cs, .slice pa2 t.rs.length pc2, .slice qa2 t.ws.length qc2, .bool t.out, .string t.nm]) := BX.out.below hb7
  clear hb7
  have Y2 : Hid (GRow encV w7 ya2 vs) := hd.grow
  clear hd
  have x0 := BX.out.c0
  have x1 := BX.out.c1
  have x2 := BX.out.c2
  have x3 := BX.out.c3
  have x4 := BX.out.c4
  have x5 := BX.out.c5
  have x6 := BX.out.c6
  have x7 := BX.out.c7
  go_wp2_with fail
  refine (CI.out pa2 pc2 qa2 qc2 ya2 yc2 _ T2.out.w Y2.out).mono ?_
  rintro e w8 ⟨rfl, hb8⟩
  replace BA : Hid (Bx w8 w.heap.size [.int .i64 t.id, .int .i64 t.st, .int .i64 t.snap, .int .i64 t.cs, .slice ra t.rs.length rc, .slice wa t.ws.length wc, .bool t.out, .string t.nm]) := BA.out.below hb8
  replace HB : Hid (Below w.heap.size w w8) := HB.out.trans (hb8.mono HB.out.size)
  replace TR : Hid (TRow w8 t ra wa) := TR.out.below hb8
  replace VR : Hid (GRow encV w8 va vs) := VR.out.below hb8
  replace T2 : Hid (TRow w8 t pa2 qa2) := T2.out.below hb8
  replace BX : Hid (Bx w8 w6.heap.size [.int .i64 t.id, .int .i64 t.st, .int .i64 t.snap, .int .i64 t.cs, .slice pa2 t.rs.length pc2, .slice qa2 t.ws.length qc2, .bool t.out, .string t.nm]) := BX.out.below hb8
  replace Y2 : Hid (GRow encV w8 ya2 vs) := Y2.out.below hb8
  clear hb8 x0 x1 x2 x3 x4 x5 x6 x7
  go_wp2
  refine wp_region_held_drew (S := fun w' => w'.cell? ⟨w6.heap.size, 0, none⟩ = some (.int .i64 t.id) ∧ w'.cell? ⟨w6.heap.size, 1, none⟩ = some (.int .i64 t.st) ∧ w'.cell? ⟨w6.heap.size, 2, none⟩ = some (.int .i64 t.snap) ∧ w'.cell? ⟨w6.heap.size, 3, none⟩ = some (.int .i64 t.cs) ∧ w'.cell? ⟨w6.heap.size, 4, none⟩ = some (.slice pa2 t.rs.length pc2) ∧ w'.cell? ⟨w6.heap.size, 5, none⟩ = some (.slice qa2 t.ws.length qc2) ∧ w'.cell? ⟨w6.heap.size, 6, none⟩ = some (.bool t.out) ∧ w'.cell? ⟨w6.heap.size, 7, none⟩ = some (.string t.nm) ∧ w'.cell? ⟨w.heap.size, 0, none⟩ = some (.int .i64 t.id) ∧ w'.cell? ⟨w.heap.size, 1, none⟩ = some (.int .i64 t.st) ∧ w'.cell? ⟨w.heap.size, 2, none⟩ = some (.int .i64 t.snap) ∧ w'.cell? ⟨w.heap.size, 3, none⟩ = some (.int .i64 t.cs) ∧ w'.cell? ⟨w.heap.size, 4, none⟩ = some (.slice ra t.rs.length rc) ∧ w'.cell? ⟨w.heap.size, 5, none⟩ = some (.slice wa t.ws.length wc) ∧ w'.cell? ⟨w.heap.size, 6, none⟩ = some (.bool t.out) ∧ w'.cell? ⟨w.heap.size, 7, none⟩ = some (.string t.nm)) (by kernel_rfl) ⟨BX.out.c0, BX.out.c1, BX.out.c2, BX.out.c3, BX.out.c4, BX.out.c5, BX.out.c6, BX.out.c7, BA.out.c0, BA.out.c1, BA.out.c2, BA.out.c3, BA.out.c4, BA.out.c5, BA.out.c6, BA.out.c7⟩ (fun hHeld => ?_)
  (refine wpAnyH_take (i := 0) (v := ?_) rfl (by kernel_rfl) (by kernel_rfl) (by kernel_rfl) (fun _ _ _ h => h) (Or.inl ⟨by rfl, ?_⟩) (by assumption) ?_; rotate_left; (focus (intro w hSw; (try dsimp only at hSw); go_simp; (try with_reducible rfl); done)); simp only [Act.put, List.getElem_toArray, List.getElem_cons_zero, List.setIfInBounds_toArray, List.set_cons_zero, List.set_cons_succ])
  (refine wpAnyH_take (i := 1) (v := ?_) rfl (by kernel_rfl) (by kernel_rfl) (by kernel_rfl) (fun _ _ _ h => h) (Or.inl ⟨by rfl, ?_⟩) (by assumption) ?_; rotate_left; (focus (intro w hSw; (try dsimp only at hSw); go_simp; (try with_reducible rfl); done)); simp only [Act.put, List.getElem_toArray, List.getElem_cons_zero, List.getElem_cons_succ, List.setIfInBounds_toArray, List.set_cons_zero, List.set_cons_succ])
  refine wpAnyH_ready (rs := [2]) (by kernel_rfl) (by simp) ?_
  refine AllReadyH.cons rfl (fun K hK => ?_) AllReadyH.nil
  go_simp
  go_wp2_with fail
  refine (toT t ra wa rc wc hrl hwl _ TR.out.drewT).mono ?_
  rintro e w9 ⟨pa3, pc3, qa3, qc3, rfl, hl, hb9⟩
  have hbu9 := undrew hb9
  replace BA : Hid (Bx w9 w.heap.size [.int .i64 t.id, .int .i64 t.st, .int .i64 t.snap, .int .i64 t.cs, .slice ra t.rs.length rc, .slice wa t.ws.length wc, .bool t.out, .string t.nm]) := BA.out.below hbu9
  replace HB : Hid (Below w.heap.size w w9) := HB.out.trans (hbu9.mono HB.out.size)
  replace TR : Hid (TRow w9 t ra wa) := TR.out.below hbu9
  replace VR : Hid (GRow encV w9 va vs) := VR.out.below hbu9
  replace T2 : Hid (TRow w9 t pa2 qa2) := T2.out.below hbu9
  replace BX : Hid (Bx w9 w6.heap.size [.int .i64 t.id, .int .i64 t.st, .int .i64 t.snap, .int .i64 t.cs, .slice pa2 t.rs.length pc2, .slice qa2 t.ws.length qc2, .bool t.out, .string t.nm]) := BX.out.below hbu9
  replace Y2 : Hid (GRow encV w9 ya2 vs) := Y2.out.below hbu9
  have T3 := hide0 hl.row
  clear hl
  go_wp2_with fail
  refine hK.out _ _ ⟨BX.out.c0, BX.out.c1, BX.out.c2, BX.out.c3, BX.out.c4, BX.out.c5, BX.out.c6, BX.out.c7, BA.out.c0, BA.out.c1, BA.out.c2, BA.out.c3, BA.out.c4, BA.out.c5, BA.out.c6, BA.out.c7⟩ (fun hHeld9 => ?_)
  clear hK K hb9 hbu9
  refine wpAnyH_ready (rs := [3]) (by kernel_rfl) (by simp) ?_
  refine AllReadyH.cons rfl (fun K hK => ?_) AllReadyH.nil
  go_simp
  go_wp2_with fail
  refine (eqT t pa2 qa2 pa3 qa3 pc2 qc2 pc3 qc3 hrl hwl _ T2.out T3.out).mono ?_
  rintro e w10 ⟨rfl, hb10⟩
  replace BA : Hid (Bx w10 w.heap.size [.int .i64 t.id, .int .i64 t.st, .int .i64 t.snap, .int .i64 t.cs, .slice ra t.rs.length rc, .slice wa t.ws.length wc, .bool t.out, .string t.nm]) := BA.out.below hb10
  replace HB : Hid (Below w.heap.size w w10) := HB.out.trans (hb10.mono HB.out.size)
  replace TR : Hid (TRow w10 t ra wa) := TR.out.below hb10
  replace VR : Hid (GRow encV w10 va vs) := VR.out.below hb10
  replace T2 : Hid (TRow w10 t pa2 qa2) := T2.out.below hb10
  replace BX : Hid (Bx w10 w6.heap.size [.int .i64 t.id, .int .i64 t.st, .int .i64 t.snap, .int .i64 t.cs, .slice pa2 t.rs.length pc2, .slice qa2 t.ws.length qc2, .bool t.out, .string t.nm]) := BX.out.below hb10
  replace Y2 : Hid (GRow encV w10 ya2 vs) := Y2.out.below hb10
  replace T3 : Hid (TRow w10 t pa3 qa3) := T3.out.below hb10
  go_wp2_with fail
  refine hK.out _ _ ⟨BX.out.c0, BX.out.c1, BX.out.c2, BX.out.c3, BX.out.c4, BX.out.c5, BX.out.c6, BX.out.c7, BA.out.c0, BA.out.c1, BA.out.c2, BA.out.c3, BA.out.c4, BA.out.c5, BA.out.c6, BA.out.c7⟩ (fun hHeld10 => ?_)
  clear hK K hb10
  (refine wpAnyH_take (i := 4) (v := ?_) rfl (by kernel_rfl) (by kernel_rfl) (by kernel_rfl) (fun _ _ _ h => h) (Or.inl ⟨by rfl, ?_⟩) (by assumption) ?_; rotate_left; (focus (intro w hSw; (try dsimp only at hSw); go_simp; (try with_reducible rfl); done)); simp only [Act.put, List.getElem_toArray, List.getElem_cons_zero, List.getElem_cons_succ, List.setIfInBounds_toArray, List.set_cons_zero, List.set_cons_succ])
  refine wpAnyH_done (by kernel_rfl) ?_ _
  clear T3
  go_wp2_with fail
  refine (toSV vs va vc hvn' _ VR.out).mono ?_
  rintro e w11 ⟨ya3, yc3, rfl, hd, hb11⟩
  replace BA : Hid (Bx w11 w.heap.size [.int .i64 t.id, .int .i64 t.st, .int .i64 t.snap, .int .i64 t.cs, .slice ra t.rs.length rc, .slice wa t.ws.length wc, .bool t.out, .string t.nm]) := BA.out.below hb11
  replace HB : Hid (Below w.heap.size w w11) := HB.out.trans (hb11.mono HB.out.size)
  replace TR : Hid (TRow w11 t ra wa) := TR.out.below hb11
  replace VR : Hid (GRow encV w11 va vs) := VR.out.below hb11
  replace T2 : Hid (TRow w11 t pa2 qa2) := T2.out.below hb11
  replace BX : Hid (Bx w11 w6.heap.size [.int .i64 t.id, .int .i64 t.st, .int .i64 t.snap, .int .i64 t.cs, .slice pa2 t.rs.length pc2, .slice qa2 t.ws.length qc2, .bool t.out, .string t.nm]) := BX.out.below hb11
  replace Y2 : Hid (GRow encV w11 ya2 vs) := Y2.out.below hb11
  clear hb11
  have Y3 : Hid (GRow encV w11 ya3 vs) := hd.grow
  clear hd
  go_wp2_with fail
  refine (eqSV ya2 ya3 _ _ vs hvn' _ Y2.out Y3.out).mono ?_
  rintro e w12 ⟨rfl, hb12⟩
  replace BA : Hid (Bx w12 w.heap.size [.int .i64 t.id, .int .i64 t.st, .int .i64 t.snap, .int .i64 t.cs, .slice ra t.rs.length rc, .slice wa t.ws.length wc, .bool t.out, .string t.nm]) := BA.out.below hb12
  replace HB : Hid (Below w.heap.size w w12) := HB.out.trans (hb12.mono HB.out.size)
  replace TR : Hid (TRow w12 t ra wa) := TR.out.below hb12
  replace VR : Hid (GRow encV w12 va vs) := VR.out.below hb12
  replace T2 : Hid (TRow w12 t pa2 qa2) := T2.out.below hb12
  replace BX : Hid (Bx w12 w6.heap.size [.int .i64 t.id, .int .i64 t.st, .int .i64 t.snap, .int .i64 t.cs, .slice pa2 t.rs.length pc2, .slice qa2 t.ws.length qc2, .bool t.out, .string t.nm]) := BX.out.below hb12
  replace Y2 : Hid (GRow encV w12 ya2 vs) := Y2.out.below hb12
  replace Y3 : Hid (GRow encV w12 ya3 vs) := Y3.out.below hb12
  clear hb12
  go_wp2
  go_ret
  exact ⟨rfl, HB.out⟩
end Go.Proofs.Ytblfljmcbpodbaa

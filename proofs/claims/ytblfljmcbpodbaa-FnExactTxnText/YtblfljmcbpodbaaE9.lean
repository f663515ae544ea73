/- The law FnExactTxnText, walked. -/
import Derived.Test.YtblfljmcbpodbaaD4
import Derived.Test.YtblfljmcbpodbaaE4
namespace Go.Proofs.Ytblfljmcbpodbaa
open Go.RowKit
open KM
open VM
attribute [local go_sem ↓] Go.wp_at_zero Go.wp_at_succ

set_option maxRecDepth 100000 in
set_option maxHeartbeats 2000000 in
theorem law9 (t : Tx) (ra wa : Option Addr) (rc wc : Nat)  (w : World) (hp : TArg w t ra wa)  : Calls Try.prog 9 #[.agg #[.int .i64 t.id, .int .i64 t.st, .int .i64 t.snap, .int .i64 t.cs, .slice ra t.rs.length rc, .slice wa t.ws.length wc, .bool t.out, .string t.nm]] w fun e w' => e = .returned (.bool true) ∧ Below w.heap.size w w' := by
  have HP : Hid (TArg w t ra wa) := hp
  clear hp
  have BA : Hid (Bx (w.alloc (.cells #[.int .i64 t.id, .int .i64 t.st, .int .i64 t.snap, .int .i64 t.cs, .slice ra t.rs.length rc, .slice wa t.ws.length wc, .bool t.out, .string t.nm] 47)) w.heap.size [.int .i64 t.id, .int .i64 t.st, .int .i64 t.snap, .int .i64 t.cs, .slice ra t.rs.length rc, .slice wa t.ws.length wc, .bool t.out, .string t.nm]) := Bx.new w [.int .i64 t.id, .int .i64 t.st, .int .i64 t.snap, .int .i64 t.cs, .slice ra t.rs.length rc, .slice wa t.ws.length wc, .bool t.out, .string t.nm] 47
  have HB : Hid (Below w.heap.size w (w.alloc (.cells #[.int .i64 t.id, .int .i64 t.st, .int .i64 t.snap, .int .i64 t.cs, .slice ra t.rs.length rc, .slice wa t.ws.length wc, .bool t.out, .string t.nm] 47))) := (belowRefl w).alloc (Nat.le_refl _) _
  have TR : Hid (TRow (w.alloc (.cells #[.int .i64 t.id, .int .i64 t.st, .int .i64 t.snap, .int .i64 t.cs, .slice ra t.rs.length rc, .slice wa t.ws.length wc, .bool t.out, .string t.nm] 47)) t ra wa) := HP.out.row.below HB.out
  go_enter Try.func9, Try.ntmps9
  go_wp2_with fail
  refine (szT t ra wa rc wc 1048576 (by omega) (by omega) _ ⟨HP.out.rl, HP.out.rf, HP.out.wl, HP.out.wf, HP.out.nm, TR.out⟩).mono ?_
  rintro e w1 ⟨hb1, r0, rfl, hu0, hr0⟩
  replace BA : Hid (Bx w1 w.heap.size [.int .i64 t.id, .int .i64 t.st, .int .i64 t.snap, .int .i64 t.cs, .slice ra t.rs.length rc, .slice wa t.ws.length wc, .bool t.out, .string t.nm]) := BA.out.below hb1
  replace HB : Hid (Below w.heap.size w w1) := HB.out.trans (hb1.mono HB.out.size)
  replace TR : Hid (TRow w1 t ra wa) := TR.out.below hb1
  clear hb1
  by_cases hneg : r0 < 0
  · clear hr0
    go_wp2
    go_ret
    exact ⟨rfl, HB.out⟩
  have hpos : ¬ r0 < 0 := hneg
  have hpos' : 0 ≤ r0 := by omega
  have HF : Hid (TFit t) := hr0 (by omega)
  clear hr0 hneg
  have hrl : t.rs.length ≤ 100000000 := Nat.le_trans HF.out.1 (by omega)
  have hwl : t.ws.length ≤ 100000000 := Nat.le_trans HF.out.2.2.1 (by omega)
  have CI : Hid (∀ pa pc qa qc w, TRow w t pa qa → Calls Try.prog 44 #[.agg #[.int .i64 t.id, .int .i64 t.st, .int .i64 t.snap, .int .i64 t.cs, .slice pa t.rs.length pc, .slice qa t.ws.length qc, .bool t.out, .string t.nm]] w fun e w' => e = .returned (txtV t) ∧ Below w.heap.size w w') := fun pa pc qa qc w h => itext t pa qa pc qc hrl hwl w h
  have CS : Hid (∀ pa pc qa qc w, TRow w t pa qa → Calls Try.prog 43 #[.agg #[.int .i64 t.id, .int .i64 t.st, .int .i64 t.snap, .int .i64 t.cs, .slice pa t.rs.length pc, .slice qa t.ws.length qc, .bool t.out, .string t.nm]] w fun e w' => e = .returned (txtV t) ∧ Below w.heap.size w w') := fun pa pc qa qc w h => stext t pa qa pc qc HF.out w h
  obtain ⟨sv, sb, hsv⟩ : ∃ sv sb, txtV t = .tuple #[.string sv, .bool sb] := by
    unfold txtV
    split
    · exact ⟨_, _, rfl⟩
    · exact ⟨_, _, rfl⟩
  rw [hsv] at CI CS
  clear hsv
  have hbn := bne_self' sb
  have x0 := BA.out.c0
  have x1 := BA.out.c1
  have x2 := BA.out.c2
  have x3 := BA.out.c3
  have x4 := BA.out.c4
  have x5 := BA.out.c5
  have x6 := BA.out.c6
  have x7 := BA.out.c7
  go_wp2_with fail
  refine (toT t ra wa rc wc hrl hwl _ TR.out).mono ?_
  rintro e w2 ⟨pa1, pc1, qa1, qc1, rfl, hl, hb2⟩
  replace BA : Hid (Bx w2 w.heap.size [.int .i64 t.id, .int .i64 t.st, .int .i64 t.snap, .int .i64 t.cs, .slice ra t.rs.length rc, .slice wa t.ws.length wc, .bool t.out, .string t.nm]) := BA.out.below hb2
  replace HB : Hid (Below w.heap.size w w2) := HB.out.trans (hb2.mono HB.out.size)
  replace TR : Hid (TRow w2 t ra wa) := TR.out.below hb2
  clear hb2 x0 x1 x2 x3 x4 x5 x6 x7
  have T1 : Hid (TRow w2 t pa1 qa1) := hl.row
  clear hl
  go_wp2_with fail
  refine (CS.out pa1 pc1 qa1 qc1 _ T1.out).mono ?_
  rintro e w3 ⟨rfl, hb3⟩
  replace BA : Hid (Bx w3 w.heap.size [.int .i64 t.id, .int .i64 t.st, .int .i64 t.snap, .int .i64 t.cs, .slice ra t.rs.length rc, .slice wa t.ws.length wc, .bool t.out, .string t.nm]) := BA.out.below hb3
  replace HB : Hid (Below w.heap.size w w3) := HB.out.trans (hb3.mono HB.out.size)
  replace TR : Hid (TRow w3 t ra wa) := TR.out.below hb3
  replace T1 : Hid (TRow w3 t pa1 qa1) := T1.out.below hb3
  clear hb3
  clear T1
  have x0 := BA.out.c0
  have x1 := BA.out.c1
  have x2 := BA.out.c2
  have x3 := BA.out.c3
  have x4 := BA.out.c4
  have x5 := BA.out.c5
  have x6 := BA.out.c6
  have x7 := BA.out.c7
  go_wp2_with fail
  refine (toT t ra wa rc wc hrl hwl _ TR.out).mono ?_
  rintro e w4 ⟨pa2, pc2, qa2, qc2, rfl, hl, hb4⟩
  replace BA : Hid (Bx w4 w.heap.size [.int .i64 t.id, .int .i64 t.st, .int .i64 t.snap, .int .i64 t.cs, .slice ra t.rs.length rc, .slice wa t.ws.length wc, .bool t.out, .string t.nm]) := BA.out.below hb4
  replace HB : Hid (Below w.heap.size w w4) := HB.out.trans (hb4.mono HB.out.size)
  replace TR : Hid (TRow w4 t ra wa) := TR.out.below hb4
  clear hb4 x0 x1 x2 x3 x4 x5 x6 x7
  have T2 : Hid (TRow w4 t pa2 qa2) := hl.row
  clear hl
  have hba : Below w4.heap.size w4 (w4.alloc (.cells #[.int .i64 t.id, .int .i64 t.st, .int .i64 t.snap, .int .i64 t.cs, .slice pa2 t.rs.length pc2, .slice qa2 t.ws.length qc2, .bool t.out, .string t.nm] 27)) := (belowRefl w4).alloc (Nat.le_refl _) _
  replace BA : Hid (Bx (w4.alloc (.cells #[.int .i64 t.id, .int .i64 t.st, .int .i64 t.snap, .int .i64 t.cs, .slice pa2 t.rs.length pc2, .slice qa2 t.ws.length qc2, .bool t.out, .string t.nm] 27)) w.heap.size [.int .i64 t.id, .int .i64 t.st, .int .i64 t.snap, .int .i64 t.cs, .slice ra t.rs.length rc, .slice wa t.ws.length wc, .bool t.out, .string t.nm]) := BA.out.below hba
  replace HB : Hid (Below w.heap.size w (w4.alloc (.cells #[.int .i64 t.id, .int .i64 t.st, .int .i64 t.snap, .int .i64 t.cs, .slice pa2 t.rs.length pc2, .slice qa2 t.ws.length qc2, .bool t.out, .string t.nm] 27))) := HB.out.trans (hba.mono HB.out.size)
  replace TR : Hid (TRow (w4.alloc (.cells #[.int .i64 t.id, .int .i64 t.st, .int .i64 t.snap, .int .i64 t.cs, .slice pa2 t.rs.length pc2, .slice qa2 t.ws.length qc2, .bool t.out, .string t.nm] 27)) t ra wa) := TR.out.below hba
  replace T2 : Hid (TRow (w4.alloc (.cells #[.int .i64 t.id, .int .i64 t.st, .int .i64 t.snap, .int .i64 t.cs, .slice pa2 t.rs.length pc2, .slice qa2 t.ws.length qc2, .bool t.out, .string t.nm] 27)) t pa2 qa2) := T2.out.below hba
  clear hba
  have BX : Hid (Bx (w4.alloc (.cells #[.int .i64 t.id, .int .i64 t.st, .int .i64 t.snap, .int .i64 t.cs, .slice pa2 t.rs.length pc2, .slice qa2 t.ws.length qc2, .bool t.out, .string t.nm] 27)) w4.heap.size [.int .i64 t.id, .int .i64 t.st, .int .i64 t.snap, .int .i64 t.cs, .slice pa2 t.rs.length pc2, .slice qa2 t.ws.length qc2, .bool t.out, .string t.nm]) := Bx.new w4 [.int .i64 t.id, .int .i64 t.st, .int .i64 t.snap, .int .i64 t.cs, .slice pa2 t.rs.length pc2, .slice qa2 t.ws.length qc2, .bool t.out, .string t.nm] 27
  have x0 := BX.out.c0
  have x1 := BX.out.c1
  have x2 := BX.out.c2
  have x3 := BX.out.c3
  have x4 := BX.out.c4
  have x5 := BX.out.c5
  have x6 := BX.out.c6
  have x7 := BX.out.c7
  go_wp2_with fail
  refine (CI.out pa2 pc2 qa2 qc2 _ T2.out).mono ?_
  rintro e w5 ⟨rfl, hb5⟩
  replace BA : Hid (Bx w5 w.heap.size [.int .i64 t.id, .int .i64 t.st, .int .i64 t.snap, .int .i64 t.cs, .slice ra t.rs.length rc, .slice wa t.ws.length wc, .bool t.out, .string t.nm]) := BA.out.below hb5
  replace HB : Hid (Below w.heap.size w w5) := HB.out.trans (hb5.mono HB.out.size)
  replace TR : Hid (TRow w5 t ra wa) := TR.out.below hb5
  replace T2 : Hid (TRow w5 t pa2 qa2) := T2.out.below hb5
  replace BX : Hid (Bx w5 w4.heap.size [.int .i64 t.id, .int .i64 t.st, .int .i64 t.snap, .int .i64 t.cs, .slice pa2 t.rs.length pc2, .slice qa2 t.ws.length qc2, .bool t.out, .string t.nm]) := BX.out.below hb5
  clear hb5 x0 x1 x2 x3 x4 x5 x6 x7
  go_wp2
  refine wp_region_held_drew (S := fun w' => w'.cell? ⟨w4.heap.size, 0, none⟩ = some (.int .i64 t.id) ∧ w'.cell? ⟨w4.heap.size, 1, none⟩ = some (.int .i64 t.st) ∧ w'.cell? ⟨w4.heap.size, 2, none⟩ = some (.int .i64 t.snap) ∧ w'.cell? ⟨w4.heap.size, 3, none⟩ = some (.int .i64 t.cs) ∧ w'.cell? ⟨w4.heap.size, 4, none⟩ = some (.slice pa2 t.rs.length pc2) ∧ w'.cell? ⟨w4.heap.size, 5, none⟩ = some (.slice qa2 t.ws.length qc2) ∧ w'.cell? ⟨w4.heap.size, 6, none⟩ = some (.bool t.out) ∧ w'.cell? ⟨w4.heap.size, 7, none⟩ = some (.string t.nm) ∧ w'.cell? ⟨w.heap.size, 0, none⟩ = some (.int .i64 t.id) ∧ w'.cell? ⟨w.heap.size, 1, none⟩ = some (.int .i64 t.st) ∧ w'.cell? ⟨w.heap.size, 2, none⟩ = some (.int .i64 t.snap) ∧ w'.cell? ⟨w.heap.size, 3, none⟩ = some (.int .i64 t.cs) ∧ w'.cell? ⟨w.heap.size, 4, none⟩ = some (.slice ra t.rs.length rc) ∧ w'.cell? ⟨w.heap.size, 5, none⟩ = some (.slice wa t.ws.length wc) ∧ w'.cell? ⟨w.heap.size, 6, none⟩ = some (.bool t.out) ∧ w'.cell? ⟨w.heap.size, 7, none⟩ = some (.string t.nm)) (by kernel_rfl) ⟨BX.out.c0, BX.out.c1, BX.out.c2, BX.out.c3, BX.out.c4, BX.out.c5, BX.out.c6, BX.out.c7, BA.out.c0, BA.out.c1, BA.out.c2, BA.out.c3, BA.out.c4, BA.out.c5, BA.out.c6, BA.out.c7⟩ (fun hHeld => ?_)
  (refine wpAnyH_take (i := 0) (v := ?_) rfl (by kernel_rfl) (by kernel_rfl) (by kernel_rfl) (fun _ _ _ h => h) (Or.inl ⟨by rfl, ?_⟩) (by assumption) ?_; rotate_left; (focus (intro w hSw; (try dsimp only at hSw); go_simp; (try with_reducible rfl); done)); simp only [Act.put, List.getElem_toArray, List.getElem_cons_zero, List.setIfInBounds_toArray, List.set_cons_zero, List.set_cons_succ])
  (refine wpAnyH_take (i := 1) (v := ?_) rfl (by kernel_rfl) (by kernel_rfl) (by kernel_rfl) (fun _ _ _ h => h) (Or.inl ⟨by rfl, ?_⟩) (by assumption) ?_; rotate_left; (focus (intro w hSw; (try dsimp only at hSw); go_simp; (try with_reducible rfl); done)); simp only [Act.put, List.getElem_toArray, List.getElem_cons_zero, List.getElem_cons_succ, List.setIfInBounds_toArray, List.set_cons_zero, List.set_cons_succ])
  refine wpAnyH_ready (rs := [2]) (by kernel_rfl) (by simp) ?_
  refine AllReadyH.cons rfl (fun K hK => ?_) AllReadyH.nil
  go_simp
  go_wp2_with fail
  refine (toT t ra wa rc wc hrl hwl _ TR.out.drewT).mono ?_
  rintro e w6 ⟨pa3, pc3, qa3, qc3, rfl, hl, hb6⟩
  have hbu6 := undrew hb6
  replace BA : Hid (Bx w6 w.heap.size [.int .i64 t.id, .int .i64 t.st, .int .i64 t.snap, .int .i64 t.cs, .slice ra t.rs.length rc, .slice wa t.ws.length wc, .bool t.out, .string t.nm]) := BA.out.below hbu6
  replace HB : Hid (Below w.heap.size w w6) := HB.out.trans (hbu6.mono HB.out.size)
  replace TR : Hid (TRow w6 t ra wa) := TR.out.below hbu6
  replace T2 : Hid (TRow w6 t pa2 qa2) := T2.out.below hbu6
  replace BX : Hid (Bx w6 w4.heap.size [.int .i64 t.id, .int .i64 t.st, .int .i64 t.snap, .int .i64 t.cs, .slice pa2 t.rs.length pc2, .slice qa2 t.ws.length qc2, .bool t.out, .string t.nm]) := BX.out.below hbu6
  have T3 := hide0 hl.row
  clear hl
  go_wp2_with fail
  refine hK.out _ _ ⟨BX.out.c0, BX.out.c1, BX.out.c2, BX.out.c3, BX.out.c4, BX.out.c5, BX.out.c6, BX.out.c7, BA.out.c0, BA.out.c1, BA.out.c2, BA.out.c3, BA.out.c4, BA.out.c5, BA.out.c6, BA.out.c7⟩ (fun hHeld6 => ?_)
  clear hK K hb6 hbu6
  refine wpAnyH_ready (rs := [3]) (by kernel_rfl) (by simp) ?_
  refine AllReadyH.cons rfl (fun K hK => ?_) AllReadyH.nil
  go_simp
  go_wp2_with fail
  refine (eqT t pa2 qa2 pa3 qa3 pc2 qc2 pc3 qc3 hrl hwl _ T2.out T3.out).mono ?_
  rintro e w7 ⟨rfl, hb7⟩
  replace BA : Hid (Bx w7 w.heap.size [.int .i64 t.id, .int .i64 t.st, .int .i64 t.snap, .int .i64 t.cs, .slice ra t.rs.length rc, .slice wa t.ws.length wc, .bool t.out, .string t.nm]) := BA.out.below hb7
  replace HB : Hid (Below w.heap.size w w7) := HB.out.trans (hb7.mono HB.out.size)
  replace TR : Hid (TRow w7 t ra wa) := TR.out.below hb7
  replace T2 : Hid (TRow w7 t pa2 qa2) := T2.out.below hb7
  replace BX : Hid (Bx w7 w4.heap.size [.int .i64 t.id, .int .i64 t.st, .int .i64 t.snap, .int .i64 t.cs, .slice pa2 t.rs.length pc2, .slice qa2 t.ws.length qc2, .bool t.out, .string t.nm]) := BX.out.below hb7
  replace T3 : Hid (TRow w7 t pa3 qa3) := T3.out.below hb7
  go_wp2_with fail
  refine hK.out _ _ ⟨BX.out.c0, BX.out.c1, BX.out.c2, BX.out.c3, BX.out.c4, BX.out.c5, BX.out.c6, BX.out.c7, BA.out.c0, BA.out.c1, BA.out.c2, BA.out.c3, BA.out.c4, BA.out.c5, BA.out.c6, BA.out.c7⟩ (fun hHeld7 => ?_)
  clear hK K hb7
  (refine wpAnyH_take (i := 4) (v := ?_) rfl (by kernel_rfl) (by kernel_rfl) (by kernel_rfl) (fun _ _ _ h => h) (Or.inl ⟨by rfl, ?_⟩) (by assumption) ?_; rotate_left; (focus (intro w hSw; (try dsimp only at hSw); go_simp; (try with_reducible rfl); done)); simp only [Act.put, List.getElem_toArray, List.getElem_cons_zero, List.getElem_cons_succ, List.setIfInBounds_toArray, List.set_cons_zero, List.set_cons_succ])
  refine wpAnyH_done (by kernel_rfl) ?_ _
  clear T3
  go_wp2
  go_ret
  exact ⟨rfl, HB.out⟩
end Go.Proofs.Ytblfljmcbpodbaa

/- The law FnExactBefore, walked. -/
import Derived.Test.YtebcfdomjlikoaaBe
import Derived.Test.YtebcfdomjlikoaaE5
import Derived.Deep.RegionHeld3
namespace Go.Proofs.Ytebcfdomjlikoaa
open Go.RowKit
open KM
attribute [local go_sem ↓] Go.wp_at_zero Go.wp_at_succ

set_option maxRecDepth 100000 in
set_option maxHeartbeats 2000000 in
theorem law3 (a b : Tx) (ra wa : Option Addr) (rc wc : Nat) (ra2 wa2 : Option Addr) (rc2 wc2 : Nat) (w : World) (hpa : TArg w a ra wa) (hpb : TArg w b ra2 wa2) : Calls Try.prog 3 #[.agg #[.int .i64 a.id, .int .i64 a.st, .int .i64 a.snap, .int .i64 a.cs, .slice ra a.rs.length rc, .slice wa a.ws.length wc, .bool a.out, .string a.nm], .agg #[.int .i64 b.id, .int .i64 b.st, .int .i64 b.snap, .int .i64 b.cs, .slice ra2 b.rs.length rc2, .slice wa2 b.ws.length wc2, .bool b.out, .string b.nm]] w fun e w' => e = .returned (.bool true) ∧ Below w.heap.size w w' := by
  have HPa : Hid (TArg w a ra wa) := hpa
  have HPb : Hid (TArg w b ra2 wa2) := hpb
  clear hpa hpb
  have BA : Hid (Bx ((w.alloc (.cells #[.int .i64 a.id, .int .i64 a.st, .int .i64 a.snap, .int .i64 a.cs, .slice ra a.rs.length rc, .slice wa a.ws.length wc, .bool a.out, .string a.nm] 25)).alloc (.cells #[.int .i64 b.id, .int .i64 b.st, .int .i64 b.snap, .int .i64 b.cs, .slice ra2 b.rs.length rc2, .slice wa2 b.ws.length wc2, .bool b.out, .string b.nm] 25)) w.heap.size [.int .i64 a.id, .int .i64 a.st, .int .i64 a.snap, .int .i64 a.cs, .slice ra a.rs.length rc, .slice wa a.ws.length wc, .bool a.out, .string a.nm]) := (Bx.new w [.int .i64 a.id, .int .i64 a.st, .int .i64 a.snap, .int .i64 a.cs, .slice ra a.rs.length rc, .slice wa a.ws.length wc, .bool a.out, .string a.nm] 25).alloc _
  have BB : Hid (Bx ((w.alloc (.cells #[.int .i64 a.id, .int .i64 a.st, .int .i64 a.snap, .int .i64 a.cs, .slice ra a.rs.length rc, .slice wa a.ws.length wc, .bool a.out, .string a.nm] 25)).alloc (.cells #[.int .i64 b.id, .int .i64 b.st, .int .i64 b.snap, .int .i64 b.cs, .slice ra2 b.rs.length rc2, .slice wa2 b.ws.length wc2, .bool b.out, .string b.nm] 25)) (w.heap.size + 1) [.int .i64 b.id, .int .i64 b.st, .int .i64 b.snap, .int .i64 b.cs, .slice ra2 b.rs.length rc2, .slice wa2 b.ws.length wc2, .bool b.out, .string b.nm]) := by have h := Bx.new (w.alloc (.cells #[.int .i64 a.id, .int .i64 a.st, .int .i64 a.snap, .int .i64 a.cs, .slice ra a.rs.length rc, .slice wa a.ws.length wc, .bool a.out, .string a.nm] 25)) [.int .i64 b.id, .int .i64 b.st, .int .i64 b.snap, .int .i64 b.cs, .slice ra2 b.rs.length rc2, .slice wa2 b.ws.length wc2, .bool b.out, .string b.nm] 25; simpa [Hid] using h
  have HB : Hid (Below w.heap.size w ((w.alloc (.cells #[.int .i64 a.id, .int .i64 a.st, .int .i64 a.snap, .int .i64 a.cs, .slice ra a.rs.length rc, .slice wa a.ws.length wc, .bool a.out, .string a.nm] 25)).alloc (.cells #[.int .i64 b.id, .int .i64 b.st, .int .i64 b.snap, .int .i64 b.cs, .slice ra2 b.rs.length rc2, .slice wa2 b.ws.length wc2, .bool b.out, .string b.nm] 25))) := ((belowRefl w).alloc (Nat.le_refl _) _).alloc (by simp) _
  have TRa : Hid (TRow ((w.alloc (.cells #[.int .i64 a.id, .int .i64 a.st, .int .i64 a.snap, .int .i64 a.cs, .slice ra a.rs.length rc, .slice wa a.ws.length wc, .bool a.out, .string a.nm] 25)).alloc (.cells #[.int .i64 b.id, .int .i64 b.st, .int .i64 b.snap, .int .i64 b.cs, .slice ra2 b.rs.length rc2, .slice wa2 b.ws.length wc2, .bool b.out, .string b.nm] 25)) a ra wa) := HPa.out.row.below HB.out
  have TRb : Hid (TRow ((w.alloc (.cells #[.int .i64 a.id, .int .i64 a.st, .int .i64 a.snap, .int .i64 a.cs, .slice ra a.rs.length rc, .slice wa a.ws.length wc, .bool a.out, .string a.nm] 25)).alloc (.cells #[.int .i64 b.id, .int .i64 b.st, .int .i64 b.snap, .int .i64 b.cs, .slice ra2 b.rs.length rc2, .slice wa2 b.ws.length wc2, .bool b.out, .string b.nm] 25)) b ra2 wa2) := HPb.out.row.below HB.out
  go_enter Try.func3, Try.ntmps3
  go_wp2_with fail
  refine (szT a ra wa rc wc 1048576 (by omega) (by omega) _ ⟨HPa.out.rl, HPa.out.rf, HPa.out.wl, HPa.out.wf, HPa.out.nm, TRa.out⟩).mono ?_
  rintro e w1 ⟨hb1, lfa, rfl, hua, hra⟩
  replace BA : Hid (Bx w1 w.heap.size [.int .i64 a.id, .int .i64 a.st, .int .i64 a.snap, .int .i64 a.cs, .slice ra a.rs.length rc, .slice wa a.ws.length wc, .bool a.out, .string a.nm]) := BA.out.below hb1
  replace BB : Hid (Bx w1 (w.heap.size + 1) [.int .i64 b.id, .int .i64 b.st, .int .i64 b.snap, .int .i64 b.cs, .slice ra2 b.rs.length rc2, .slice wa2 b.ws.length wc2, .bool b.out, .string b.nm]) := BB.out.below hb1
  replace HB : Hid (Below w.heap.size w w1) := HB.out.trans (hb1.mono HB.out.size)
  replace TRa : Hid (TRow w1 a ra wa) := TRa.out.below hb1
  replace TRb : Hid (TRow w1 b ra2 wa2) := TRb.out.below hb1
  clear hb1
  by_cases hneg : lfa < 0
  · clear hra
    go_wp2
    go_ret
    exact ⟨rfl, HB.out⟩
  have hposa : ¬ lfa < 0 := hneg
  have HFa : Hid (TFit a) := hra (by omega)
  clear hra hneg
  have hrla : a.rs.length ≤ 100000000 := Nat.le_trans HFa.out.1 (by omega)
  have hwla : a.ws.length ≤ 100000000 := Nat.le_trans HFa.out.2.2.1 (by omega)
  have y0 := BB.out.c0
  have y1 := BB.out.c1
  have y2 := BB.out.c2
  have y3 := BB.out.c3
  have y4 := BB.out.c4
  have y5 := BB.out.c5
  have y6 := BB.out.c6
  have y7 := BB.out.c7
  go_wp2_with fail
  refine (szT b ra2 wa2 rc2 wc2 lfa (by omega) (by omega) _ ⟨HPb.out.rl, HPb.out.rf, HPb.out.wl, HPb.out.wf, HPb.out.nm, TRb.out⟩).mono ?_
  rintro e w2 ⟨hb2, lfb, rfl, hub, hrb⟩
  replace BA : Hid (Bx w2 w.heap.size [.int .i64 a.id, .int .i64 a.st, .int .i64 a.snap, .int .i64 a.cs, .slice ra a.rs.length rc, .slice wa a.ws.length wc, .bool a.out, .string a.nm]) := BA.out.below hb2
  replace BB : Hid (Bx w2 (w.heap.size + 1) [.int .i64 b.id, .int .i64 b.st, .int .i64 b.snap, .int .i64 b.cs, .slice ra2 b.rs.length rc2, .slice wa2 b.ws.length wc2, .bool b.out, .string b.nm]) := BB.out.below hb2
  replace HB : Hid (Below w.heap.size w w2) := HB.out.trans (hb2.mono HB.out.size)
  replace TRa : Hid (TRow w2 a ra wa) := TRa.out.below hb2
  replace TRb : Hid (TRow w2 b ra2 wa2) := TRb.out.below hb2
  clear hb2 y0 y1 y2 y3 y4 y5 y6 y7
  by_cases hneg : lfb < 0
  · clear hrb
    go_wp2
    go_ret
    exact ⟨rfl, HB.out⟩
  have hposb : ¬ lfb < 0 := hneg
  have HFb : Hid (TFit b) := hrb (by omega)
  clear hrb hneg
  have hrlb : b.rs.length ≤ 100000000 := Nat.le_trans HFb.out.1 (by omega)
  have hwlb : b.ws.length ≤ 100000000 := Nat.le_trans HFb.out.2.2.1 (by omega)
  go_wp2
  refine wp_region_held_drew (S := fun w' => w'.cell? ⟨w.heap.size, 0, none⟩ = some (.int .i64 a.id) ∧ w'.cell? ⟨w.heap.size, 1, none⟩ = some (.int .i64 a.st) ∧ w'.cell? ⟨w.heap.size, 2, none⟩ = some (.int .i64 a.snap) ∧ w'.cell? ⟨w.heap.size, 3, none⟩ = some (.int .i64 a.cs) ∧ w'.cell? ⟨w.heap.size, 4, none⟩ = some (.slice ra a.rs.length rc) ∧ w'.cell? ⟨w.heap.size, 5, none⟩ = some (.slice wa a.ws.length wc) ∧ w'.cell? ⟨w.heap.size, 6, none⟩ = some (.bool a.out) ∧ w'.cell? ⟨w.heap.size, 7, none⟩ = some (.string a.nm) ∧ w'.cell? ⟨(w.heap.size + 1), 0, none⟩ = some (.int .i64 b.id) ∧ w'.cell? ⟨(w.heap.size + 1), 1, none⟩ = some (.int .i64 b.st) ∧ w'.cell? ⟨(w.heap.size + 1), 2, none⟩ = some (.int .i64 b.snap) ∧ w'.cell? ⟨(w.heap.size + 1), 3, none⟩ = some (.int .i64 b.cs) ∧ w'.cell? ⟨(w.heap.size + 1), 4, none⟩ = some (.slice ra2 b.rs.length rc2) ∧ w'.cell? ⟨(w.heap.size + 1), 5, none⟩ = some (.slice wa2 b.ws.length wc2) ∧ w'.cell? ⟨(w.heap.size + 1), 6, none⟩ = some (.bool b.out) ∧ w'.cell? ⟨(w.heap.size + 1), 7, none⟩ = some (.string b.nm)) (by kernel_rfl) ⟨BA.out.c0, BA.out.c1, BA.out.c2, BA.out.c3, BA.out.c4, BA.out.c5, BA.out.c6, BA.out.c7, BB.out.c0, BB.out.c1, BB.out.c2, BB.out.c3, BB.out.c4, BB.out.c5, BB.out.c6, BB.out.c7⟩ (fun hHeld => ?_)
  (refine wpAnyH_take (i := 0) (v := ?_) rfl (by kernel_rfl) (by kernel_rfl) (by kernel_rfl) (fun _ _ _ h => h) (Or.inl ⟨by rfl, ?_⟩) (by assumption) ?_; rotate_left; (focus (intro w hSw; (try dsimp only at hSw); go_simp; (try with_reducible rfl); done)); simp only [Act.put, List.getElem_toArray, List.getElem_cons_zero, List.setIfInBounds_toArray, List.set_cons_zero, List.set_cons_succ])
  (refine wpAnyH_take (i := 2) (v := ?_) rfl (by kernel_rfl) (by kernel_rfl) (by kernel_rfl) (fun _ _ _ h => h) (Or.inl ⟨by rfl, ?_⟩) (by assumption) ?_; rotate_left; (focus (intro w hSw; (try dsimp only at hSw); go_simp; (try with_reducible rfl); done)); simp only [Act.put, List.getElem_toArray, List.getElem_cons_zero, List.getElem_cons_succ, List.setIfInBounds_toArray, List.set_cons_zero, List.set_cons_succ])
  refine wpAnyH_ready (rs := [1]) (by kernel_rfl) (by simp) ?_
  refine AllReadyH.cons rfl (fun K hK => ?_) AllReadyH.nil
  go_simp
  go_wp2_with fail
  refine (toT a ra wa rc wc hrla hwla _ TRa.out.drewT).mono ?_
  rintro e w3 ⟨pa, pca, qa, qca, rfl, hl, hb3⟩
  have hbu3 := undrew hb3
  replace BA : Hid (Bx w3 w.heap.size [.int .i64 a.id, .int .i64 a.st, .int .i64 a.snap, .int .i64 a.cs, .slice ra a.rs.length rc, .slice wa a.ws.length wc, .bool a.out, .string a.nm]) := BA.out.below hbu3
  replace BB : Hid (Bx w3 (w.heap.size + 1) [.int .i64 b.id, .int .i64 b.st, .int .i64 b.snap, .int .i64 b.cs, .slice ra2 b.rs.length rc2, .slice wa2 b.ws.length wc2, .bool b.out, .string b.nm]) := BB.out.below hbu3
  replace HB : Hid (Below w.heap.size w w3) := HB.out.trans (hbu3.mono HB.out.size)
  replace TRa : Hid (TRow w3 a ra wa) := TRa.out.below hbu3
  replace TRb : Hid (TRow w3 b ra2 wa2) := TRb.out.below hbu3
  have Ta := hide0 hl.row
  clear hl
  go_wp2_with fail
  refine hK.out _ _ ⟨BA.out.c0, BA.out.c1, BA.out.c2, BA.out.c3, BA.out.c4, BA.out.c5, BA.out.c6, BA.out.c7, BB.out.c0, BB.out.c1, BB.out.c2, BB.out.c3, BB.out.c4, BB.out.c5, BB.out.c6, BB.out.c7⟩ (fun hHeld3 => ?_)
  clear hK K hb3 hbu3
  refine wpAnyH_ready (rs := [3]) (by kernel_rfl) (by simp) ?_
  refine AllReadyH.cons rfl (fun K hK => ?_) AllReadyH.nil
  go_simp
  go_wp2_with fail
  refine (toT b ra2 wa2 rc2 wc2 hrlb hwlb _ TRb.out).mono ?_
  rintro e w4 ⟨pb, pcb, qb, qcb, rfl, hl, hb4⟩
  replace BA : Hid (Bx w4 w.heap.size [.int .i64 a.id, .int .i64 a.st, .int .i64 a.snap, .int .i64 a.cs, .slice ra a.rs.length rc, .slice wa a.ws.length wc, .bool a.out, .string a.nm]) := BA.out.below hb4
  replace BB : Hid (Bx w4 (w.heap.size + 1) [.int .i64 b.id, .int .i64 b.st, .int .i64 b.snap, .int .i64 b.cs, .slice ra2 b.rs.length rc2, .slice wa2 b.ws.length wc2, .bool b.out, .string b.nm]) := BB.out.below hb4
  replace HB : Hid (Below w.heap.size w w4) := HB.out.trans (hb4.mono HB.out.size)
  replace TRa : Hid (TRow w4 a ra wa) := TRa.out.below hb4
  replace TRb : Hid (TRow w4 b ra2 wa2) := TRb.out.below hb4
  replace Ta : Hid (TRow w4 a pa qa) := Ta.out.below hb4
  have Tb := hide0 hl.row
  clear hl
  go_wp2_with fail
  refine hK.out _ _ ⟨BA.out.c0, BA.out.c1, BA.out.c2, BA.out.c3, BA.out.c4, BA.out.c5, BA.out.c6, BA.out.c7, BB.out.c0, BB.out.c1, BB.out.c2, BB.out.c3, BB.out.c4, BB.out.c5, BB.out.c6, BB.out.c7⟩ (fun hHeld4 => ?_)
  clear hK K hb4
  refine wpAnyH_ready (rs := [4]) (by kernel_rfl) (by simp) ?_
  refine AllReadyH.cons rfl (fun K hK => ?_) AllReadyH.nil
  go_simp
  go_wp2_with fail
  refine (sbefore a b pa qa pca qca pb qb pcb qcb HFa.out.1 HFa.out.2.2.1 HFb.out.1 HFb.out.2.2.1 _ Ta.out.r Ta.out.w Tb.out.r Tb.out.w).mono ?_
  rintro e w5 ⟨rfl, hb5⟩
  replace BA : Hid (Bx w5 w.heap.size [.int .i64 a.id, .int .i64 a.st, .int .i64 a.snap, .int .i64 a.cs, .slice ra a.rs.length rc, .slice wa a.ws.length wc, .bool a.out, .string a.nm]) := BA.out.below hb5
  replace BB : Hid (Bx w5 (w.heap.size + 1) [.int .i64 b.id, .int .i64 b.st, .int .i64 b.snap, .int .i64 b.cs, .slice ra2 b.rs.length rc2, .slice wa2 b.ws.length wc2, .bool b.out, .string b.nm]) := BB.out.below hb5
  replace HB : Hid (Below w.heap.size w w5) := HB.out.trans (hb5.mono HB.out.size)
  replace TRa : Hid (TRow w5 a ra wa) := TRa.out.below hb5
  replace TRb : Hid (TRow w5 b ra2 wa2) := TRb.out.below hb5
  replace Ta : Hid (TRow w5 a pa qa) := Ta.out.below hb5
  replace Tb : Hid (TRow w5 b pb qb) := Tb.out.below hb5
  go_wp2_with fail
  refine hK.out _ _ ⟨BA.out.c0, BA.out.c1, BA.out.c2, BA.out.c3, BA.out.c4, BA.out.c5, BA.out.c6, BA.out.c7, BB.out.c0, BB.out.c1, BB.out.c2, BB.out.c3, BB.out.c4, BB.out.c5, BB.out.c6, BB.out.c7⟩ (fun hHeld5 => ?_)
  clear hK K hb5
  (refine wpAnyH_take (i := 5) (v := ?_) rfl (by kernel_rfl) (by kernel_rfl) (by kernel_rfl) (fun _ _ _ h => h) (Or.inl ⟨by rfl, ?_⟩) (by assumption) ?_; rotate_left; (focus (intro w hSw; (try dsimp only at hSw); go_simp; (try with_reducible rfl); done)); simp only [Act.put, List.getElem_toArray, List.getElem_cons_zero, List.getElem_cons_succ, List.setIfInBounds_toArray, List.set_cons_zero, List.set_cons_succ])
  refine wpAnyH_done (by kernel_rfl) ?_ _
  clear Ta Tb
  have x0 := BA.out.c0
  have x1 := BA.out.c1
  have x2 := BA.out.c2
  have x3 := BA.out.c3
  have x4 := BA.out.c4
  have x5 := BA.out.c5
  have x6 := BA.out.c6
  have x7 := BA.out.c7
  go_wp2_with fail
  refine (toT a ra wa rc wc hrla hwla _ TRa.out).mono ?_
  rintro e w6 ⟨va, vca, ya, yca, rfl, hl, hb6⟩
  replace BA : Hid (Bx w6 w.heap.size [.int .i64 a.id, .int .i64 a.st, .int .i64 a.snap, .int .i64 a.cs, .slice ra a.rs.length rc, .slice wa a.ws.length wc, .bool a.out, .string a.nm]) := BA.out.below hb6
  replace BB : Hid (Bx w6 (w.heap.size + 1) [.int .i64 b.id, .int .i64 b.st, .int .i64 b.snap, .int .i64 b.cs, .slice ra2 b.rs.length rc2, .slice wa2 b.ws.length wc2, .bool b.out, .string b.nm]) := BB.out.below hb6
  replace HB : Hid (Below w.heap.size w w6) := HB.out.trans (hb6.mono HB.out.size)
  replace TRa : Hid (TRow w6 a ra wa) := TRa.out.below hb6
  replace TRb : Hid (TRow w6 b ra2 wa2) := TRb.out.below hb6
  clear hb6 x0 x1 x2 x3 x4 x5 x6 x7
  have Ta : Hid (TRow w6 a va ya) := hl.row
  clear hl
  have hba : Below w6.heap.size w6 (w6.alloc (.cells #[.int .i64 a.id, .int .i64 a.st, .int .i64 a.snap, .int .i64 a.cs, .slice va a.rs.length vca, .slice ya a.ws.length yca, .bool a.out, .string a.nm] 31)) := (belowRefl w6).alloc (Nat.le_refl _) _
  replace BA : Hid (Bx (w6.alloc (.cells #[.int .i64 a.id, .int .i64 a.st, .int .i64 a.snap, .int .i64 a.cs, .slice va a.rs.length vca, .slice ya a.ws.length yca, .bool a.out, .string a.nm] 31)) w.heap.size [.int .i64 a.id, .int .i64 a.st, .int .i64 a.snap, .int .i64 a.cs, .slice ra a.rs.length rc, .slice wa a.ws.length wc, .bool a.out, .string a.nm]) := BA.out.below hba
  replace BB : Hid (Bx (w6.alloc (.cells #[.int .i64 a.id, .int .i64 a.st, .int .i64 a.snap, .int .i64 a.cs, .slice va a.rs.length vca, .slice ya a.ws.length yca, .bool a.out, .string a.nm] 31)) (w.heap.size + 1) [.int .i64 b.id, .int .i64 b.st, .int .i64 b.snap, .int .i64 b.cs, .slice ra2 b.rs.length rc2, .slice wa2 b.ws.length wc2, .bool b.out, .string b.nm]) := BB.out.below hba
  replace HB : Hid (Below w.heap.size w (w6.alloc (.cells #[.int .i64 a.id, .int .i64 a.st, .int .i64 a.snap, .int .i64 a.cs, .slice va a.rs.length vca, .slice ya a.ws.length yca, .bool a.out, .string a.nm] 31))) := HB.out.trans (hba.mono HB.out.size)
  replace TRa : Hid (TRow (w6.alloc (.cells #[.int .i64 a.id, .int .i64 a.st, .int .i64 a.snap, .int .i64 a.cs, .slice va a.rs.length vca, .slice ya a.ws.length yca, .bool a.out, .string a.nm] 31)) a ra wa) := TRa.out.below hba
  replace TRb : Hid (TRow (w6.alloc (.cells #[.int .i64 a.id, .int .i64 a.st, .int .i64 a.snap, .int .i64 a.cs, .slice va a.rs.length vca, .slice ya a.ws.length yca, .bool a.out, .string a.nm] 31)) b ra2 wa2) := TRb.out.below hba
  replace Ta : Hid (TRow (w6.alloc (.cells #[.int .i64 a.id, .int .i64 a.st, .int .i64 a.snap, .int .i64 a.cs, .slice va a.rs.length vca, .slice ya a.ws.length yca, .bool a.out, .string a.nm] 31)) a va ya) := Ta.out.below hba
  clear hba
  have XA : Hid (Bx (w6.alloc (.cells #[.int .i64 a.id, .int .i64 a.st, .int .i64 a.snap, .int .i64 a.cs, .slice va a.rs.length vca, .slice ya a.ws.length yca, .bool a.out, .string a.nm] 31)) w6.heap.size [.int .i64 a.id, .int .i64 a.st, .int .i64 a.snap, .int .i64 a.cs, .slice va a.rs.length vca, .slice ya a.ws.length yca, .bool a.out, .string a.nm]) := Bx.new w6 [.int .i64 a.id, .int .i64 a.st, .int .i64 a.snap, .int .i64 a.cs, .slice va a.rs.length vca, .slice ya a.ws.length yca, .bool a.out, .string a.nm] 31
  have y0 := BB.out.c0
  have y1 := BB.out.c1
  have y2 := BB.out.c2
  have y3 := BB.out.c3
  have y4 := BB.out.c4
  have y5 := BB.out.c5
  have y6 := BB.out.c6
  have y7 := BB.out.c7
  go_wp2_with fail
  refine (toT b ra2 wa2 rc2 wc2 hrlb hwlb _ TRb.out).mono ?_
  rintro e w7 ⟨vb, vcb, yb, ycb, rfl, hl, hb7⟩
  replace BA : Hid (Bx w7 w.heap.size [.int .i64 a.id, .int .i64 a.st, .int .i64 a.snap, .int .i64 a.cs, .slice ra a.rs.length rc, .slice wa a.ws.length wc, .bool a.out, .string a.nm]) := BA.out.below hb7
  replace BB : Hid (Bx w7 (w.heap.size + 1) [.int .i64 b.id, .int .i64 b.st, .int .i64 b.snap, .int .i64 b.cs, .slice ra2 b.rs.length rc2, .slice wa2 b.ws.length wc2, .bool b.out, .string b.nm]) := BB.out.below hb7
  replace HB : Hid (Below w.heap.size w w7) := HB.out.trans (hb7.mono HB.out.size)
  replace TRa : Hid (TRow w7 a ra wa) := TRa.out.below hb7
  replace TRb : Hid (TRow w7 b ra2 wa2) := TRb.out.below hb7
  replace Ta : Hid (TRow w7 a va ya) := Ta.out.below hb7
  replace XA : Hid (Bx w7 w6.heap.size [.int .i64 a.id, .int .i64 a.st, .int .i64 a.snap, .int .i64 a.cs, .slice va a.rs.length vca, .slice ya a.ws.length yca, .bool a.out, .string a.nm]) := XA.out.below hb7
  clear hb7 y0 y1 y2 y3 y4 y5 y6 y7
  have Tb : Hid (TRow w7 b vb yb) := hl.row
  clear hl
  have hba : Below w7.heap.size w7 (w7.alloc (.cells #[.int .i64 b.id, .int .i64 b.st, .int .i64 b.snap, .int .i64 b.cs, .slice vb b.rs.length vcb, .slice yb b.ws.length ycb, .bool b.out, .string b.nm] 31)) := (belowRefl w7).alloc (Nat.le_refl _) _
  replace BA : Hid (Bx (w7.alloc (.cells #[.int .i64 b.id, .int .i64 b.st, .int .i64 b.snap, .int .i64 b.cs, .slice vb b.rs.length vcb, .slice yb b.ws.length ycb, .bool b.out, .string b.nm] 31)) w.heap.size [.int .i64 a.id, .int .i64 a.st, .int .i64 a.snap, .int .i64 a.cs, .slice ra a.rs.length rc, .slice wa a.ws.length wc, .bool a.out, .string a.nm]) := BA.out.below hba
  replace BB : Hid (Bx (w7.alloc (.cells #[.int .i64 b.id, .int .i64 b.st, .int .i64 b.snap, .int .i64 b.cs, .slice vb b.rs.length vcb, .slice yb b.ws.length ycb, .bool b.out, .string b.nm] 31)) (w.heap.size + 1) [.int .i64 b.id, .int .i64 b.st, .int .i64 b.snap, .int .i64 b.cs, .slice ra2 b.rs.length rc2, .slice wa2 b.ws.length wc2, .bool b.out, .string b.nm]) := BB.out.below hba
  replace HB : Hid (Below w.heap.size w (w7.alloc (.cells #[.int .i64 b.id, .int .i64 b.st, .int .i64 b.snap, .int .i64 b.cs, .slice vb b.rs.length vcb, .slice yb b.ws.length ycb, .bool b.out, .string b.nm] 31))) := HB.out.trans (hba.mono HB.out.size)
  replace TRa : Hid (TRow (w7.alloc (.cells #[.int .i64 b.id, .int .i64 b.st, .int .i64 b.snap, .int .i64 b.cs, .slice vb b.rs.length vcb, .slice yb b.ws.length ycb, .bool b.out, .string b.nm] 31)) a ra wa) := TRa.out.below hba
  replace TRb : Hid (TRow (w7.alloc (.cells #[.int .i64 b.id, .int .i64 b.st, .int .i64 b.snap, .int .i64 b.cs, .slice vb b.rs.length vcb, .slice yb b.ws.length ycb, .bool b.out, .string b.nm] 31)) b ra2 wa2) := TRb.out.below hba
  replace Ta : Hid (TRow (w7.alloc (.cells #[.int .i64 b.id, .int .i64 b.st, .int .i64 b.snap, .int .i64 b.cs, .slice vb b.rs.length vcb, .slice yb b.ws.length ycb, .bool b.out, .string b.nm] 31)) a va ya) := Ta.out.below hba
  replace XA : Hid (Bx (w7.alloc (.cells #[.int .i64 b.id, .int .i64 b.st, .int .i64 b.snap, .int .i64 b.cs, .slice vb b.rs.length vcb, .slice yb b.ws.length ycb, .bool b.out, .string b.nm] 31)) w6.heap.size [.int .i64 a.id, .int .i64 a.st, .int .i64 a.snap, .int .i64 a.cs, .slice va a.rs.length vca, .slice ya a.ws.length yca, .bool a.out, .string a.nm]) := XA.out.below hba
  replace Tb : Hid (TRow (w7.alloc (.cells #[.int .i64 b.id, .int .i64 b.st, .int .i64 b.snap, .int .i64 b.cs, .slice vb b.rs.length vcb, .slice yb b.ws.length ycb, .bool b.out, .string b.nm] 31)) b vb yb) := Tb.out.below hba
  clear hba
  have XB : Hid (Bx (w7.alloc (.cells #[.int .i64 b.id, .int .i64 b.st, .int .i64 b.snap, .int .i64 b.cs, .slice vb b.rs.length vcb, .slice yb b.ws.length ycb, .bool b.out, .string b.nm] 31)) w7.heap.size [.int .i64 b.id, .int .i64 b.st, .int .i64 b.snap, .int .i64 b.cs, .slice vb b.rs.length vcb, .slice yb b.ws.length ycb, .bool b.out, .string b.nm]) := Bx.new w7 [.int .i64 b.id, .int .i64 b.st, .int .i64 b.snap, .int .i64 b.cs, .slice vb b.rs.length vcb, .slice yb b.ws.length ycb, .bool b.out, .string b.nm] 31
  have x0 := XA.out.c0
  have x1 := XA.out.c1
  have x2 := XA.out.c2
  have x3 := XA.out.c3
  have x4 := XA.out.c4
  have x5 := XA.out.c5
  have x6 := XA.out.c6
  have x7 := XA.out.c7
  go_wp2_with fail
  refine (ibefore a b va ya vca yca vb yb vcb ycb HFa.out.1 HFa.out.2.2.1 HFb.out.1 HFb.out.2.2.1 HFa.out.2.2.2.1 HFb.out.2.2.2.1 _ Ta.out.r Ta.out.w Tb.out.r Tb.out.w).mono ?_
  rintro e w8 ⟨rfl, hb8⟩
  replace BA : Hid (Bx w8 w.heap.size [.int .i64 a.id, .int .i64 a.st, .int .i64 a.snap, .int .i64 a.cs, .slice ra a.rs.length rc, .slice wa a.ws.length wc, .bool a.out, .string a.nm]) := BA.out.below hb8
  replace BB : Hid (Bx w8 (w.heap.size + 1) [.int .i64 b.id, .int .i64 b.st, .int .i64 b.snap, .int .i64 b.cs, .slice ra2 b.rs.length rc2, .slice wa2 b.ws.length wc2, .bool b.out, .string b.nm]) := BB.out.below hb8
  replace HB : Hid (Below w.heap.size w w8) := HB.out.trans (hb8.mono HB.out.size)
  replace TRa : Hid (TRow w8 a ra wa) := TRa.out.below hb8
  replace TRb : Hid (TRow w8 b ra2 wa2) := TRb.out.below hb8
  replace Ta : Hid (TRow w8 a va ya) := Ta.out.below hb8
  replace XA : Hid (Bx w8 w6.heap.size [.int .i64 a.id, .int .i64 a.st, .int .i64 a.snap, .int .i64 a.cs, .slice va a.rs.length vca, .slice ya a.ws.length yca, .bool a.out, .string a.nm]) := XA.out.below hb8
  replace Tb : Hid (TRow w8 b vb yb) := Tb.out.below hb8
  replace XB : Hid (Bx w8 w7.heap.size [.int .i64 b.id, .int .i64 b.st, .int .i64 b.snap, .int .i64 b.cs, .slice vb b.rs.length vcb, .slice yb b.ws.length ycb, .bool b.out, .string b.nm]) := XB.out.below hb8
  clear hb8 x0 x1 x2 x3 x4 x5 x6 x7
  have hbn := bne_self' (befB a b)
  go_wp2
  refine wp_region_held_drew (S := fun w' => w'.cell? ⟨w6.heap.size, 0, none⟩ = some (.int .i64 a.id) ∧ w'.cell? ⟨w6.heap.size, 1, none⟩ = some (.int .i64 a.st) ∧ w'.cell? ⟨w6.heap.size, 2, none⟩ = some (.int .i64 a.snap) ∧ w'.cell? ⟨w6.heap.size, 3, none⟩ = some (.int .i64 a.cs) ∧ w'.cell? ⟨w6.heap.size, 4, none⟩ = some (.slice va a.rs.length vca) ∧ w'.cell? ⟨w6.heap.size, 5, none⟩ = some (.slice ya a.ws.length yca) ∧ w'.cell? ⟨w6.heap.size, 6, none⟩ = some (.bool a.out) ∧ w'.cell? ⟨w6.heap.size, 7, none⟩ = some (.string a.nm) ∧ w'.cell? ⟨w.heap.size, 0, none⟩ = some (.int .i64 a.id) ∧ w'.cell? ⟨w.heap.size, 1, none⟩ = some (.int .i64 a.st) ∧ w'.cell? ⟨w.heap.size, 2, none⟩ = some (.int .i64 a.snap) ∧ w'.cell? ⟨w.heap.size, 3, none⟩ = some (.int .i64 a.cs) ∧ w'.cell? ⟨w.heap.size, 4, none⟩ = some (.slice ra a.rs.length rc) ∧ w'.cell? ⟨w.heap.size, 5, none⟩ = some (.slice wa a.ws.length wc) ∧ w'.cell? ⟨w.heap.size, 6, none⟩ = some (.bool a.out) ∧ w'.cell? ⟨w.heap.size, 7, none⟩ = some (.string a.nm)) (by kernel_rfl) ⟨XA.out.c0, XA.out.c1, XA.out.c2, XA.out.c3, XA.out.c4, XA.out.c5, XA.out.c6, XA.out.c7, BA.out.c0, BA.out.c1, BA.out.c2, BA.out.c3, BA.out.c4, BA.out.c5, BA.out.c6, BA.out.c7⟩ (fun hHeld => ?_)
  (refine wpAnyH_take (i := 0) (v := ?_) rfl (by kernel_rfl) (by kernel_rfl) (by kernel_rfl) (fun _ _ _ h => h) (Or.inl ⟨by rfl, ?_⟩) (by assumption) ?_; rotate_left; (focus (intro w hSw; (try dsimp only at hSw); go_simp; (try with_reducible rfl); done)); simp only [Act.put, List.getElem_toArray, List.getElem_cons_zero, List.setIfInBounds_toArray, List.set_cons_zero, List.set_cons_succ])
  (refine wpAnyH_take (i := 1) (v := ?_) rfl (by kernel_rfl) (by kernel_rfl) (by kernel_rfl) (fun _ _ _ h => h) (Or.inl ⟨by rfl, ?_⟩) (by assumption) ?_; rotate_left; (focus (intro w hSw; (try dsimp only at hSw); go_simp; (try with_reducible rfl); done)); simp only [Act.put, List.getElem_toArray, List.getElem_cons_zero, List.getElem_cons_succ, List.setIfInBounds_toArray, List.set_cons_zero, List.set_cons_succ])
  refine wpAnyH_ready (rs := [2]) (by kernel_rfl) (by simp) ?_
  refine AllReadyH.cons rfl (fun K hK => ?_) AllReadyH.nil
  go_simp
  go_wp2_with fail
  refine (toT a ra wa rc wc hrla hwla _ TRa.out.drewT).mono ?_
  rintro e w9 ⟨za, zca, ua, uca, rfl, hl, hb9⟩
  have hbu9 := undrew hb9
  replace BA : Hid (Bx w9 w.heap.size [.int .i64 a.id, .int .i64 a.st, .int .i64 a.snap, .int .i64 a.cs, .slice ra a.rs.length rc, .slice wa a.ws.length wc, .bool a.out, .string a.nm]) := BA.out.below hbu9
  replace BB : Hid (Bx w9 (w.heap.size + 1) [.int .i64 b.id, .int .i64 b.st, .int .i64 b.snap, .int .i64 b.cs, .slice ra2 b.rs.length rc2, .slice wa2 b.ws.length wc2, .bool b.out, .string b.nm]) := BB.out.below hbu9
  replace HB : Hid (Below w.heap.size w w9) := HB.out.trans (hbu9.mono HB.out.size)
  replace TRa : Hid (TRow w9 a ra wa) := TRa.out.below hbu9
  replace TRb : Hid (TRow w9 b ra2 wa2) := TRb.out.below hbu9
  replace Ta : Hid (TRow w9 a va ya) := Ta.out.below hbu9
  replace XA : Hid (Bx w9 w6.heap.size [.int .i64 a.id, .int .i64 a.st, .int .i64 a.snap, .int .i64 a.cs, .slice va a.rs.length vca, .slice ya a.ws.length yca, .bool a.out, .string a.nm]) := XA.out.below hbu9
  replace Tb : Hid (TRow w9 b vb yb) := Tb.out.below hbu9
  replace XB : Hid (Bx w9 w7.heap.size [.int .i64 b.id, .int .i64 b.st, .int .i64 b.snap, .int .i64 b.cs, .slice vb b.rs.length vcb, .slice yb b.ws.length ycb, .bool b.out, .string b.nm]) := XB.out.below hbu9
  have Ua := hide0 hl.row
  clear hl
  go_wp2_with fail
  refine hK.out _ _ ⟨XA.out.c0, XA.out.c1, XA.out.c2, XA.out.c3, XA.out.c4, XA.out.c5, XA.out.c6, XA.out.c7, BA.out.c0, BA.out.c1, BA.out.c2, BA.out.c3, BA.out.c4, BA.out.c5, BA.out.c6, BA.out.c7⟩ (fun hHeld9 => ?_)
  clear hK K hb9 hbu9
  refine wpAnyH_ready (rs := [3]) (by kernel_rfl) (by simp) ?_
  refine AllReadyH.cons rfl (fun K hK => ?_) AllReadyH.nil
  go_simp
  go_wp2_with fail
  refine (eqT a va ya za ua vca yca zca uca hrla hwla _ Ta.out Ua.out).mono ?_
  rintro e w10 ⟨rfl, hb10⟩
  replace BA : Hid (Bx w10 w.heap.size [.int .i64 a.id, .int .i64 a.st, .int .i64 a.snap, .int .i64 a.cs, .slice ra a.rs.length rc, .slice wa a.ws.length wc, .bool a.out, .string a.nm]) := BA.out.below hb10
  replace BB : Hid (Bx w10 (w.heap.size + 1) [.int .i64 b.id, .int .i64 b.st, .int .i64 b.snap, .int .i64 b.cs, .slice ra2 b.rs.length rc2, .slice wa2 b.ws.length wc2, .bool b.out, .string b.nm]) := BB.out.below hb10
  replace HB : Hid (Below w.heap.size w w10) := HB.out.trans (hb10.mono HB.out.size)
  replace TRa : Hid (TRow w10 a ra wa) := TRa.out.below hb10
  replace TRb : Hid (TRow w10 b ra2 wa2) := TRb.out.below hb10
  replace Ta : Hid (TRow w10 a va ya) := Ta.out.below hb10
  replace XA : Hid (Bx w10 w6.heap.size [.int .i64 a.id, .int .i64 a.st, .int .i64 a.snap, .int .i64 a.cs, .slice va a.rs.length vca, .slice ya a.ws.length yca, .bool a.out, .string a.nm]) := XA.out.below hb10
  replace Tb : Hid (TRow w10 b vb yb) := Tb.out.below hb10
  replace XB : Hid (Bx w10 w7.heap.size [.int .i64 b.id, .int .i64 b.st, .int .i64 b.snap, .int .i64 b.cs, .slice vb b.rs.length vcb, .slice yb b.ws.length ycb, .bool b.out, .string b.nm]) := XB.out.below hb10
  replace Ua : Hid (TRow w10 a za ua) := Ua.out.below hb10
  go_wp2_with fail
  refine hK.out _ _ ⟨XA.out.c0, XA.out.c1, XA.out.c2, XA.out.c3, XA.out.c4, XA.out.c5, XA.out.c6, XA.out.c7, BA.out.c0, BA.out.c1, BA.out.c2, BA.out.c3, BA.out.c4, BA.out.c5, BA.out.c6, BA.out.c7⟩ (fun hHeld10 => ?_)
  clear hK K hb10
  (refine wpAnyH_take (i := 4) (v := ?_) rfl (by kernel_rfl) (by kernel_rfl) (by kernel_rfl) (fun _ _ _ h => h) (Or.inl ⟨by rfl, ?_⟩) (by assumption) ?_; rotate_left; (focus (intro w hSw; (try dsimp only at hSw); go_simp; (try with_reducible rfl); done)); simp only [Act.put, List.getElem_toArray, List.getElem_cons_zero, List.getElem_cons_succ, List.setIfInBounds_toArray, List.set_cons_zero, List.set_cons_succ])
  refine wpAnyH_done (by kernel_rfl) ?_ _
  go_wp2
  refine wp_region_held_drew (S := fun w' => w'.cell? ⟨w7.heap.size, 0, none⟩ = some (.int .i64 b.id) ∧ w'.cell? ⟨w7.heap.size, 1, none⟩ = some (.int .i64 b.st) ∧ w'.cell? ⟨w7.heap.size, 2, none⟩ = some (.int .i64 b.snap) ∧ w'.cell? ⟨w7.heap.size, 3, none⟩ = some (.int .i64 b.cs) ∧ w'.cell? ⟨w7.heap.size, 4, none⟩ = some (.slice vb b.rs.length vcb) ∧ w'.cell? ⟨w7.heap.size, 5, none⟩ = some (.slice yb b.ws.length ycb) ∧ w'.cell? ⟨w7.heap.size, 6, none⟩ = some (.bool b.out) ∧ w'.cell? ⟨w7.heap.size, 7, none⟩ = some (.string b.nm) ∧ w'.cell? ⟨(w.heap.size + 1), 0, none⟩ = some (.int .i64 b.id) ∧ w'.cell? ⟨(w.heap.size + 1), 1, none⟩ = some (.int .i64 b.st) ∧ w'.cell? ⟨(w.heap.size + 1), 2, none⟩ = some (.int .i64 b.snap) ∧ w'.cell? ⟨(w.heap.size + 1), 3, none⟩ = some (.int .i64 b.cs) ∧ w'.cell? ⟨(w.heap.size + 1), 4, none⟩ = some (.slice ra2 b.rs.length rc2) ∧ w'.cell? ⟨(w.heap.size + 1), 5, none⟩ = some (.slice wa2 b.ws.length wc2) ∧ w'.cell? ⟨(w.heap.size + 1), 6, none⟩ = some (.bool b.out) ∧ w'.cell? ⟨(w.heap.size + 1), 7, none⟩ = some (.string b.nm)) (by kernel_rfl) ⟨XB.out.c0, XB.out.c1, XB.out.c2, XB.out.c3, XB.out.c4, XB.out.c5, XB.out.c6, XB.out.c7, BB.out.c0, BB.out.c1, BB.out.c2, BB.out.c3, BB.out.c4, BB.out.c5, BB.out.c6, BB.out.c7⟩ (fun hHeld => ?_)
  (refine wpAnyH_take (i := 0) (v := ?_) rfl (by kernel_rfl) (by kernel_rfl) (by kernel_rfl) (fun _ _ _ h => h) (Or.inl ⟨by rfl, ?_⟩) (by assumption) ?_; rotate_left; (focus (intro w hSw; (try dsimp only at hSw); go_simp; (try with_reducible rfl); done)); simp only [Act.put, List.getElem_toArray, List.getElem_cons_zero, List.setIfInBounds_toArray, List.set_cons_zero, List.set_cons_succ])
  (refine wpAnyH_take (i := 1) (v := ?_) rfl (by kernel_rfl) (by kernel_rfl) (by kernel_rfl) (fun _ _ _ h => h) (Or.inl ⟨by rfl, ?_⟩) (by assumption) ?_; rotate_left; (focus (intro w hSw; (try dsimp only at hSw); go_simp; (try with_reducible rfl); done)); simp only [Act.put, List.getElem_toArray, List.getElem_cons_zero, List.getElem_cons_succ, List.setIfInBounds_toArray, List.set_cons_zero, List.set_cons_succ])
  refine wpAnyH_ready (rs := [2]) (by kernel_rfl) (by simp) ?_
  refine AllReadyH.cons rfl (fun K hK => ?_) AllReadyH.nil
  go_simp
  go_wp2_with fail
  refine (toT b ra2 wa2 rc2 wc2 hrlb hwlb _ TRb.out.drewT).mono ?_
  rintro e w11 ⟨zb, zcb, ub, ucb, rfl, hl, hb11⟩
  have hbu11 := undrew hb11
  replace BA : Hid (Bx w11 w.heap.size [.int .i64 a.id, .int .i64 a.st, .int .i64 a.snap, .int .i64 a.cs, .slice ra a.rs.length rc, .slice wa a.ws.length wc, .bool a.out, .string a.nm]) := BA.out.below hbu11
  replace BB : Hid (Bx w11 (w.heap.size + 1) [.int .i64 b.id, .int .i64 b.st, .int .i64 b.snap, .int .i64 b.cs, .slice ra2 b.rs.length rc2, .slice wa2 b.ws.length wc2, .bool b.out, .string b.nm]) := BB.out.below hbu11
  replace HB : Hid (Below w.heap.size w w11) := HB.out.trans (hbu11.mono HB.out.size)
  replace TRa : Hid (TRow w11 a ra wa) := TRa.out.below hbu11
  replace TRb : Hid (TRow w11 b ra2 wa2) := TRb.out.below hbu11
  replace Ta : Hid (TRow w11 a va ya) := Ta.out.below hbu11
  replace XA : Hid (Bx w11 w6.heap.size [.int .i64 a.id, .int .i64 a.st, .int .i64 a.snap, .int .i64 a.cs, .slice va a.rs.length vca, .slice ya a.ws.length yca, .bool a.out, .string a.nm]) := XA.out.below hbu11
  replace Tb : Hid (TRow w11 b vb yb) := Tb.out.below hbu11
  replace XB : Hid (Bx w11 w7.heap.size [.int .i64 b.id, .int .i64 b.st, .int .i64 b.snap, .int .i64 b.cs, .slice vb b.rs.length vcb, .slice yb b.ws.length ycb, .bool b.out, .string b.nm]) := XB.out.below hbu11
  replace Ua : Hid (TRow w11 a za ua) := Ua.out.below hbu11
  have Ub := hide0 hl.row
  clear hl
  go_wp2_with fail
  refine hK.out _ _ ⟨XB.out.c0, XB.out.c1, XB.out.c2, XB.out.c3, XB.out.c4, XB.out.c5, XB.out.c6, XB.out.c7, BB.out.c0, BB.out.c1, BB.out.c2, BB.out.c3, BB.out.c4, BB.out.c5, BB.out.c6, BB.out.c7⟩ (fun hHeld11 => ?_)
  clear hK K hb11 hbu11
  refine wpAnyH_ready (rs := [3]) (by kernel_rfl) (by simp) ?_
  refine AllReadyH.cons rfl (fun K hK => ?_) AllReadyH.nil
  go_simp
  go_wp2_with fail
  refine (eqT b vb yb zb ub vcb ycb zcb ucb hrlb hwlb _ Tb.out Ub.out).mono ?_
  rintro e w12 ⟨rfl, hb12⟩
  replace BA : Hid (Bx w12 w.heap.size [.int .i64 a.id, .int .i64 a.st, .int .i64 a.snap, .int .i64 a.cs, .slice ra a.rs.length rc, .slice wa a.ws.length wc, .bool a.out, .string a.nm]) := BA.out.below hb12
  replace BB : Hid (Bx w12 (w.heap.size + 1) [.int .i64 b.id, .int .i64 b.st, .int .i64 b.snap, .int .i64 b.cs, .slice ra2 b.rs.length rc2, .slice wa2 b.ws.length wc2, .bool b.out, .string b.nm]) := BB.out.below hb12
  replace HB : Hid (Below w.heap.size w w12) := HB.out.trans (hb12.mono HB.out.size)
  replace TRa : Hid (TRow w12 a ra wa) := TRa.out.below hb12
  replace TRb : Hid (TRow w12 b ra2 wa2) := TRb.out.below hb12
  replace Ta : Hid (TRow w12 a va ya) := Ta.out.below hb12
  replace XA : Hid (Bx w12 w6.heap.size [.int .i64 a.id, .int .i64 a.st, .int .i64 a.snap, .int .i64 a.cs, .slice va a.rs.length vca, .slice ya a.ws.length yca, .bool a.out, .string a.nm]) := XA.out.below hb12
  replace Tb : Hid (TRow w12 b vb yb) := Tb.out.below hb12
  replace XB : Hid (Bx w12 w7.heap.size [.int .i64 b.id, .int .i64 b.st, .int .i64 b.snap, .int .i64 b.cs, .slice vb b.rs.length vcb, .slice yb b.ws.length ycb, .bool b.out, .string b.nm]) := XB.out.below hb12
  replace Ua : Hid (TRow w12 a za ua) := Ua.out.below hb12
  replace Ub : Hid (TRow w12 b zb ub) := Ub.out.below hb12
  go_wp2_with fail
  refine hK.out _ _ ⟨XB.out.c0, XB.out.c1, XB.out.c2, XB.out.c3, XB.out.c4, XB.out.c5, XB.out.c6, XB.out.c7, BB.out.c0, BB.out.c1, BB.out.c2, BB.out.c3, BB.out.c4, BB.out.c5, BB.out.c6, BB.out.c7⟩ (fun hHeld12 => ?_)
  clear hK K hb12
  (refine wpAnyH_take (i := 4) (v := ?_) rfl (by kernel_rfl) (by kernel_rfl) (by kernel_rfl) (fun _ _ _ h => h) (Or.inl ⟨by rfl, ?_⟩) (by assumption) ?_; rotate_left; (focus (intro w hSw; (try dsimp only at hSw); go_simp; (try with_reducible rfl); done)); simp only [Act.put, List.getElem_toArray, List.getElem_cons_zero, List.getElem_cons_succ, List.setIfInBounds_toArray, List.set_cons_zero, List.set_cons_succ])
  refine wpAnyH_done (by kernel_rfl) ?_ _
  go_wp2
  go_ret
  exact ⟨rfl, HB.out⟩

end Go.Proofs.Ytebcfdomjlikoaa

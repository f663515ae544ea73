/- The law FnExactLikeBase, walked. -/
import Derived.Test.YtmaipaeehalabaaGreatPl01
import Derived.Test.YtmaipaeehalabaaGreatPl30
import Derived.Test.YtmaipaeehalabaaGreatPl15
import Derived.Deep.RegionHeld3
import Derived.Deep.Cut
import Derived.Deep.CutRange
namespace Go.Proofs.YtmaipaeehalabaaGreat
open Go.RowKit
open KM
attribute [local go_sem ↓] Go.wp_at_zero Go.wp_at_succ

set_option maxRecDepth 100000 in
set_option maxHeartbeats 8000000 in
theorem law3 (b c : Bb) (w : World) (hp : BArg w b) (hq : BArg w c) : Calls Tryz.prog 3 #[.agg #[.slice b.va b.vs.length b.vc, .slice b.pa b.ps.length b.pc, .slice b.qa b.qs.length b.qc, .int .i64 b.cs, .int .i64 b.nx], .agg #[.slice c.va c.vs.length c.vc, .slice c.pa c.ps.length c.pc, .slice c.qa c.qs.length c.qc, .int .i64 c.cs, .int .i64 c.nx]] w fun ex w' => ex = .returned (.bool true) ∧ Below w.heap.size w w' := by
  have HPb : Hid (BArg w b) := hp
  have HPc : Hid (BArg w c) := hq
  clear hp hq
  have BA : Hid (Bx ((w.alloc (.cells #[.slice b.va b.vs.length b.vc, .slice b.pa b.ps.length b.pc, .slice b.qa b.qs.length b.qc, .int .i64 b.cs, .int .i64 b.nx] 25)).alloc (.cells #[.slice c.va c.vs.length c.vc, .slice c.pa c.ps.length c.pc, .slice c.qa c.qs.length c.qc, .int .i64 c.cs, .int .i64 c.nx] 25)) w.heap.size [.slice b.va b.vs.length b.vc, .slice b.pa b.ps.length b.pc, .slice b.qa b.qs.length b.qc, .int .i64 b.cs, .int .i64 b.nx]) := (Bx.new w [.slice b.va b.vs.length b.vc, .slice b.pa b.ps.length b.pc, .slice b.qa b.qs.length b.qc, .int .i64 b.cs, .int .i64 b.nx] 25).alloc _
  have BC : Hid (Bx ((w.alloc (.cells #[.slice b.va b.vs.length b.vc, .slice b.pa b.ps.length b.pc, .slice b.qa b.qs.length b.qc, .int .i64 b.cs, .int .i64 b.nx] 25)).alloc (.cells #[.slice c.va c.vs.length c.vc, .slice c.pa c.ps.length c.pc, .slice c.qa c.qs.length c.qc, .int .i64 c.cs, .int .i64 c.nx] 25)) (w.heap.size + 1) [.slice c.va c.vs.length c.vc, .slice c.pa c.ps.length c.pc, .slice c.qa c.qs.length c.qc, .int .i64 c.cs, .int .i64 c.nx]) := by
    have h := Bx.new (w.alloc (.cells #[.slice b.va b.vs.length b.vc, .slice b.pa b.ps.length b.pc, .slice b.qa b.qs.length b.qc, .int .i64 b.cs, .int .i64 b.nx] 25)) [.slice c.va c.vs.length c.vc, .slice c.pa c.ps.length c.pc, .slice c.qa c.qs.length c.qc, .int .i64 c.cs, .int .i64 c.nx] 25
    rw [World.size_alloc] at h
    exact h
  have HB : Hid (Below w.heap.size w ((w.alloc (.cells #[.slice b.va b.vs.length b.vc, .slice b.pa b.ps.length b.pc, .slice b.qa b.qs.length b.qc, .int .i64 b.cs, .int .i64 b.nx] 25)).alloc (.cells #[.slice c.va c.vs.length c.vc, .slice c.pa c.ps.length c.pc, .slice c.qa c.qs.length c.qc, .int .i64 c.cs, .int .i64 c.nx] 25))) := ((belowRefl w).alloc (Nat.le_refl _) _).alloc (by simp) _
  have AB : Hid (BArg ((w.alloc (.cells #[.slice b.va b.vs.length b.vc, .slice b.pa b.ps.length b.pc, .slice b.qa b.qs.length b.qc, .int .i64 b.cs, .int .i64 b.nx] 25)).alloc (.cells #[.slice c.va c.vs.length c.vc, .slice c.pa c.ps.length c.pc, .slice c.qa c.qs.length c.qc, .int .i64 c.cs, .int .i64 c.nx] 25)) b) := HPb.out.below HB.out
  have AC : Hid (BArg ((w.alloc (.cells #[.slice b.va b.vs.length b.vc, .slice b.pa b.ps.length b.pc, .slice b.qa b.qs.length b.qc, .int .i64 b.cs, .int .i64 b.nx] 25)).alloc (.cells #[.slice c.va c.vs.length c.vc, .slice c.pa c.ps.length c.pc, .slice c.qa c.qs.length c.qc, .int .i64 c.cs, .int .i64 c.nx] 25)) c) := HPc.out.below HB.out
  go_enter Tryz.func3, Tryz.ntmps3
  have x0 := BA.out.c0
  have x1 := BA.out.c1
  have x2 := BA.out.c2
  have x3 := BA.out.c3
  have x4 := BA.out.c4
  go_wp2_with fail
  refine (szB b 1048576 (by omega) (by omega) _ AB.out).mono ?_
  rintro e w1 ⟨hb1, r0, rfl, hu0, hr0⟩
  have Z1 : Hid (w.heap.size + 1 + 1 ≤ w1.heap.size) := by show _ ≤ _; have h := hb1.size; simpa using h
  replace BA : Hid (Bx w1 w.heap.size [.slice b.va b.vs.length b.vc, .slice b.pa b.ps.length b.pc, .slice b.qa b.qs.length b.qc, .int .i64 b.cs, .int .i64 b.nx]) := BA.out.below hb1
  replace BC : Hid (Bx w1 (w.heap.size + 1) [.slice c.va c.vs.length c.vc, .slice c.pa c.ps.length c.pc, .slice c.qa c.qs.length c.qc, .int .i64 c.cs, .int .i64 c.nx]) := BC.out.below hb1
  replace HB : Hid (Below w.heap.size w w1) := HB.out.trans (hb1.mono HB.out.size)
  replace AB : Hid (BArg w1 b) := HPb.out.below HB.out
  replace AC : Hid (BArg w1 c) := HPc.out.below HB.out
  clear hb1 x0 x1 x2 x3 x4
  by_cases hneg : r0 < 0
  · clear hr0
    go_wp2
    go_ret
    exact ⟨rfl, HB.out⟩
  have hpos : ¬ r0 < 0 := hneg
  have hpos' : 0 ≤ r0 := by omega
  have HF : Hid (BFit b) := hr0 (by omega)
  clear hr0 hneg
  have y0 := BC.out.c0
  have y1 := BC.out.c1
  have y2 := BC.out.c2
  have y3 := BC.out.c3
  have y4 := BC.out.c4
  go_wp2_with fail
  refine (szB c r0 hpos' hu0 _ AC.out).mono ?_
  rintro e w2 ⟨hb2, r1, rfl, hu1, hr1⟩
  have Z2 : Hid (w1.heap.size ≤ w2.heap.size) := by show _ ≤ _; have h := hb2.size; simpa using h
  replace BA : Hid (Bx w2 w.heap.size [.slice b.va b.vs.length b.vc, .slice b.pa b.ps.length b.pc, .slice b.qa b.qs.length b.qc, .int .i64 b.cs, .int .i64 b.nx]) := BA.out.below hb2
  replace BC : Hid (Bx w2 (w.heap.size + 1) [.slice c.va c.vs.length c.vc, .slice c.pa c.ps.length c.pc, .slice c.qa c.qs.length c.qc, .int .i64 c.cs, .int .i64 c.nx]) := BC.out.below hb2
  replace HB : Hid (Below w.heap.size w w2) := HB.out.trans (hb2.mono HB.out.size)
  replace AB : Hid (BArg w2 b) := HPb.out.below HB.out
  replace AC : Hid (BArg w2 c) := HPc.out.below HB.out
  clear hb2 y0 y1 y2 y3 y4
  by_cases hneg1 : r1 < 0
  · clear hr1
    go_wp2
    go_ret
    exact ⟨rfl, HB.out⟩
  have hpos1 : ¬ r1 < 0 := hneg1
  have HG : Hid (BFit c) := hr1 (by omega)
  clear hr1 hneg1
  obtain ⟨R, CS, CI⟩ : ∃ R : Bool, Hid (∀ (d e : Bb) (W : World), BSame b d → BSame c e → BRows W d → BRows W e → Calls Tryz.prog 5 #[.agg #[.slice d.va d.vs.length d.vc, .slice d.pa d.ps.length d.pc, .slice d.qa d.qs.length d.qc, .int .i64 d.cs, .int .i64 d.nx], .agg #[.slice e.va e.vs.length e.vc, .slice e.pa e.ps.length e.pc, .slice e.qa e.qs.length e.qc, .int .i64 e.cs, .int .i64 e.nx]] W fun ex w' => ex = .returned (.bool R) ∧ Below W.heap.size W w') ∧ Hid (∀ (d e : Bb) (W : World), BSame b d → BSame c e → BRows W d → BRows W e → Calls Tryz.prog 7 #[.agg #[.slice d.va d.vs.length d.vc, .slice d.pa d.ps.length d.pc, .slice d.qa d.qs.length d.qc, .int .i64 d.cs, .int .i64 d.nx], .agg #[.slice e.va e.vs.length e.vc, .slice e.pa e.ps.length e.pc, .slice e.qa e.qs.length e.qc, .int .i64 e.cs, .int .i64 e.nx]] W fun ex w' => ex = .returned (.bool R) ∧ Below W.heap.size W w') := by
    refine ⟨likeBB b c, fun d e W h1 h2 h3 h4 => ?_, fun d e W h1 h2 h3 h4 => ?_⟩
    · have k := slikeB d e (h1.fit HF.out) (h2.fit HG.out) W h3 h4
      rw [likeBB_same h1 h2] at k
      exact k
    · have k := ilikeB d e (h1.fit HF.out) (h2.fit HG.out) W h3 h4
      rw [likeBB_same h1 h2] at k
      exact k
  have hR1 : (R == R) = true := by simp
  have hR2 : (R != R) = false := by simp
  go_wp2
  refine wp_region_held_drew (S := fun w' => w'.cell? ⟨w.heap.size, 0, none⟩ = some (.slice b.va b.vs.length b.vc) ∧ w'.cell? ⟨w.heap.size, 1, none⟩ = some (.slice b.pa b.ps.length b.pc) ∧ w'.cell? ⟨w.heap.size, 2, none⟩ = some (.slice b.qa b.qs.length b.qc) ∧ w'.cell? ⟨w.heap.size, 3, none⟩ = some (.int .i64 b.cs) ∧ w'.cell? ⟨w.heap.size, 4, none⟩ = some (.int .i64 b.nx) ∧ w'.cell? ⟨w.heap.size + 1, 0, none⟩ = some (.slice c.va c.vs.length c.vc) ∧ w'.cell? ⟨w.heap.size + 1, 1, none⟩ = some (.slice c.pa c.ps.length c.pc) ∧ w'.cell? ⟨w.heap.size + 1, 2, none⟩ = some (.slice c.qa c.qs.length c.qc) ∧ w'.cell? ⟨w.heap.size + 1, 3, none⟩ = some (.int .i64 c.cs) ∧ w'.cell? ⟨w.heap.size + 1, 4, none⟩ = some (.int .i64 c.nx)) (by kernel_rfl) ⟨BA.out.c0, BA.out.c1, BA.out.c2, BA.out.c3, BA.out.c4, BC.out.c0, BC.out.c1, BC.out.c2, BC.out.c3, BC.out.c4⟩ (fun hHeld => ?_)
  (refine tk 0 ?_ rfl (Or.inl ⟨by rfl, ?_⟩) ?_; rotate_left; (focus (intro w h; (try dsimp only at h); go_simp; (try with_reducible rfl))); simp only [Act.put, tA, tB, tD, tE, tF])
  (refine tk 2 ?_ rfl (Or.inl ⟨by rfl, ?_⟩) ?_; rotate_left; (focus (intro w h; (try dsimp only at h); go_simp; (try with_reducible rfl))); simp only [Act.put, tA, tB, tC, tD, tE, tF])
  refine wpAnyH_ready (rs := [1]) (by kernel_rfl) (by simp) ?_
  refine AllReadyH.cons rfl (fun K hK => ?_) AllReadyH.nil
  go_simp
  go_wp2_with fail
  refine (toB b HF.out _ AB.out.rows.drewB).mono ?_
  rintro e w3 ⟨d1, rfl, hs1, hl1, hb3⟩
  have hbu3 := undrew hb3
  have Z3 : Hid (w2.heap.size ≤ w3.heap.size) := by show _ ≤ _; have h := hbu3.size; simpa using h
  replace BA : Hid (Bx w3 w.heap.size [.slice b.va b.vs.length b.vc, .slice b.pa b.ps.length b.pc, .slice b.qa b.qs.length b.qc, .int .i64 b.cs, .int .i64 b.nx]) := BA.out.below hbu3
  replace BC : Hid (Bx w3 (w.heap.size + 1) [.slice c.va c.vs.length c.vc, .slice c.pa c.ps.length c.pc, .slice c.qa c.qs.length c.qc, .int .i64 c.cs, .int .i64 c.nx]) := BC.out.below hbu3
  replace HB : Hid (Below w.heap.size w w3) := HB.out.trans (hbu3.mono HB.out.size)
  replace AB : Hid (BArg w3 b) := HPb.out.below HB.out
  replace AC : Hid (BArg w3 c) := HPc.out.below HB.out
  have U1 := hide hl1.rows
  have S1 := hide hs1
  clear hl1 hs1
  go_wp2_with fail
  refine hK.out _ _ ⟨BA.out.c0, BA.out.c1, BA.out.c2, BA.out.c3, BA.out.c4, BC.out.c0, BC.out.c1, BC.out.c2, BC.out.c3, BC.out.c4⟩ (fun hHeld3 => ?_)
  clear hK K hb3 hbu3
  refine wpAnyH_ready (rs := [3]) (by kernel_rfl) (by simp) ?_
  refine AllReadyH.cons rfl (fun K hK => ?_) AllReadyH.nil
  go_simp
  go_wp2_with fail
  refine (toB c HG.out _ AC.out.rows).mono ?_
  rintro e w4 ⟨e1, rfl, hs2, hl2, hb4⟩
  have Z4 : Hid (w3.heap.size ≤ w4.heap.size) := by show _ ≤ _; have h := hb4.size; simpa using h
  replace BA : Hid (Bx w4 w.heap.size [.slice b.va b.vs.length b.vc, .slice b.pa b.ps.length b.pc, .slice b.qa b.qs.length b.qc, .int .i64 b.cs, .int .i64 b.nx]) := BA.out.below hb4
  replace BC : Hid (Bx w4 (w.heap.size + 1) [.slice c.va c.vs.length c.vc, .slice c.pa c.ps.length c.pc, .slice c.qa c.qs.length c.qc, .int .i64 c.cs, .int .i64 c.nx]) := BC.out.below hb4
  replace HB : Hid (Below w.heap.size w w4) := HB.out.trans (hb4.mono HB.out.size)
  replace AB : Hid (BArg w4 b) := HPb.out.below HB.out
  replace AC : Hid (BArg w4 c) := HPc.out.below HB.out
  replace U1 : Hid (BRows w4 d1) := U1.out.below hb4
  have U2 := hide hl2.rows
  have S2 := hide hs2
  clear hl2 hs2
  go_wp2_with fail
  refine hK.out _ _ ⟨BA.out.c0, BA.out.c1, BA.out.c2, BA.out.c3, BA.out.c4, BC.out.c0, BC.out.c1, BC.out.c2, BC.out.c3, BC.out.c4⟩ (fun hHeld4 => ?_)
  clear hK K hb4
  refine wpAnyH_ready (rs := [4]) (by kernel_rfl) (by simp) ?_
  refine AllReadyH.cons rfl (fun K hK => ?_) AllReadyH.nil
  go_simp
  go_wp2_with fail
  refine (CS.out d1 e1 _ S1.out S2.out U1.out U2.out).mono ?_
  rintro e w5 ⟨rfl, hb5⟩
  have Z5 : Hid (w4.heap.size ≤ w5.heap.size) := by show _ ≤ _; have h := hb5.size; simpa using h
  replace BA : Hid (Bx w5 w.heap.size [.slice b.va b.vs.length b.vc, .slice b.pa b.ps.length b.pc, .slice b.qa b.qs.length b.qc, .int .i64 b.cs, .int .i64 b.nx]) := BA.out.below hb5
  replace BC : Hid (Bx w5 (w.heap.size + 1) [.slice c.va c.vs.length c.vc, .slice c.pa c.ps.length c.pc, .slice c.qa c.qs.length c.qc, .int .i64 c.cs, .int .i64 c.nx]) := BC.out.below hb5
  replace HB : Hid (Below w.heap.size w w5) := HB.out.trans (hb5.mono HB.out.size)
  replace AB : Hid (BArg w5 b) := HPb.out.below HB.out
  replace AC : Hid (BArg w5 c) := HPc.out.below HB.out
  replace U1 : Hid (BRows w5 d1) := U1.out.below hb5
  replace U2 : Hid (BRows w5 e1) := U2.out.below hb5
  go_wp2_with fail
  refine hK.out _ _ ⟨BA.out.c0, BA.out.c1, BA.out.c2, BA.out.c3, BA.out.c4, BC.out.c0, BC.out.c1, BC.out.c2, BC.out.c3, BC.out.c4⟩ (fun hHeld5 => ?_)
  clear hK K hb5
  (refine tk 5 ?_ rfl (Or.inl ⟨by rfl, ?_⟩) ?_; rotate_left; (focus (intro w h; (try dsimp only at h); go_simp; (try with_reducible rfl))); simp only [Act.put, tA, tB, tC, tD, tE, tF])
  refine wpAnyH_done (by kernel_rfl) ?_ _
  clear U1 U2
  clear S1 S2
  have x0 := BA.out.c0
  have x1 := BA.out.c1
  have x2 := BA.out.c2
  have x3 := BA.out.c3
  have x4 := BA.out.c4
  go_wp2_with fail
  refine (toB b HF.out _ AB.out.rows).mono ?_
  rintro e w6 ⟨d2, rfl, hs, hl, hb6⟩
  have Z6 : Hid (w5.heap.size ≤ w6.heap.size) := by show _ ≤ _; have h := hb6.size; simpa using h
  replace BA : Hid (Bx w6 w.heap.size [.slice b.va b.vs.length b.vc, .slice b.pa b.ps.length b.pc, .slice b.qa b.qs.length b.qc, .int .i64 b.cs, .int .i64 b.nx]) := BA.out.below hb6
  replace BC : Hid (Bx w6 (w.heap.size + 1) [.slice c.va c.vs.length c.vc, .slice c.pa c.ps.length c.pc, .slice c.qa c.qs.length c.qc, .int .i64 c.cs, .int .i64 c.nx]) := BC.out.below hb6
  replace HB : Hid (Below w.heap.size w w6) := HB.out.trans (hb6.mono HB.out.size)
  replace AB : Hid (BArg w6 b) := HPb.out.below HB.out
  replace AC : Hid (BArg w6 c) := HPc.out.below HB.out
  have Sd2 : Hid (BSame b d2) := hs
  clear hs
  clear hb6 x0 x1 x2 x3 x4
  have Ld2 : Hid (BLie w6 (w5.heap.size) w6.heap.size d2) := hl
  clear hl
  have hba : Below w6.heap.size w6 (w6.alloc (.cells #[.slice d2.va d2.vs.length d2.vc, .slice d2.pa d2.ps.length d2.pc, .slice d2.qa d2.qs.length d2.qc, .int .i64 d2.cs, .int .i64 d2.nx] 31)) := (belowRefl _).alloc (Nat.le_refl _) _
  replace BA : Hid (Bx (w6.alloc (.cells #[.slice d2.va d2.vs.length d2.vc, .slice d2.pa d2.ps.length d2.pc, .slice d2.qa d2.qs.length d2.qc, .int .i64 d2.cs, .int .i64 d2.nx] 31)) w.heap.size [.slice b.va b.vs.length b.vc, .slice b.pa b.ps.length b.pc, .slice b.qa b.qs.length b.qc, .int .i64 b.cs, .int .i64 b.nx]) := BA.out.below hba
  replace BC : Hid (Bx (w6.alloc (.cells #[.slice d2.va d2.vs.length d2.vc, .slice d2.pa d2.ps.length d2.pc, .slice d2.qa d2.qs.length d2.qc, .int .i64 d2.cs, .int .i64 d2.nx] 31)) (w.heap.size + 1) [.slice c.va c.vs.length c.vc, .slice c.pa c.ps.length c.pc, .slice c.qa c.qs.length c.qc, .int .i64 c.cs, .int .i64 c.nx]) := BC.out.below hba
  replace HB : Hid (Below w.heap.size w (w6.alloc (.cells #[.slice d2.va d2.vs.length d2.vc, .slice d2.pa d2.ps.length d2.pc, .slice d2.qa d2.qs.length d2.qc, .int .i64 d2.cs, .int .i64 d2.nx] 31))) := HB.out.trans (hba.mono HB.out.size)
  replace AB : Hid (BArg (w6.alloc (.cells #[.slice d2.va d2.vs.length d2.vc, .slice d2.pa d2.ps.length d2.pc, .slice d2.qa d2.qs.length d2.qc, .int .i64 d2.cs, .int .i64 d2.nx] 31)) b) := HPb.out.below HB.out
  replace AC : Hid (BArg (w6.alloc (.cells #[.slice d2.va d2.vs.length d2.vc, .slice d2.pa d2.ps.length d2.pc, .slice d2.qa d2.qs.length d2.qc, .int .i64 d2.cs, .int .i64 d2.nx] 31)) c) := HPc.out.below HB.out
  replace Ld2 : Hid (BLie (w6.alloc (.cells #[.slice d2.va d2.vs.length d2.vc, .slice d2.pa d2.ps.length d2.pc, .slice d2.qa d2.qs.length d2.qc, .int .i64 d2.cs, .int .i64 d2.nx] 31)) (w5.heap.size) w6.heap.size d2) := Ld2.out.below hba
  clear hba
  have BX : Hid (Bx (w6.alloc (.cells #[.slice d2.va d2.vs.length d2.vc, .slice d2.pa d2.ps.length d2.pc, .slice d2.qa d2.qs.length d2.qc, .int .i64 d2.cs, .int .i64 d2.nx] 31)) (w6.heap.size) [.slice d2.va d2.vs.length d2.vc, .slice d2.pa d2.ps.length d2.pc, .slice d2.qa d2.qs.length d2.qc, .int .i64 d2.cs, .int .i64 d2.nx]) := Bx.new w6 [.slice d2.va d2.vs.length d2.vc, .slice d2.pa d2.ps.length d2.pc, .slice d2.qa d2.qs.length d2.qc, .int .i64 d2.cs, .int .i64 d2.nx] 31
  have y0 := BC.out.c0
  have y1 := BC.out.c1
  have y2 := BC.out.c2
  have y3 := BC.out.c3
  have y4 := BC.out.c4
  go_wp2_with fail
  refine (toB c HG.out _ AC.out.rows).mono ?_
  rintro e w7 ⟨e2, rfl, hs, hl, hb7⟩
  have Z7 : Hid (w6.heap.size + 1 ≤ w7.heap.size) := by show _ ≤ _; have h := hb7.size; simpa using h
  replace BA : Hid (Bx w7 w.heap.size [.slice b.va b.vs.length b.vc, .slice b.pa b.ps.length b.pc, .slice b.qa b.qs.length b.qc, .int .i64 b.cs, .int .i64 b.nx]) := BA.out.below hb7
  replace BC : Hid (Bx w7 (w.heap.size + 1) [.slice c.va c.vs.length c.vc, .slice c.pa c.ps.length c.pc, .slice c.qa c.qs.length c.qc, .int .i64 c.cs, .int .i64 c.nx]) := BC.out.below hb7
  replace HB : Hid (Below w.heap.size w w7) := HB.out.trans (hb7.mono HB.out.size)
  replace AB : Hid (BArg w7 b) := HPb.out.below HB.out
  replace AC : Hid (BArg w7 c) := HPc.out.below HB.out
  replace Ld2 : Hid (BLie w7 (w5.heap.size) w6.heap.size d2) := Ld2.out.below hb7
  replace BX : Hid (Bx w7 (w6.heap.size) [.slice d2.va d2.vs.length d2.vc, .slice d2.pa d2.ps.length d2.pc, .slice d2.qa d2.qs.length d2.qc, .int .i64 d2.cs, .int .i64 d2.nx]) := BX.out.below hb7
  have Se2 : Hid (BSame c e2) := hs
  clear hs
  clear hb7 y0 y1 y2 y3 y4
  have Le2 : Hid (BLie w7 (w6.heap.size + 1) w7.heap.size e2) := (by show BLie _ _ _ _; simpa using hl)
  clear hl
  have hba : Below w7.heap.size w7 (w7.alloc (.cells #[.slice e2.va e2.vs.length e2.vc, .slice e2.pa e2.ps.length e2.pc, .slice e2.qa e2.qs.length e2.qc, .int .i64 e2.cs, .int .i64 e2.nx] 31)) := (belowRefl _).alloc (Nat.le_refl _) _
  replace BA : Hid (Bx (w7.alloc (.cells #[.slice e2.va e2.vs.length e2.vc, .slice e2.pa e2.ps.length e2.pc, .slice e2.qa e2.qs.length e2.qc, .int .i64 e2.cs, .int .i64 e2.nx] 31)) w.heap.size [.slice b.va b.vs.length b.vc, .slice b.pa b.ps.length b.pc, .slice b.qa b.qs.length b.qc, .int .i64 b.cs, .int .i64 b.nx]) := BA.out.below hba
  replace BC : Hid (Bx (w7.alloc (.cells #[.slice e2.va e2.vs.length e2.vc, .slice e2.pa e2.ps.length e2.pc, .slice e2.qa e2.qs.length e2.qc, .int .i64 e2.cs, .int .i64 e2.nx] 31)) (w.heap.size + 1) [.slice c.va c.vs.length c.vc, .slice c.pa c.ps.length c.pc, .slice c.qa c.qs.length c.qc, .int .i64 c.cs, .int .i64 c.nx]) := BC.out.below hba
  replace HB : Hid (Below w.heap.size w (w7.alloc (.cells #[.slice e2.va e2.vs.length e2.vc, .slice e2.pa e2.ps.length e2.pc, .slice e2.qa e2.qs.length e2.qc, .int .i64 e2.cs, .int .i64 e2.nx] 31))) := HB.out.trans (hba.mono HB.out.size)
  replace AB : Hid (BArg (w7.alloc (.cells #[.slice e2.va e2.vs.length e2.vc, .slice e2.pa e2.ps.length e2.pc, .slice e2.qa e2.qs.length e2.qc, .int .i64 e2.cs, .int .i64 e2.nx] 31)) b) := HPb.out.below HB.out
  replace AC : Hid (BArg (w7.alloc (.cells #[.slice e2.va e2.vs.length e2.vc, .slice e2.pa e2.ps.length e2.pc, .slice e2.qa e2.qs.length e2.qc, .int .i64 e2.cs, .int .i64 e2.nx] 31)) c) := HPc.out.below HB.out
  replace Ld2 : Hid (BLie (w7.alloc (.cells #[.slice e2.va e2.vs.length e2.vc, .slice e2.pa e2.ps.length e2.pc, .slice e2.qa e2.qs.length e2.qc, .int .i64 e2.cs, .int .i64 e2.nx] 31)) (w5.heap.size) w6.heap.size d2) := Ld2.out.below hba
  replace BX : Hid (Bx (w7.alloc (.cells #[.slice e2.va e2.vs.length e2.vc, .slice e2.pa e2.ps.length e2.pc, .slice e2.qa e2.qs.length e2.qc, .int .i64 e2.cs, .int .i64 e2.nx] 31)) (w6.heap.size) [.slice d2.va d2.vs.length d2.vc, .slice d2.pa d2.ps.length d2.pc, .slice d2.qa d2.qs.length d2.qc, .int .i64 d2.cs, .int .i64 d2.nx]) := BX.out.below hba
  replace Le2 : Hid (BLie (w7.alloc (.cells #[.slice e2.va e2.vs.length e2.vc, .slice e2.pa e2.ps.length e2.pc, .slice e2.qa e2.qs.length e2.qc, .int .i64 e2.cs, .int .i64 e2.nx] 31)) (w6.heap.size + 1) w7.heap.size e2) := Le2.out.below hba
  clear hba
  have BY : Hid (Bx (w7.alloc (.cells #[.slice e2.va e2.vs.length e2.vc, .slice e2.pa e2.ps.length e2.pc, .slice e2.qa e2.qs.length e2.qc, .int .i64 e2.cs, .int .i64 e2.nx] 31)) (w7.heap.size) [.slice e2.va e2.vs.length e2.vc, .slice e2.pa e2.ps.length e2.pc, .slice e2.qa e2.qs.length e2.qc, .int .i64 e2.cs, .int .i64 e2.nx]) := Bx.new w7 [.slice e2.va e2.vs.length e2.vc, .slice e2.pa e2.ps.length e2.pc, .slice e2.qa e2.qs.length e2.qc, .int .i64 e2.cs, .int .i64 e2.nx] 31
  have x0 := BX.out.c0
  have x1 := BX.out.c1
  have x2 := BX.out.c2
  have x3 := BX.out.c3
  have x4 := BX.out.c4
  have y0 := BY.out.c0
  have y1 := BY.out.c1
  have y2 := BY.out.c2
  have y3 := BY.out.c3
  have y4 := BY.out.c4
  go_wp2_with fail
  refine (CI.out d2 e2 _ Sd2.out Se2.out Ld2.out.rows Le2.out.rows).mono ?_
  rintro e w8 ⟨rfl, hb8⟩
  have Z8 : Hid (w7.heap.size + 1 ≤ w8.heap.size) := by show _ ≤ _; have h := hb8.size; simpa using h
  replace BA : Hid (Bx w8 w.heap.size [.slice b.va b.vs.length b.vc, .slice b.pa b.ps.length b.pc, .slice b.qa b.qs.length b.qc, .int .i64 b.cs, .int .i64 b.nx]) := BA.out.below hb8
  replace BC : Hid (Bx w8 (w.heap.size + 1) [.slice c.va c.vs.length c.vc, .slice c.pa c.ps.length c.pc, .slice c.qa c.qs.length c.qc, .int .i64 c.cs, .int .i64 c.nx]) := BC.out.below hb8
  replace HB : Hid (Below w.heap.size w w8) := HB.out.trans (hb8.mono HB.out.size)
  replace AB : Hid (BArg w8 b) := HPb.out.below HB.out
  replace AC : Hid (BArg w8 c) := HPc.out.below HB.out
  replace Ld2 : Hid (BLie w8 (w5.heap.size) w6.heap.size d2) := Ld2.out.below hb8
  replace BX : Hid (Bx w8 (w6.heap.size) [.slice d2.va d2.vs.length d2.vc, .slice d2.pa d2.ps.length d2.pc, .slice d2.qa d2.qs.length d2.qc, .int .i64 d2.cs, .int .i64 d2.nx]) := BX.out.below hb8
  replace Le2 : Hid (BLie w8 (w6.heap.size + 1) w7.heap.size e2) := Le2.out.below hb8
  replace BY : Hid (Bx w8 (w7.heap.size) [.slice e2.va e2.vs.length e2.vc, .slice e2.pa e2.ps.length e2.pc, .slice e2.qa e2.qs.length e2.qc, .int .i64 e2.cs, .int .i64 e2.nx]) := BY.out.below hb8
  clear hb8 x0 x1 x2 x3 x4 y0 y1 y2 y3 y4
  go_wp2
  refine wp_region_held_drew (S := fun w' => w'.cell? ⟨w6.heap.size, 0, none⟩ = some (.slice d2.va d2.vs.length d2.vc) ∧ w'.cell? ⟨w6.heap.size, 1, none⟩ = some (.slice d2.pa d2.ps.length d2.pc) ∧ w'.cell? ⟨w6.heap.size, 2, none⟩ = some (.slice d2.qa d2.qs.length d2.qc) ∧ w'.cell? ⟨w6.heap.size, 3, none⟩ = some (.int .i64 d2.cs) ∧ w'.cell? ⟨w6.heap.size, 4, none⟩ = some (.int .i64 d2.nx) ∧ w'.cell? ⟨w.heap.size, 0, none⟩ = some (.slice b.va b.vs.length b.vc) ∧ w'.cell? ⟨w.heap.size, 1, none⟩ = some (.slice b.pa b.ps.length b.pc) ∧ w'.cell? ⟨w.heap.size, 2, none⟩ = some (.slice b.qa b.qs.length b.qc) ∧ w'.cell? ⟨w.heap.size, 3, none⟩ = some (.int .i64 b.cs) ∧ w'.cell? ⟨w.heap.size, 4, none⟩ = some (.int .i64 b.nx)) (by kernel_rfl) ⟨BX.out.c0, BX.out.c1, BX.out.c2, BX.out.c3, BX.out.c4, BA.out.c0, BA.out.c1, BA.out.c2, BA.out.c3, BA.out.c4⟩ (fun hHeld => ?_)
  (refine tk 0 ?_ rfl (Or.inl ⟨by rfl, ?_⟩) ?_; rotate_left; (focus (intro w h; (try dsimp only at h); go_simp; (try with_reducible rfl))); simp only [Act.put, tA, tB, tD, tE, tF])
  (refine tk 1 ?_ rfl (Or.inl ⟨by rfl, ?_⟩) ?_; rotate_left; (focus (intro w h; (try dsimp only at h); go_simp; (try with_reducible rfl))); simp only [Act.put, tA, tB, tC, tD, tE, tF])
  refine wpAnyH_ready (rs := [2]) (by kernel_rfl) (by simp) ?_
  refine AllReadyH.cons rfl (fun K hK => ?_) AllReadyH.nil
  go_simp
  go_wp2_with fail
  refine (toB b HF.out _ AB.out.rows.drewB).mono ?_
  rintro e w9 ⟨d3, rfl, hs3, hl3, hb9⟩
  have hbu9 := undrew hb9
  have Z9 : Hid (w8.heap.size ≤ w9.heap.size) := by show _ ≤ _; have h := hbu9.size; simpa using h
  replace BA : Hid (Bx w9 w.heap.size [.slice b.va b.vs.length b.vc, .slice b.pa b.ps.length b.pc, .slice b.qa b.qs.length b.qc, .int .i64 b.cs, .int .i64 b.nx]) := BA.out.below hbu9
  replace BC : Hid (Bx w9 (w.heap.size + 1) [.slice c.va c.vs.length c.vc, .slice c.pa c.ps.length c.pc, .slice c.qa c.qs.length c.qc, .int .i64 c.cs, .int .i64 c.nx]) := BC.out.below hbu9
  replace HB : Hid (Below w.heap.size w w9) := HB.out.trans (hbu9.mono HB.out.size)
  replace AB : Hid (BArg w9 b) := HPb.out.below HB.out
  replace AC : Hid (BArg w9 c) := HPc.out.below HB.out
  replace Ld2 : Hid (BLie w9 (w5.heap.size) w6.heap.size d2) := Ld2.out.below hbu9
  replace BX : Hid (Bx w9 (w6.heap.size) [.slice d2.va d2.vs.length d2.vc, .slice d2.pa d2.ps.length d2.pc, .slice d2.qa d2.qs.length d2.qc, .int .i64 d2.cs, .int .i64 d2.nx]) := BX.out.below hbu9
  replace Le2 : Hid (BLie w9 (w6.heap.size + 1) w7.heap.size e2) := Le2.out.below hbu9
  replace BY : Hid (Bx w9 (w7.heap.size) [.slice e2.va e2.vs.length e2.vc, .slice e2.pa e2.ps.length e2.pc, .slice e2.qa e2.qs.length e2.qc, .int .i64 e2.cs, .int .i64 e2.nx]) := BY.out.below hbu9
  have U := hide hl3.rows
  clear hl3
  go_wp2_with fail
  refine hK.out _ _ ⟨BX.out.c0, BX.out.c1, BX.out.c2, BX.out.c3, BX.out.c4, BA.out.c0, BA.out.c1, BA.out.c2, BA.out.c3, BA.out.c4⟩ (fun hHeld9 => ?_)
  clear hK K hb9 hbu9
  refine wpAnyH_ready (rs := [3]) (by kernel_rfl) (by simp) ?_
  refine AllReadyH.cons rfl (fun K hK => ?_) AllReadyH.nil
  go_simp
  go_wp2_with fail
  refine (eqB d2 d3 (Sd2.out.symm.trans hs3) (Sd2.out.fit HF.out) _ Ld2.out.rows U.out).mono ?_
  rintro e w10 ⟨rfl, hb10⟩
  have Z10 : Hid (w9.heap.size ≤ w10.heap.size) := by show _ ≤ _; have h := hb10.size; simpa using h
  replace BA : Hid (Bx w10 w.heap.size [.slice b.va b.vs.length b.vc, .slice b.pa b.ps.length b.pc, .slice b.qa b.qs.length b.qc, .int .i64 b.cs, .int .i64 b.nx]) := BA.out.below hb10
  replace BC : Hid (Bx w10 (w.heap.size + 1) [.slice c.va c.vs.length c.vc, .slice c.pa c.ps.length c.pc, .slice c.qa c.qs.length c.qc, .int .i64 c.cs, .int .i64 c.nx]) := BC.out.below hb10
  replace HB : Hid (Below w.heap.size w w10) := HB.out.trans (hb10.mono HB.out.size)
  replace AB : Hid (BArg w10 b) := HPb.out.below HB.out
  replace AC : Hid (BArg w10 c) := HPc.out.below HB.out
  replace Ld2 : Hid (BLie w10 (w5.heap.size) w6.heap.size d2) := Ld2.out.below hb10
  replace BX : Hid (Bx w10 (w6.heap.size) [.slice d2.va d2.vs.length d2.vc, .slice d2.pa d2.ps.length d2.pc, .slice d2.qa d2.qs.length d2.qc, .int .i64 d2.cs, .int .i64 d2.nx]) := BX.out.below hb10
  replace Le2 : Hid (BLie w10 (w6.heap.size + 1) w7.heap.size e2) := Le2.out.below hb10
  replace BY : Hid (Bx w10 (w7.heap.size) [.slice e2.va e2.vs.length e2.vc, .slice e2.pa e2.ps.length e2.pc, .slice e2.qa e2.qs.length e2.qc, .int .i64 e2.cs, .int .i64 e2.nx]) := BY.out.below hb10
  replace U : Hid (BRows w10 d3) := U.out.below hb10
  go_wp2_with fail
  refine hK.out _ _ ⟨BX.out.c0, BX.out.c1, BX.out.c2, BX.out.c3, BX.out.c4, BA.out.c0, BA.out.c1, BA.out.c2, BA.out.c3, BA.out.c4⟩ (fun hHeld10 => ?_)
  clear hK K hb10
  (refine tk 4 ?_ rfl (Or.inl ⟨by rfl, ?_⟩) ?_; rotate_left; (focus (intro w h; (try dsimp only at h); go_simp; (try with_reducible rfl))); simp only [Act.put, tA, tB, tC, tD, tE, tF])
  refine wpAnyH_done (by kernel_rfl) ?_ _
  clear U
  clear hs3
  go_wp2
  refine wp_region_held_drew (S := fun w' => w'.cell? ⟨w7.heap.size, 0, none⟩ = some (.slice e2.va e2.vs.length e2.vc) ∧ w'.cell? ⟨w7.heap.size, 1, none⟩ = some (.slice e2.pa e2.ps.length e2.pc) ∧ w'.cell? ⟨w7.heap.size, 2, none⟩ = some (.slice e2.qa e2.qs.length e2.qc) ∧ w'.cell? ⟨w7.heap.size, 3, none⟩ = some (.int .i64 e2.cs) ∧ w'.cell? ⟨w7.heap.size, 4, none⟩ = some (.int .i64 e2.nx) ∧ w'.cell? ⟨w.heap.size + 1, 0, none⟩ = some (.slice c.va c.vs.length c.vc) ∧ w'.cell? ⟨w.heap.size + 1, 1, none⟩ = some (.slice c.pa c.ps.length c.pc) ∧ w'.cell? ⟨w.heap.size + 1, 2, none⟩ = some (.slice c.qa c.qs.length c.qc) ∧ w'.cell? ⟨w.heap.size + 1, 3, none⟩ = some (.int .i64 c.cs) ∧ w'.cell? ⟨w.heap.size + 1, 4, none⟩ = some (.int .i64 c.nx)) (by kernel_rfl) ⟨BY.out.c0, BY.out.c1, BY.out.c2, BY.out.c3, BY.out.c4, BC.out.c0, BC.out.c1, BC.out.c2, BC.out.c3, BC.out.c4⟩ (fun hHeld => ?_)
  (refine tk 0 ?_ rfl (Or.inl ⟨by rfl, ?_⟩) ?_; rotate_left; (focus (intro w h; (try dsimp only at h); go_simp; (try with_reducible rfl))); simp only [Act.put, tA, tB, tD, tE, tF])
  (refine tk 1 ?_ rfl (Or.inl ⟨by rfl, ?_⟩) ?_; rotate_left; (focus (intro w h; (try dsimp only at h); go_simp; (try with_reducible rfl))); simp only [Act.put, tA, tB, tC, tD, tE, tF])
  refine wpAnyH_ready (rs := [2]) (by kernel_rfl) (by simp) ?_
  refine AllReadyH.cons rfl (fun K hK => ?_) AllReadyH.nil
  go_simp
  go_wp2_with fail
  refine (toB c HG.out _ AC.out.rows.drewB).mono ?_
  rintro e w11 ⟨e3, rfl, hs3, hl3, hb11⟩
  have hbu11 := undrew hb11
  have Z11 : Hid (w10.heap.size ≤ w11.heap.size) := by show _ ≤ _; have h := hbu11.size; simpa using h
  replace BA : Hid (Bx w11 w.heap.size [.slice b.va b.vs.length b.vc, .slice b.pa b.ps.length b.pc, .slice b.qa b.qs.length b.qc, .int .i64 b.cs, .int .i64 b.nx]) := BA.out.below hbu11
  replace BC : Hid (Bx w11 (w.heap.size + 1) [.slice c.va c.vs.length c.vc, .slice c.pa c.ps.length c.pc, .slice c.qa c.qs.length c.qc, .int .i64 c.cs, .int .i64 c.nx]) := BC.out.below hbu11
  replace HB : Hid (Below w.heap.size w w11) := HB.out.trans (hbu11.mono HB.out.size)
  replace AB : Hid (BArg w11 b) := HPb.out.below HB.out
  replace AC : Hid (BArg w11 c) := HPc.out.below HB.out
  replace Ld2 : Hid (BLie w11 (w5.heap.size) w6.heap.size d2) := Ld2.out.below hbu11
  replace BX : Hid (Bx w11 (w6.heap.size) [.slice d2.va d2.vs.length d2.vc, .slice d2.pa d2.ps.length d2.pc, .slice d2.qa d2.qs.length d2.qc, .int .i64 d2.cs, .int .i64 d2.nx]) := BX.out.below hbu11
  replace Le2 : Hid (BLie w11 (w6.heap.size + 1) w7.heap.size e2) := Le2.out.below hbu11
  replace BY : Hid (Bx w11 (w7.heap.size) [.slice e2.va e2.vs.length e2.vc, .slice e2.pa e2.ps.length e2.pc, .slice e2.qa e2.qs.length e2.qc, .int .i64 e2.cs, .int .i64 e2.nx]) := BY.out.below hbu11
  have U := hide hl3.rows
  clear hl3
  go_wp2_with fail
  refine hK.out _ _ ⟨BY.out.c0, BY.out.c1, BY.out.c2, BY.out.c3, BY.out.c4, BC.out.c0, BC.out.c1, BC.out.c2, BC.out.c3, BC.out.c4⟩ (fun hHeld11 => ?_)
  clear hK K hb11 hbu11
  refine wpAnyH_ready (rs := [3]) (by kernel_rfl) (by simp) ?_
  refine AllReadyH.cons rfl (fun K hK => ?_) AllReadyH.nil
  go_simp
  go_wp2_with fail
  refine (eqB e2 e3 (Se2.out.symm.trans hs3) (Se2.out.fit HG.out) _ Le2.out.rows U.out).mono ?_
  rintro e w12 ⟨rfl, hb12⟩
  have Z12 : Hid (w11.heap.size ≤ w12.heap.size) := by show _ ≤ _; have h := hb12.size; simpa using h
  replace BA : Hid (Bx w12 w.heap.size [.slice b.va b.vs.length b.vc, .slice b.pa b.ps.length b.pc, .slice b.qa b.qs.length b.qc, .int .i64 b.cs, .int .i64 b.nx]) := BA.out.below hb12
  replace BC : Hid (Bx w12 (w.heap.size + 1) [.slice c.va c.vs.length c.vc, .slice c.pa c.ps.length c.pc, .slice c.qa c.qs.length c.qc, .int .i64 c.cs, .int .i64 c.nx]) := BC.out.below hb12
  replace HB : Hid (Below w.heap.size w w12) := HB.out.trans (hb12.mono HB.out.size)
  replace AB : Hid (BArg w12 b) := HPb.out.below HB.out
  replace AC : Hid (BArg w12 c) := HPc.out.below HB.out
  replace Ld2 : Hid (BLie w12 (w5.heap.size) w6.heap.size d2) := Ld2.out.below hb12
  replace BX : Hid (Bx w12 (w6.heap.size) [.slice d2.va d2.vs.length d2.vc, .slice d2.pa d2.ps.length d2.pc, .slice d2.qa d2.qs.length d2.qc, .int .i64 d2.cs, .int .i64 d2.nx]) := BX.out.below hb12
  replace Le2 : Hid (BLie w12 (w6.heap.size + 1) w7.heap.size e2) := Le2.out.below hb12
  replace BY : Hid (Bx w12 (w7.heap.size) [.slice e2.va e2.vs.length e2.vc, .slice e2.pa e2.ps.length e2.pc, .slice e2.qa e2.qs.length e2.qc, .int .i64 e2.cs, .int .i64 e2.nx]) := BY.out.below hb12
  replace U : Hid (BRows w12 e3) := U.out.below hb12
  go_wp2_with fail
  refine hK.out _ _ ⟨BY.out.c0, BY.out.c1, BY.out.c2, BY.out.c3, BY.out.c4, BC.out.c0, BC.out.c1, BC.out.c2, BC.out.c3, BC.out.c4⟩ (fun hHeld12 => ?_)
  clear hK K hb12
  (refine tk 4 ?_ rfl (Or.inl ⟨by rfl, ?_⟩) ?_; rotate_left; (focus (intro w h; (try dsimp only at h); go_simp; (try with_reducible rfl))); simp only [Act.put, tA, tB, tC, tD, tE, tF])
  refine wpAnyH_done (by kernel_rfl) ?_ _
  clear U
  clear hs3
  go_wp2
  go_ret
  exact ⟨rfl, HB.out⟩

end Go.Proofs.YtmaipaeehalabaaGreat

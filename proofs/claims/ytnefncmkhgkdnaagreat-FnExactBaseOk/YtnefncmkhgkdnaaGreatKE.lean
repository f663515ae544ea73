/- The law FnExactBaseOk, walked. -/
import Derived.Test.YtnefncmkhgkdnaaGreatKM
import Derived.Test.YtnefncmkhgkdnaaGreatKS
import Derived.Test.YtnefncmkhgkdnaaGreatB3
import Derived.Test.YtnefncmkhgkdnaaGreatE5
import Derived.Deep.RegionHeld3
import Derived.Deep.Cut
import Derived.Deep.CutRange
import Derived.Laws.EntriesVeiled
namespace Go.Proofs.YtnefncmkhgkdnaaGreat
open Go.RowKit
open KM
attribute [local go_sem ↓] Go.wp_at_zero Go.wp_at_succ

theorem pst_same {xs ys : List Ta} {cs : Int} (h : txs ys = txs xs) (hg : pstG xs cs) : pstG ys cs := fun j hj => by
  have hl : ys.length = xs.length := by rw [← txs_len, h, txs_len]
  have e : ∀ i (hi : i < ys.length), ys[i].t = (xs[i]'(by omega)).t := fun i hi => by
    have h1 : (txs ys)[i]? = (txs xs)[i]? := by rw [h]
    simpa [txs, List.getElem?_eq_getElem hi, List.getElem?_eq_getElem (show i < xs.length by omega)] using h1
  have h2 := hg j (by omega)
  rw [e j hj]
  refine ⟨h2.1, fun h0 => ?_⟩
  rw [e (j - 1) (by omega)]
  exact h2.2 h0
theorem rdy_same {xs ys : List Ta} {cs : Int} (h : txs ys = txs xs) (hg : rdyG xs cs) : rdyG ys cs := fun j hj => by
  have hl : ys.length = xs.length := by rw [← txs_len, h, txs_len]
  have e : ∀ i (hi : i < ys.length), ys[i].t = (xs[i]'(by omega)).t := fun i hi => by
    have h1 : (txs ys)[i]? = (txs xs)[i]? := by rw [h]
    simpa [txs, List.getElem?_eq_getElem hi, List.getElem?_eq_getElem (show i < xs.length by omega)] using h1
  have h2 := hg j (by omega)
  rw [e j hj]
  refine ⟨h2.1, fun h0 => ?_⟩
  rw [e (j - 1) (by omega)]
  exact h2.2 h0
theorem ids_same {xs ys : List Ta} (h : txs ys = txs xs) : ys.map (fun x : Ta => x.t.id) = xs.map (fun x : Ta => x.t.id) := by
  have e : ∀ zs : List Ta, zs.map (fun x : Ta => x.t.id) = (txs zs).map (·.id) := fun zs => by simp [txs, Function.comp_def]
  rw [e, e, h]
theorem sb_mono {b c : Bb} (h : BSame b c) (hb : SbP b) : SbP c := by
  obtain ⟨h1, h2, h3, h4, h5, h6, h7, h8, h9⟩ := hb
  refine ⟨by rw [h.v]; exact h1, by rw [h.pl]; exact h2, by rw [h.ql]; exact h3, by rw [h.cs]; exact h4, by rw [h.nx]; exact h5, ?_, by rw [h.cs]; exact pst_same h.p h7, by rw [h.cs]; exact rdy_same h.q h8, by rw [ids_same h.p, ids_same h.q, h.nx]; exact h9⟩
  intro j hj
  have hv := h.v
  have hj' : j < b.vs.length := by rw [← hv]; exact hj
  have := h6 j hj'
  rw [h.cs]
  simpa only [hv] using this
theorem sb_same {b c : Bb} (h : BSame b c) : sbB c = sbB b := by
  unfold sbB
  rw [Bool.eq_iff_iff, decide_eq_true_eq, decide_eq_true_eq]
  exact ⟨sb_mono h.symm, sb_mono h⟩

set_option maxRecDepth 100000 in
set_option maxHeartbeats 4000000 in
theorem law3 (b : Bb) (w : World) (hpb : BArg w b) : Calls Tryz.prog 3 #[.agg #[.slice b.va b.vs.length b.vc, .slice b.pa b.ps.length b.pc, .slice b.qa b.qs.length b.qc, .int .i64 b.cs, .int .i64 b.nx]] w fun e w' => e = .returned (.bool true) ∧ Below w.heap.size w w' := by
  have HPb : Hid (BArg w b) := hpb
  clear hpb
  have BA : Hid (Bx (w.alloc (.cells #[.slice b.va b.vs.length b.vc, .slice b.pa b.ps.length b.pc, .slice b.qa b.qs.length b.qc, .int .i64 b.cs, .int .i64 b.nx] 25)) w.heap.size [.slice b.va b.vs.length b.vc, .slice b.pa b.ps.length b.pc, .slice b.qa b.qs.length b.qc, .int .i64 b.cs, .int .i64 b.nx]) := Bx.new w [.slice b.va b.vs.length b.vc, .slice b.pa b.ps.length b.pc, .slice b.qa b.qs.length b.qc, .int .i64 b.cs, .int .i64 b.nx] 25
  have HB : Hid (Below w.heap.size w (w.alloc (.cells #[.slice b.va b.vs.length b.vc, .slice b.pa b.ps.length b.pc, .slice b.qa b.qs.length b.qc, .int .i64 b.cs, .int .i64 b.nx] 25))) := (belowRefl w).alloc (Nat.le_refl _) _
  have AB : Hid (BArg (w.alloc (.cells #[.slice b.va b.vs.length b.vc, .slice b.pa b.ps.length b.pc, .slice b.qa b.qs.length b.qc, .int .i64 b.cs, .int .i64 b.nx] 25)) b) := HPb.out.below HB.out
  go_enter Tryz.func3, Tryz.ntmps3
  have x0 := BA.out.c0
  have x1 := BA.out.c1
  have x2 := BA.out.c2
  have x3 := BA.out.c3
  have x4 := BA.out.c4
  go_wp2_with fail
  refine (szB b 1048576 (by omega) (by omega) _ AB.out).mono ?_
  rintro e w1 ⟨hb1, lft, rfl, hut, hrt⟩
  replace BA : Hid (Bx w1 w.heap.size [.slice b.va b.vs.length b.vc, .slice b.pa b.ps.length b.pc, .slice b.qa b.qs.length b.qc, .int .i64 b.cs, .int .i64 b.nx]) := BA.out.below hb1
  replace HB : Hid (Below w.heap.size w w1) := HB.out.trans (hb1.mono HB.out.size)
  replace AB : Hid (BArg w1 b) := AB.out.below hb1
  clear hb1 x0 x1 x2 x3 x4
  by_cases hneg : lft < 0
  · clear hrt
    go_wp2
    go_ret
    exact ⟨rfl, HB.out⟩
  have hpost : ¬ lft < 0 := hneg
  have HF : Hid (BFit b) := hrt (by omega)
  clear hrt hneg
  have CS : Hid (∀ (c : Bb) (W : World), BSame b c → BRows W c → Calls Tryz.prog 5 #[.agg #[.slice c.va c.vs.length c.vc, .slice c.pa c.ps.length c.pc, .slice c.qa c.qs.length c.qc, .int .i64 c.cs, .int .i64 c.nx]] W fun e w' => e = .returned (.bool (sbB c)) ∧ Below W.heap.size W w') := fun c W h1 h2 => sbase5 c (h1.fit HF.out) W h2
  have CI : Hid (∀ (c : Bb) (W : World), BSame b c → (c.pa = none → c.ps.length = 0 ∧ c.pc = 0) ∧ (c.qa = none → c.qs.length = 0 ∧ c.qc = 0) → BRows W c → Calls Tryz.prog 7 #[.agg #[.slice c.va c.vs.length c.vc, .slice c.pa c.ps.length c.pc, .slice c.qa c.qs.length c.qc, .int .i64 c.cs, .int .i64 c.nx]] W fun e w' => e = .returned (.bool (sbB c)) ∧ Below W.heap.size W w') := fun c W h1 h3 h2 => by
    have h := ibase7 c (h1.fit HF.out) h3.1 h3.2 W h2
    rwa [ib_sb] at h
  have x0 := BA.out.c0
  have x1 := BA.out.c1
  have x2 := BA.out.c2
  have x3 := BA.out.c3
  have x4 := BA.out.c4
  go_wp2_with fail
  refine (toB b HF.out _ AB.out.rows).mono ?_
  rintro e w2 ⟨c1, rfl, hs1, hl1, hb2⟩
  replace BA : Hid (Bx w2 w.heap.size [.slice b.va b.vs.length b.vc, .slice b.pa b.ps.length b.pc, .slice b.qa b.qs.length b.qc, .int .i64 b.cs, .int .i64 b.nx]) := BA.out.below hb2
  replace HB : Hid (Below w.heap.size w w2) := HB.out.trans (hb2.mono HB.out.size)
  replace AB : Hid (BArg w2 b) := AB.out.below hb2
  clear hb2 x0 x1 x2 x3 x4
  have CS1 : Hid (BSame b c1) := hs1
  have R1 : Hid (BRows w2 c1) := hl1.rows
  clear hs1 hl1
  go_wp2_with fail
  refine (CS.out c1 _ CS1.out R1.out).mono ?_
  rintro e w3 ⟨rfl, hb3⟩
  replace BA : Hid (Bx w3 w.heap.size [.slice b.va b.vs.length b.vc, .slice b.pa b.ps.length b.pc, .slice b.qa b.qs.length b.qc, .int .i64 b.cs, .int .i64 b.nx]) := BA.out.below hb3
  replace HB : Hid (Below w.heap.size w w3) := HB.out.trans (hb3.mono HB.out.size)
  replace AB : Hid (BArg w3 b) := AB.out.below hb3
  replace R1 : Hid (BRows w3 c1) := R1.out.below hb3
  clear hb3
  clear R1
  have x0 := BA.out.c0
  have x1 := BA.out.c1
  have x2 := BA.out.c2
  have x3 := BA.out.c3
  have x4 := BA.out.c4
  go_wp2_with fail
  refine (toB b HF.out _ AB.out.rows).mono ?_
  rintro e w4 ⟨c2, rfl, hs2, hl2, hb4⟩
  replace BA : Hid (Bx w4 w.heap.size [.slice b.va b.vs.length b.vc, .slice b.pa b.ps.length b.pc, .slice b.qa b.qs.length b.qc, .int .i64 b.cs, .int .i64 b.nx]) := BA.out.below hb4
  replace HB : Hid (Below w.heap.size w w4) := HB.out.trans (hb4.mono HB.out.size)
  replace AB : Hid (BArg w4 b) := AB.out.below hb4
  clear hb4 x0 x1 x2 x3 x4
  have CS2 : Hid (BSame b c2) := hs2
  have R2 : Hid (BRows w4 c2) := hl2.rows
  have NO2 := hide hl2.nones
  clear hs2 hl2
  obtain ⟨rb, hrb⟩ : ∃ rb, rb = sbB c1 := ⟨_, rfl⟩
  have HRB : Hid (sbB c2 = rb) := by show _ = _; rw [hrb]; exact sb_same (CS1.out.symm.trans CS2.out)
  rw [← hrb]
  clear hrb
  have hbn := bne_self' rb
  have hba : Below w4.heap.size w4 (w4.alloc (.cells #[.slice c2.va c2.vs.length c2.vc, .slice c2.pa c2.ps.length c2.pc, .slice c2.qa c2.qs.length c2.qc, .int .i64 c2.cs, .int .i64 c2.nx] 31)) := (belowRefl w4).alloc (Nat.le_refl _) _
  replace BA : Hid (Bx (w4.alloc (.cells #[.slice c2.va c2.vs.length c2.vc, .slice c2.pa c2.ps.length c2.pc, .slice c2.qa c2.qs.length c2.qc, .int .i64 c2.cs, .int .i64 c2.nx] 31)) w.heap.size [.slice b.va b.vs.length b.vc, .slice b.pa b.ps.length b.pc, .slice b.qa b.qs.length b.qc, .int .i64 b.cs, .int .i64 b.nx]) := BA.out.below hba
  replace HB : Hid (Below w.heap.size w (w4.alloc (.cells #[.slice c2.va c2.vs.length c2.vc, .slice c2.pa c2.ps.length c2.pc, .slice c2.qa c2.qs.length c2.qc, .int .i64 c2.cs, .int .i64 c2.nx] 31))) := HB.out.trans (hba.mono HB.out.size)
  replace AB : Hid (BArg (w4.alloc (.cells #[.slice c2.va c2.vs.length c2.vc, .slice c2.pa c2.ps.length c2.pc, .slice c2.qa c2.qs.length c2.qc, .int .i64 c2.cs, .int .i64 c2.nx] 31)) b) := AB.out.below hba
  replace R2 : Hid (BRows (w4.alloc (.cells #[.slice c2.va c2.vs.length c2.vc, .slice c2.pa c2.ps.length c2.pc, .slice c2.qa c2.qs.length c2.qc, .int .i64 c2.cs, .int .i64 c2.nx] 31)) c2) := R2.out.below hba
  clear hba
  have XA : Hid (Bx (w4.alloc (.cells #[.slice c2.va c2.vs.length c2.vc, .slice c2.pa c2.ps.length c2.pc, .slice c2.qa c2.qs.length c2.qc, .int .i64 c2.cs, .int .i64 c2.nx] 31)) w4.heap.size [.slice c2.va c2.vs.length c2.vc, .slice c2.pa c2.ps.length c2.pc, .slice c2.qa c2.qs.length c2.qc, .int .i64 c2.cs, .int .i64 c2.nx]) := Bx.new w4 [.slice c2.va c2.vs.length c2.vc, .slice c2.pa c2.ps.length c2.pc, .slice c2.qa c2.qs.length c2.qc, .int .i64 c2.cs, .int .i64 c2.nx] 31
  have CI2 := hide (fun W h => CI.out c2 W CS2.out NO2.out h)
  rw [HRB.out] at CI2
  have y0 := XA.out.c0
  have y1 := XA.out.c1
  have y2 := XA.out.c2
  have y3 := XA.out.c3
  have y4 := XA.out.c4
  go_wp2_with fail
  refine (CI2.out _ R2.out).mono ?_
  rintro e w5 ⟨rfl, hb5⟩
  replace BA : Hid (Bx w5 w.heap.size [.slice b.va b.vs.length b.vc, .slice b.pa b.ps.length b.pc, .slice b.qa b.qs.length b.qc, .int .i64 b.cs, .int .i64 b.nx]) := BA.out.below hb5
  replace HB : Hid (Below w.heap.size w w5) := HB.out.trans (hb5.mono HB.out.size)
  replace AB : Hid (BArg w5 b) := AB.out.below hb5
  replace R2 : Hid (BRows w5 c2) := R2.out.below hb5
  replace XA : Hid (Bx w5 w4.heap.size [.slice c2.va c2.vs.length c2.vc, .slice c2.pa c2.ps.length c2.pc, .slice c2.qa c2.qs.length c2.qc, .int .i64 c2.cs, .int .i64 c2.nx]) := XA.out.below hb5
  clear hb5 y0 y1 y2 y3 y4
  go_wp2
  refine wp_region_held_drew (S := fun w' => w'.cell? ⟨w4.heap.size, 0, none⟩ = some (.slice c2.va c2.vs.length c2.vc) ∧ w'.cell? ⟨w4.heap.size, 1, none⟩ = some (.slice c2.pa c2.ps.length c2.pc) ∧ w'.cell? ⟨w4.heap.size, 2, none⟩ = some (.slice c2.qa c2.qs.length c2.qc) ∧ w'.cell? ⟨w4.heap.size, 3, none⟩ = some (.int .i64 c2.cs) ∧ w'.cell? ⟨w4.heap.size, 4, none⟩ = some (.int .i64 c2.nx) ∧ w'.cell? ⟨w.heap.size, 0, none⟩ = some (.slice b.va b.vs.length b.vc) ∧ w'.cell? ⟨w.heap.size, 1, none⟩ = some (.slice b.pa b.ps.length b.pc) ∧ w'.cell? ⟨w.heap.size, 2, none⟩ = some (.slice b.qa b.qs.length b.qc) ∧ w'.cell? ⟨w.heap.size, 3, none⟩ = some (.int .i64 b.cs) ∧ w'.cell? ⟨w.heap.size, 4, none⟩ = some (.int .i64 b.nx)) (by kernel_rfl) ⟨XA.out.c0, XA.out.c1, XA.out.c2, XA.out.c3, XA.out.c4, BA.out.c0, BA.out.c1, BA.out.c2, BA.out.c3, BA.out.c4⟩ (fun hHeld => ?_)
  (refine wpAnyH_take (i := 0) (v := ?_) rfl (by kernel_rfl) (by kernel_rfl) (by kernel_rfl) (fun _ _ _ h => h) (Or.inl ⟨by rfl, ?_⟩) (by assumption) ?_; rotate_left; (focus (intro w hSw; (try dsimp only at hSw); go_simp; (try with_reducible rfl); done)); simp only [Act.put, List.getElem_toArray, List.getElem_cons_zero, List.setIfInBounds_toArray, List.set_cons_zero, List.set_cons_succ])
  (refine wpAnyH_take (i := 1) (v := ?_) rfl (by kernel_rfl) (by kernel_rfl) (by kernel_rfl) (fun _ _ _ h => h) (Or.inl ⟨by rfl, ?_⟩) (by assumption) ?_; rotate_left; (focus (intro w hSw; (try dsimp only at hSw); go_simp; (try with_reducible rfl); done)); simp only [Act.put, List.getElem_toArray, List.getElem_cons_zero, List.getElem_cons_succ, List.setIfInBounds_toArray, List.set_cons_zero, List.set_cons_succ])
  refine wpAnyH_ready (rs := [2]) (by kernel_rfl) (by simp) ?_
  refine AllReadyH.cons rfl (fun K hK => ?_) AllReadyH.nil
  go_simp
  go_wp2_with fail
  refine (toB b HF.out _ AB.out.rows.drewB).mono ?_
  rintro e w6 ⟨c3, rfl, hs3, hl3, hb6⟩
  have hbu6 := undrew hb6
  replace BA : Hid (Bx w6 w.heap.size [.slice b.va b.vs.length b.vc, .slice b.pa b.ps.length b.pc, .slice b.qa b.qs.length b.qc, .int .i64 b.cs, .int .i64 b.nx]) := BA.out.below hbu6
  replace HB : Hid (Below w.heap.size w w6) := HB.out.trans (hbu6.mono HB.out.size)
  replace AB : Hid (BArg w6 b) := AB.out.below hbu6
  replace R2 : Hid (BRows w6 c2) := R2.out.below hbu6
  replace XA : Hid (Bx w6 w4.heap.size [.slice c2.va c2.vs.length c2.vc, .slice c2.pa c2.ps.length c2.pc, .slice c2.qa c2.qs.length c2.qc, .int .i64 c2.cs, .int .i64 c2.nx]) := XA.out.below hbu6
  have U := hide hl3.rows
  clear hl3
  go_wp2_with fail
  refine hK.out _ _ ⟨XA.out.c0, XA.out.c1, XA.out.c2, XA.out.c3, XA.out.c4, BA.out.c0, BA.out.c1, BA.out.c2, BA.out.c3, BA.out.c4⟩ (fun hHeld6 => ?_)
  clear hK K hb6 hbu6
  refine wpAnyH_ready (rs := [3]) (by kernel_rfl) (by simp) ?_
  refine AllReadyH.cons rfl (fun K hK => ?_) AllReadyH.nil
  go_simp
  go_wp2_with fail
  refine (eqB c2 c3 (CS2.out.symm.trans hs3) (CS2.out.fit HF.out) _ R2.out U.out).mono ?_
  rintro e w7 ⟨rfl, hb7⟩
  replace BA : Hid (Bx w7 w.heap.size [.slice b.va b.vs.length b.vc, .slice b.pa b.ps.length b.pc, .slice b.qa b.qs.length b.qc, .int .i64 b.cs, .int .i64 b.nx]) := BA.out.below hb7
  replace HB : Hid (Below w.heap.size w w7) := HB.out.trans (hb7.mono HB.out.size)
  replace AB : Hid (BArg w7 b) := AB.out.below hb7
  replace R2 : Hid (BRows w7 c2) := R2.out.below hb7
  replace XA : Hid (Bx w7 w4.heap.size [.slice c2.va c2.vs.length c2.vc, .slice c2.pa c2.ps.length c2.pc, .slice c2.qa c2.qs.length c2.qc, .int .i64 c2.cs, .int .i64 c2.nx]) := XA.out.below hb7
  replace U : Hid (BRows w7 c3) := U.out.below hb7
  go_wp2_with fail
  refine hK.out _ _ ⟨XA.out.c0, XA.out.c1, XA.out.c2, XA.out.c3, XA.out.c4, BA.out.c0, BA.out.c1, BA.out.c2, BA.out.c3, BA.out.c4⟩ (fun hHeld7 => ?_)
  clear hK K hb7
  (refine wpAnyH_take (i := 4) (v := ?_) rfl (by kernel_rfl) (by kernel_rfl) (by kernel_rfl) (fun _ _ _ h => h) (Or.inl ⟨by rfl, ?_⟩) (by assumption) ?_; rotate_left; (focus (intro w hSw; (try dsimp only at hSw); go_simp; (try with_reducible rfl); done)); simp only [Act.put, List.getElem_toArray, List.getElem_cons_zero, List.getElem_cons_succ, List.setIfInBounds_toArray, List.set_cons_zero, List.set_cons_succ])
  refine wpAnyH_done (by kernel_rfl) ?_ _
  go_wp2
  go_ret
  exact ⟨rfl, HB.out⟩

end Go.Proofs.YtnefncmkhgkdnaaGreat

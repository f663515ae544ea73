/- Judge of both sides. -/
import Derived.Test.YtjeicgibddfifaaPc29
import Derived.Test.YtjeicgibddfifaaPc07
import Derived.Deep.RegionHeld3
import Derived.Deep.Cut
import Derived.Deep.CutRange
import Derived.Laws.EntriesVeiled
namespace Go.Proofs.Ytjeicgibddfifaa
open Go.RowKit
open KM
attribute [local go_sem ↓] Go.wp_at_zero Go.wp_at_succ

set_option maxRecDepth 100000 in
set_option maxHeartbeats 2000000 in
theorem ijudge (e : En) (i : Int) (hf : EnFit e) (hz : Nones e.b) (w : World) (hp : EnRows w e) :
  Calls Try.prog 16 #[.agg #[.slice e.b.va e.b.vs.length e.b.vc, .slice e.b.pa e.b.ps.length e.b.pc, .slice e.b.qa e.b.qs.length e.b.qc, .int .i64 e.b.cs, .int .i64 e.b.nx, .slice e.oa e.os.length e.oc], .int .i64 i] w fun ex w' => ex = .returned (.int .i64 (judgeB e i)) ∧ Below w.heap.size w w' := by
 have BA0 : Hid (Bx (w.alloc (.cells #[.slice e.b.va e.b.vs.length e.b.vc, .slice e.b.pa e.b.ps.length e.b.pc, .slice e.b.qa e.b.qs.length e.b.qc, .int .i64 e.b.cs, .int .i64 e.b.nx, .slice e.oa e.os.length e.oc] 27)) w.heap.size [.slice e.b.va e.b.vs.length e.b.vc, .slice e.b.pa e.b.ps.length e.b.pc, .slice e.b.qa e.b.qs.length e.b.qc, .int .i64 e.b.cs, .int .i64 e.b.nx, .slice e.oa e.os.length e.oc]) := Bx.new w [.slice e.b.va e.b.vs.length e.b.vc, .slice e.b.pa e.b.ps.length e.b.pc, .slice e.b.qa e.b.qs.length e.b.qc, .int .i64 e.b.cs, .int .i64 e.b.nx, .slice e.oa e.os.length e.oc] 27
 have HB0 : Hid (Below w.heap.size w (w.alloc (.cells #[.slice e.b.va e.b.vs.length e.b.vc, .slice e.b.pa e.b.ps.length e.b.pc, .slice e.b.qa e.b.qs.length e.b.qc, .int .i64 e.b.cs, .int .i64 e.b.nx, .slice e.oa e.os.length e.oc] 27))) := (belowRefl w).alloc (Nat.le_refl _) _
 have HP : Hid (EnRows w e) := hp
 have HF : Hid (EnFit e) := hf
 have HZ : Hid (Nones e.b) := hz
 have hol : e.os.length ≤ 10000000 := Nat.le_trans hf.ol (by omega)
 clear hp hf hz
 have CO : Hid (∀ W : World, Below w.heap.size w W → Calls Try.prog 14 #[.agg #[.slice e.b.va e.b.vs.length e.b.vc, .slice e.b.pa e.b.ps.length e.b.pc, .slice e.b.qa e.b.qs.length e.b.qc, .int .i64 e.b.cs, .int .i64 e.b.nx, .slice e.oa e.os.length e.oc], .int .i64 i] W fun ex w' => ex = .returned (.int .i64 (idxZ (ids e.os) i 0)) ∧ Below W.heap.size W w') := fun W h => iopenat e i hol W (HP.out.below h).o
 unfold judgeB
 rcases idxz_lt (ids e.os) i 0 with hi | ⟨k, hi, _, hk⟩
 ·rw [hi] at CO ⊢
  go_enter Try.func16, Try.ntmps16
  have x0 := BA0.out.c0
  have x1 := BA0.out.c1
  have x2 := BA0.out.c2
  have x3 := BA0.out.c3
  have x4 := BA0.out.c4
  have x5 := BA0.out.c5
  go_wp2_with fail
  refine (CO.out _ HB0.out).mono ?_
  rintro ex w1 ⟨rfl, hb⟩
  have HB1 : Hid (Below w.heap.size w w1) := HB0.out.trans (hb.mono HB0.out.size)
  clear hb
  go_wp2
  go_ret
  exact ⟨rfl, HB1.out⟩
 ·rw [hi] at CO ⊢
  have hk : k < e.os.length := by rw [ids_len] at hk; omega
  have ht : (txs e.os)[((k : Int)).toNat]? = some e.os[k].t := by
   rw [Int.toNat_natCast, List.getElem?_eq_getElem (by rw [txs_len]; exact hk)]
   simp [txs]
  rw [if_neg (by omega), ht]
  show Calls Try.prog 16 _ w fun ex w' => ex = .returned (.int .i64 (jdB e.b e.os[k].t)) ∧ _
  have hk0 : (0 : Int) ≤ (k : Int) := by omega
  have hkn : ¬ (k : Int) < 0 := by omega
  have hlt' : (k : Int) < (e.os.length : Int) := by omega
  have FT : Hid (TFit e.os[k].t) := HF.out.o.2 _ (List.mem_map.2 ⟨_, List.getElem_mem hk, rfl⟩)
  have CJ : Hid (∀ W : World, Below w.heap.size w W → Calls Try.prog 35 #[.agg #[.slice e.b.va e.b.vs.length e.b.vc, .slice e.b.pa e.b.ps.length e.b.pc, .slice e.b.qa e.b.qs.length e.b.qc, .int .i64 e.b.cs, .int .i64 e.b.nx], .agg #[.int .i64 e.os[k].t.id, .int .i64 e.os[k].t.st, .int .i64 e.os[k].t.snap, .int .i64 e.os[k].t.cs, .slice e.os[k].ra e.os[k].t.rs.length e.os[k].rc, .slice e.os[k].wa e.os[k].t.ws.length e.os[k].wc, .bool e.os[k].t.out, .string e.os[k].t.nm]] W fun ex w' => ex = .returned (.int .i64 (jdB e.b e.os[k].t)) ∧ Below W.heap.size W w') := fun W h => ijudged e.b e.os[k].t e.os[k].ra e.os[k].wa e.os[k].rc e.os[k].wc HF.out.b FT.out HZ.out W (HP.out.below h).b ((HP.out.below h).o.each _ (List.getElem_mem hk))
  obtain ⟨x, hx⟩ : ∃ x, x = e.os[k] := ⟨_, rfl⟩
  rw [← hx] at CJ ⊢
  generalize jdB e.b x.t = r at *
  have HX := hide hx
  clear hx FT
  go_enter Try.func16, Try.ntmps16
  have x0 := BA0.out.c0
  have x1 := BA0.out.c1
  have x2 := BA0.out.c2
  have x3 := BA0.out.c3
  have x4 := BA0.out.c4
  have x5 := BA0.out.c5
  go_wp2_with fail
  refine (CO.out _ HB0.out).mono ?_
  rintro ex w1 ⟨rfl, hb⟩
  have HB1 : Hid (Below w.heap.size w w1) := HB0.out.trans (hb.mono HB0.out.size)
  have BA1 : Hid (Bx w1 w.heap.size [.slice e.b.va e.b.vs.length e.b.vc, .slice e.b.pa e.b.ps.length e.b.pc, .slice e.b.qa e.b.qs.length e.b.qc, .int .i64 e.b.cs, .int .i64 e.b.nx, .slice e.oa e.os.length e.oc]) := BA0.out.below hb
  have HR : Hid (EnRows w1 e) := HP.out.below HB1.out
  clear hb HB0 BA0 ht
  obtain ⟨b0, o, ha, hbl, hc, -⟩ := HR.out.o.cls k hk
  rw [← HX.out] at hc
  have HA := hide ha
  have y0 := hc.c0
  have y1 := hc.c1
  have y2 := hc.c2
  have y3 := hc.c3
  have y4 := hc.c4
  have y5 := hc.c5
  have y6 := hc.c6
  have y7 := hc.c7
  have z5 := BA1.out.c5
  rw [ha] at z5
  clear hc hbl
  have SS : Hid (w1.cell? ⟨w.heap.size, 0, none⟩ = some (.slice e.b.va e.b.vs.length e.b.vc) ∧ w1.cell? ⟨w.heap.size, 1, none⟩ = some (.slice e.b.pa e.b.ps.length e.b.pc) ∧ w1.cell? ⟨w.heap.size, 2, none⟩ = some (.slice e.b.qa e.b.qs.length e.b.qc) ∧ w1.cell? ⟨w.heap.size, 3, none⟩ = some (.int .i64 e.b.cs) ∧ w1.cell? ⟨w.heap.size, 4, none⟩ = some (.int .i64 e.b.nx) ∧ w1.cell? ⟨w.heap.size, 5, none⟩ = some (.slice (some ⟨b0, o, none⟩) e.os.length e.oc) ∧ w1.cell? ⟨b0, o + k * 8, none⟩ = some (.int .i64 x.t.id) ∧ w1.cell? ⟨b0, o + k * 8 + 1, none⟩ = some (.int .i64 x.t.st) ∧ w1.cell? ⟨b0, o + k * 8 + 2, none⟩ = some (.int .i64 x.t.snap) ∧ w1.cell? ⟨b0, o + k * 8 + 3, none⟩ = some (.int .i64 x.t.cs) ∧ w1.cell? ⟨b0, o + k * 8 + 4, none⟩ = some (.slice x.ra x.t.rs.length x.rc) ∧ w1.cell? ⟨b0, o + k * 8 + 5, none⟩ = some (.slice x.wa x.t.ws.length x.wc) ∧ w1.cell? ⟨b0, o + k * 8 + 6, none⟩ = some (.bool x.t.out) ∧ w1.cell? ⟨b0, o + k * 8 + 7, none⟩ = some (.string x.t.nm)) := ⟨BA1.out.c0, BA1.out.c1, BA1.out.c2, BA1.out.c3, BA1.out.c4, z5, y0, y1, y2, y3, y4, y5, y6, y7⟩
  clear z5 y0 y1 y2 y3 y4 y5 y6 y7
  go_upto_region 4 with fail
  refine wp_region_held_drew (S := fun w' => w'.cell? ⟨w.heap.size, 0, none⟩ = some (.slice e.b.va e.b.vs.length e.b.vc) ∧ w'.cell? ⟨w.heap.size, 1, none⟩ = some (.slice e.b.pa e.b.ps.length e.b.pc) ∧ w'.cell? ⟨w.heap.size, 2, none⟩ = some (.slice e.b.qa e.b.qs.length e.b.qc) ∧ w'.cell? ⟨w.heap.size, 3, none⟩ = some (.int .i64 e.b.cs) ∧ w'.cell? ⟨w.heap.size, 4, none⟩ = some (.int .i64 e.b.nx) ∧ w'.cell? ⟨w.heap.size, 5, none⟩ = some (.slice (some ⟨b0, o, none⟩) e.os.length e.oc) ∧ w'.cell? ⟨b0, o + k * 8, none⟩ = some (.int .i64 x.t.id) ∧ w'.cell? ⟨b0, o + k * 8 + 1, none⟩ = some (.int .i64 x.t.st) ∧ w'.cell? ⟨b0, o + k * 8 + 2, none⟩ = some (.int .i64 x.t.snap) ∧ w'.cell? ⟨b0, o + k * 8 + 3, none⟩ = some (.int .i64 x.t.cs) ∧ w'.cell? ⟨b0, o + k * 8 + 4, none⟩ = some (.slice x.ra x.t.rs.length x.rc) ∧ w'.cell? ⟨b0, o + k * 8 + 5, none⟩ = some (.slice x.wa x.t.ws.length x.wc) ∧ w'.cell? ⟨b0, o + k * 8 + 6, none⟩ = some (.bool x.t.out) ∧ w'.cell? ⟨b0, o + k * 8 + 7, none⟩ = some (.string x.t.nm)) (by kernel_rfl) SS.out (fun hHeld => ?_)
  (refine wpAnyH_take (i := 0) (v := ?_) rfl (by kernel_rfl) (by kernel_rfl) (by kernel_rfl) (fun _ _ _ h => h) (Or.inl ⟨by rfl, ?_⟩) (by assumption) ?_; rotate_left; (focus (intro w hSw; (try dsimp only at hSw); go_simp; (try with_reducible rfl); done)); simp only [Act.put, List.getElem_toArray, List.getElem_cons_zero, List.setIfInBounds_toArray, List.set_cons_zero, List.set_cons_succ])
  (refine wpAnyH_take (i := 1) (v := ?_) rfl (by kernel_rfl) (by kernel_rfl) (by kernel_rfl) (fun _ _ _ h => h) (Or.inl ⟨by rfl, ?_⟩) (by assumption) ?_; rotate_left; (focus (intro w hSw; (try dsimp only at hSw); go_simp; (try with_reducible rfl); done)); simp only [Act.put, List.getElem_toArray, List.getElem_cons_zero, List.getElem_cons_succ, List.setIfInBounds_toArray, List.set_cons_zero, List.set_cons_succ])
  (refine wpAnyH_take (i := 2) (v := ?_) rfl (by kernel_rfl) (by kernel_rfl) (by kernel_rfl) (fun _ _ _ h => h) (Or.inl ⟨by rfl, ?_⟩) (by assumption) ?_; rotate_left; (focus (intro w hSw; (try dsimp only at hSw); go_simp; (try with_reducible rfl); done)); simp only [Act.put, List.getElem_toArray, List.getElem_cons_zero, List.getElem_cons_succ, List.setIfInBounds_toArray, List.set_cons_zero, List.set_cons_succ])
  (refine wpAnyH_take (i := 3) (v := ?_) rfl (by kernel_rfl) (by kernel_rfl) (by kernel_rfl) (fun _ _ _ h => h) (Or.inl ⟨by rfl, ?_⟩) (by assumption) ?_; rotate_left; (focus (intro w hSw; (try dsimp only at hSw); go_simp; (try with_reducible rfl); done)); simp only [Act.put, List.getElem_toArray, List.getElem_cons_zero, List.getElem_cons_succ, List.setIfInBounds_toArray, List.set_cons_zero, List.set_cons_succ])
  (refine wpAnyH_take (i := 4) (v := ?_) rfl (by kernel_rfl) (by kernel_rfl) (by kernel_rfl) (fun _ _ _ h => h) (Or.inl ⟨by rfl, ?_⟩) (by assumption) ?_; rotate_left; (focus (intro w hSw; (try dsimp only at hSw); go_simp; (try with_reducible rfl); done)); simp only [Act.put, List.getElem_toArray, List.getElem_cons_zero, List.getElem_cons_succ, List.setIfInBounds_toArray, List.set_cons_zero, List.set_cons_succ])
  (refine wpAnyH_take (i := 5) (v := ?_) rfl (by kernel_rfl) (by kernel_rfl) (by kernel_rfl) (fun _ _ _ h => h) (Or.inl ⟨by rfl, ?_⟩) (by assumption) ?_; rotate_left; (focus (intro w hSw; (try dsimp only at hSw); go_simp; (try with_reducible rfl); done)); simp only [Act.put, List.getElem_toArray, List.getElem_cons_zero, List.getElem_cons_succ, List.setIfInBounds_toArray, List.set_cons_zero, List.set_cons_succ])
  (refine wpAnyH_take (i := 6) (v := ?_) rfl (by kernel_rfl) (by kernel_rfl) (by kernel_rfl) (fun _ _ _ h => h) (Or.inl ⟨by rfl, ?_⟩) (by assumption) ?_; rotate_left; (focus (intro w hSw; (try dsimp only at hSw); go_simp; (try with_reducible rfl); done)); simp only [Act.put, List.getElem_toArray, List.getElem_cons_zero, List.getElem_cons_succ, List.setIfInBounds_toArray, List.set_cons_zero, List.set_cons_succ])
  refine wpAnyH_ready (rs := [7]) (by kernel_rfl) (by simp) ?_
  refine AllReadyH.cons rfl (fun K hK => ?_) AllReadyH.nil
  go_simp
  go_wp2_with fail
  refine (CJ.out _ HB1.out.drew).mono ?_
  rintro ex w2 ⟨rfl, hb⟩
  have hbu := undrew hb
  have HB2 : Hid (Below w.heap.size w w2) := HB1.out.trans (hbu.mono HB1.out.size)
  have BA2 : Hid (Bx w2 w.heap.size [.slice e.b.va e.b.vs.length e.b.vc, .slice e.b.pa e.b.ps.length e.b.pc, .slice e.b.qa e.b.qs.length e.b.qc, .int .i64 e.b.cs, .int .i64 e.b.nx, .slice e.oa e.os.length e.oc]) := BA1.out.below hbu
  obtain ⟨b1, o1, ha1, _, hc1, -⟩ := (HR.out.below hbu).o.cls k hk
  rw [HA.out] at ha1
  cases ha1
  rw [← HX.out] at hc1
  have q5 := BA2.out.c5
  rw [HA.out] at q5
  have SS2 : Hid (w2.cell? ⟨w.heap.size, 0, none⟩ = some (.slice e.b.va e.b.vs.length e.b.vc) ∧ w2.cell? ⟨w.heap.size, 1, none⟩ = some (.slice e.b.pa e.b.ps.length e.b.pc) ∧ w2.cell? ⟨w.heap.size, 2, none⟩ = some (.slice e.b.qa e.b.qs.length e.b.qc) ∧ w2.cell? ⟨w.heap.size, 3, none⟩ = some (.int .i64 e.b.cs) ∧ w2.cell? ⟨w.heap.size, 4, none⟩ = some (.int .i64 e.b.nx) ∧ w2.cell? ⟨w.heap.size, 5, none⟩ = some (.slice (some ⟨b0, o, none⟩) e.os.length e.oc) ∧ w2.cell? ⟨b0, o + k * 8, none⟩ = some (.int .i64 x.t.id) ∧ w2.cell? ⟨b0, o + k * 8 + 1, none⟩ = some (.int .i64 x.t.st) ∧ w2.cell? ⟨b0, o + k * 8 + 2, none⟩ = some (.int .i64 x.t.snap) ∧ w2.cell? ⟨b0, o + k * 8 + 3, none⟩ = some (.int .i64 x.t.cs) ∧ w2.cell? ⟨b0, o + k * 8 + 4, none⟩ = some (.slice x.ra x.t.rs.length x.rc) ∧ w2.cell? ⟨b0, o + k * 8 + 5, none⟩ = some (.slice x.wa x.t.ws.length x.wc) ∧ w2.cell? ⟨b0, o + k * 8 + 6, none⟩ = some (.bool x.t.out) ∧ w2.cell? ⟨b0, o + k * 8 + 7, none⟩ = some (.string x.t.nm)) := ⟨BA2.out.c0, BA2.out.c1, BA2.out.c2, BA2.out.c3, BA2.out.c4, q5, hc1.c0, hc1.c1, hc1.c2, hc1.c3, hc1.c4, hc1.c5, hc1.c6, hc1.c7⟩
  clear hc1 q5
  go_wp2_with fail
  refine hK.out _ _ SS2.out (fun hHeld2 => ?_)
  clear hK K
  (refine wpAnyH_take (i := 8) (v := ?_) rfl (by kernel_rfl) (by kernel_rfl) (by kernel_rfl) (fun _ _ _ h => h) (Or.inl ⟨by rfl, ?_⟩) (by assumption) ?_; rotate_left; (focus (intro w hSw; (try dsimp only at hSw); go_simp; (try with_reducible rfl); done)); simp only [Act.put, List.getElem_toArray, List.getElem_cons_zero, List.getElem_cons_succ, List.setIfInBounds_toArray, List.set_cons_zero, List.set_cons_succ])
  refine wpAnyH_done (by kernel_rfl) ?_ _
  go_wp2
  go_ret
  exact ⟨rfl, HB2.out⟩
set_option maxRecDepth 100000 in
set_option maxHeartbeats 2000000 in
theorem sjudge (e : En) (i : Int) (hf : EnFit e) (hz : Nones e.b) (w : World) (hp : EnRows w e) :
  Calls Try.prog 15 #[.agg #[.slice e.b.va e.b.vs.length e.b.vc, .slice e.b.pa e.b.ps.length e.b.pc, .slice e.b.qa e.b.qs.length e.b.qc, .int .i64 e.b.cs, .int .i64 e.b.nx, .slice e.oa e.os.length e.oc], .int .i64 i] w fun ex w' => ex = .returned (.int .i64 (judgeB e i)) ∧ Below w.heap.size w w' := by
 have BA0 : Hid (Bx (w.alloc (.cells #[.slice e.b.va e.b.vs.length e.b.vc, .slice e.b.pa e.b.ps.length e.b.pc, .slice e.b.qa e.b.qs.length e.b.qc, .int .i64 e.b.cs, .int .i64 e.b.nx, .slice e.oa e.os.length e.oc] 27)) w.heap.size [.slice e.b.va e.b.vs.length e.b.vc, .slice e.b.pa e.b.ps.length e.b.pc, .slice e.b.qa e.b.qs.length e.b.qc, .int .i64 e.b.cs, .int .i64 e.b.nx, .slice e.oa e.os.length e.oc]) := Bx.new w [.slice e.b.va e.b.vs.length e.b.vc, .slice e.b.pa e.b.ps.length e.b.pc, .slice e.b.qa e.b.qs.length e.b.qc, .int .i64 e.b.cs, .int .i64 e.b.nx, .slice e.oa e.os.length e.oc] 27
 have HB0 : Hid (Below w.heap.size w (w.alloc (.cells #[.slice e.b.va e.b.vs.length e.b.vc, .slice e.b.pa e.b.ps.length e.b.pc, .slice e.b.qa e.b.qs.length e.b.qc, .int .i64 e.b.cs, .int .i64 e.b.nx, .slice e.oa e.os.length e.oc] 27))) := (belowRefl w).alloc (Nat.le_refl _) _
 have HP : Hid (EnRows w e) := hp
 have HF : Hid (EnFit e) := hf
 have HZ : Hid (Nones e.b) := hz
 have hol : e.os.length ≤ 10000000 := Nat.le_trans hf.ol (by omega)
 clear hp hf hz
 have CO : Hid (∀ W : World, Below w.heap.size w W → Calls Try.prog 12 #[.agg #[.slice e.b.va e.b.vs.length e.b.vc, .slice e.b.pa e.b.ps.length e.b.pc, .slice e.b.qa e.b.qs.length e.b.qc, .int .i64 e.b.cs, .int .i64 e.b.nx, .slice e.oa e.os.length e.oc], .int .i64 i] W fun ex w' => ex = .returned (.int .i64 (idxZ (ids e.os) i 0)) ∧ Below W.heap.size W w') := fun W h => sopenat e i hol W (HP.out.below h).o
 unfold judgeB
 rcases idxz_lt (ids e.os) i 0 with hi | ⟨k, hi, _, hk⟩
 ·rw [hi] at CO ⊢
  go_enter Try.func15, Try.ntmps15
  have z0 := BA0.out.c0
  have z1 := BA0.out.c1
  have z2 := BA0.out.c2
  have z3 := BA0.out.c3
  have z4 := BA0.out.c4
  have z5 := BA0.out.c5
  go_wp2_with fail
  refine (CO.out _ HB0.out).mono ?_
  rintro ex w1 ⟨rfl, hb⟩
  have HB1 : Hid (Below w.heap.size w w1) := HB0.out.trans (hb.mono HB0.out.size)
  clear hb
  go_wp2
  go_ret
  exact ⟨rfl, HB1.out⟩
 ·rw [hi] at CO ⊢
  have hk : k < e.os.length := by rw [ids_len] at hk; omega
  have ht : (txs e.os)[((k : Int)).toNat]? = some e.os[k].t := by
   rw [Int.toNat_natCast, List.getElem?_eq_getElem (by rw [txs_len]; exact hk)]
   simp [txs]
  rw [if_neg (by omega), ht]
  show Calls Try.prog 15 _ w fun ex w' => ex = .returned (.int .i64 (jdB e.b e.os[k].t)) ∧ _
  have hk0 : (0 : Int) ≤ (k : Int) := by omega
  have hkn : ¬ (k : Int) < 0 := by omega
  have hlt' : (k : Int) < (e.os.length : Int) := by omega
  have hlen : (e.b.ps ++ e.b.qs).length ≤ 10000000 := by rw [List.length_append]; have := HF.out.b.pl; have := HF.out.b.ql; omega
  have FT : Hid (TFit e.os[k].t) := HF.out.o.2 _ (List.mem_map.2 ⟨_, List.getElem_mem hk, rfl⟩)
  have EA : Hid (txs (e.b.ps ++ e.b.qs) = allT e.b) := txs_app _ _
  have CA : Hid (∀ W : World, Below w.heap.size w W → Calls Try.prog 31 #[.agg #[.slice e.b.va e.b.vs.length e.b.vc, .slice e.b.pa e.b.ps.length e.b.pc, .slice e.b.qa e.b.qs.length e.b.qc, .int .i64 e.b.cs, .int .i64 e.b.nx]] W fun ex w' => ∃ (a1 : Option Addr) (c1 n1 : Nat), ex = .returned (.slice a1 n1 c1) ∧ n1 = (e.b.ps ++ e.b.qs).length ∧ GRow encT w' a1 (e.b.ps ++ e.b.qs) ∧ Below W.heap.size W w') := fun W h => sall e.b HF.out.b HZ.out W (HP.out.below h).b
  have CB : Hid (∀ (W : World) (a1 : Option Addr) (c1 n1 : Nat), n1 = (e.b.ps ++ e.b.qs).length → Below w.heap.size w W → GRow encT W a1 (e.b.ps ++ e.b.qs) → Calls Try.prog 32 #[.agg #[.int .i64 e.os[k].t.id, .int .i64 e.os[k].t.st, .int .i64 e.os[k].t.snap, .int .i64 e.os[k].t.cs, .slice e.os[k].ra e.os[k].t.rs.length e.os[k].rc, .slice e.os[k].wa e.os[k].t.ws.length e.os[k].wc, .bool e.os[k].t.out, .string e.os[k].t.nm], .slice a1 n1 c1] W fun ex w' => ex = .returned (.bool (blockedB e.os[k].t (allT e.b))) ∧ Below W.heap.size W w') := fun W a1 c1 n1 h1 h2 h3 => by
   have h := sblocked e.os[k].t e.os[k].ra e.os[k].wa e.os[k].rc e.os[k].wc (e.b.ps ++ e.b.qs) a1 c1 n1 h1 (by omega) FT.out (all_fit HF.out.b) W ((HP.out.below h2).o.each _ (List.getElem_mem hk)) ⟨h3, all_each (HP.out.below h2).b⟩
   rwa [EA.out] at h
  have CD : Hid (∀ (W : World) (a1 : Option Addr) (c1 n1 : Nat), n1 = (e.b.ps ++ e.b.qs).length → Below w.heap.size w W → GRow encT W a1 (e.b.ps ++ e.b.qs) → Calls Try.prog 33 #[.agg #[.int .i64 e.os[k].t.id, .int .i64 e.os[k].t.st, .int .i64 e.os[k].t.snap, .int .i64 e.os[k].t.cs, .slice e.os[k].ra e.os[k].t.rs.length e.os[k].rc, .slice e.os[k].wa e.os[k].t.ws.length e.os[k].wc, .bool e.os[k].t.out, .string e.os[k].t.nm], .slice a1 n1 c1] W fun ex w' => ex = .returned (.bool (dangerB e.os[k].t (allT e.b))) ∧ Below W.heap.size W w') := fun W a1 c1 n1 h1 h2 h3 => by
   have h := sdanger e.os[k].t e.os[k].ra e.os[k].wa e.os[k].rc e.os[k].wc (e.b.ps ++ e.b.qs) a1 c1 n1 h1 (by omega) FT.out (all_fit HF.out.b) W ((HP.out.below h2).o.each _ (List.getElem_mem hk)) ⟨h3, all_each (HP.out.below h2).b⟩
   rwa [EA.out] at h
  have CU : Hid (∀ W : World, Calls Try.prog 34 #[.agg #[.slice e.b.va e.b.vs.length e.b.vc, .slice e.b.pa e.b.ps.length e.b.pc, .slice e.b.qa e.b.qs.length e.b.qc, .int .i64 e.b.cs, .int .i64 e.b.nx]] W fun ex w' => ex = .returned (.bool (fullB e.b)) ∧ Below W.heap.size W w') := fun W => sfull e.b W
  unfold jdB
  generalize blockedB e.os[k].t (allT e.b) = r1 at *
  generalize dangerB e.os[k].t (allT e.b) = r2 at *
  generalize fullB e.b = r3 at *
  obtain ⟨zs, hzs⟩ : ∃ zs, zs = e.b.ps ++ e.b.qs := ⟨_, rfl⟩
  rw [← hzs] at CA CB CD hlen
  obtain ⟨x, hx⟩ : ∃ x, x = e.os[k] := ⟨_, rfl⟩
  rw [← hx] at CB CD
  have HX := hide hx
  clear hzs hx EA FT ht
  go_enter Try.func15, Try.ntmps15
  have z0 := BA0.out.c0
  have z1 := BA0.out.c1
  have z2 := BA0.out.c2
  have z3 := BA0.out.c3
  have z4 := BA0.out.c4
  have z5 := BA0.out.c5
  go_wp2_with fail
  refine (CO.out _ HB0.out).mono ?_
  rintro ex w1 ⟨rfl, hb⟩
  have HB1 : Hid (Below w.heap.size w w1) := HB0.out.trans (hb.mono HB0.out.size)
  have BA1 : Hid (Bx w1 w.heap.size [.slice e.b.va e.b.vs.length e.b.vc, .slice e.b.pa e.b.ps.length e.b.pc, .slice e.b.qa e.b.qs.length e.b.qc, .int .i64 e.b.cs, .int .i64 e.b.nx, .slice e.oa e.os.length e.oc]) := BA0.out.below hb
  clear hb HB0 BA0
  clear z0 z1 z2 z3 z4 z5
  have z0 := BA1.out.c0
  have z1 := BA1.out.c1
  have z2 := BA1.out.c2
  have z3 := BA1.out.c3
  have z4 := BA1.out.c4
  have z5 := BA1.out.c5
  go_wp2_with fail
  refine (CA.out _ HB1.out).mono ?_
  rintro ex w2 ⟨a1, c1, n1, rfl, hn1, ho, hb⟩
  have HN1 := hide hn1
  have RZ : Hid (GRow encT w2 a1 zs) := ho
  have HB2 : Hid (Below w.heap.size w w2) := HB1.out.trans (hb.mono HB1.out.size)
  have BA2 : Hid (Bx w2 w.heap.size [.slice e.b.va e.b.vs.length e.b.vc, .slice e.b.pa e.b.ps.length e.b.pc, .slice e.b.qa e.b.qs.length e.b.qc, .int .i64 e.b.cs, .int .i64 e.b.nx, .slice e.oa e.os.length e.oc]) := BA1.out.below hb
  have HR : Hid (EnRows w2 e) := HP.out.below HB2.out
  clear hb hn1 ho HB1 BA1
  clear z0 z1 z2 z3 z4 z5
  have z0 := BA2.out.c0
  have z1 := BA2.out.c1
  have z2 := BA2.out.c2
  have z3 := BA2.out.c3
  have z4 := BA2.out.c4
  have z5 := BA2.out.c5
  obtain ⟨b0, o, ha, hbl, hc, -⟩ := HR.out.o.cls k hk
  rw [← HX.out] at hc
  have y0 := hc.c0
  have y1 := hc.c1
  have y2 := hc.c2
  have y3 := hc.c3
  have y4 := hc.c4
  have y5 := hc.c5
  have y6 := hc.c6
  have y7 := hc.c7
  rw [ha] at z5
  clear hc hbl
  go_wp2_with fail
  refine (CB.out _ a1 c1 n1 HN1.out HB2.out RZ.out).mono ?_
  rintro ex w3 ⟨rfl, hb⟩
  replace RZ : Hid (GRow encT w3 a1 zs) := RZ.out.below hb
  have HB3 : Hid (Below w.heap.size w w3) := HB2.out.trans (hb.mono HB2.out.size)
  have BA3 : Hid (Bx w3 w.heap.size [.slice e.b.va e.b.vs.length e.b.vc, .slice e.b.pa e.b.ps.length e.b.pc, .slice e.b.qa e.b.qs.length e.b.qc, .int .i64 e.b.cs, .int .i64 e.b.nx, .slice e.oa e.os.length e.oc]) := BA2.out.below hb
  replace HR : Hid (EnRows w3 e) := HR.out.below hb
  clear hb HB2 BA2 y0 y1 y2 y3 y4 y5 y6 y7
  clear z0 z1 z2 z3 z4 z5
  cases r1
  rotate_left
  ·go_wp2
   go_ret
   exact ⟨rfl, HB3.out⟩
  have z0 := BA3.out.c0
  have z1 := BA3.out.c1
  have z2 := BA3.out.c2
  have z3 := BA3.out.c3
  have z4 := BA3.out.c4
  have z5 := BA3.out.c5
  clear ha
  obtain ⟨b0, o, ha, hbl, hc, -⟩ := HR.out.o.cls k hk
  rw [← HX.out] at hc
  have y0 := hc.c0
  have y1 := hc.c1
  have y2 := hc.c2
  have y3 := hc.c3
  have y4 := hc.c4
  have y5 := hc.c5
  have y6 := hc.c6
  have y7 := hc.c7
  rw [ha] at z5
  clear hc hbl
  go_wp2_with fail
  refine (CD.out _ a1 c1 n1 HN1.out HB3.out RZ.out).mono ?_
  rintro ex w4 ⟨rfl, hb⟩
  have HB4 : Hid (Below w.heap.size w w4) := HB3.out.trans (hb.mono HB3.out.size)
  have BA4 : Hid (Bx w4 w.heap.size [.slice e.b.va e.b.vs.length e.b.vc, .slice e.b.pa e.b.ps.length e.b.pc, .slice e.b.qa e.b.qs.length e.b.qc, .int .i64 e.b.cs, .int .i64 e.b.nx, .slice e.oa e.os.length e.oc]) := BA3.out.below hb
  clear hb HB3 BA3 y0 y1 y2 y3 y4 y5 y6 y7 RZ HR
  clear z0 z1 z2 z3 z4 z5
  cases r2
  rotate_left
  ·go_wp2
   go_ret
   exact ⟨rfl, HB4.out⟩
  have z0 := BA4.out.c0
  have z1 := BA4.out.c1
  have z2 := BA4.out.c2
  have z3 := BA4.out.c3
  have z4 := BA4.out.c4
  have z5 := BA4.out.c5
  go_wp2_with fail
  refine (CU.out _).mono ?_
  rintro ex w5 ⟨rfl, hb⟩
  have HB5 : Hid (Below w.heap.size w w5) := HB4.out.trans (hb.mono HB4.out.size)
  clear hb HB4 BA4
  clear z0 z1 z2 z3 z4 z5
  cases r3
  ·go_wp2
   go_ret
   exact ⟨rfl, HB5.out⟩
  ·go_wp2
   go_ret
   exact ⟨rfl, HB5.out⟩

end Go.Proofs.Ytjeicgibddfifaa

/- Finish by the document. -/
import Derived.Test.YtmijppfppigjcaaGreatPd01
import Derived.Test.YtmijppfppigjcaaGreatPd31
import Derived.Test.YtmijppfppigjcaaGreatPd36
namespace Go.Proofs.YtmijppfppigjcaaGreat
open Go.RowKit
open KM
open VM
attribute [local go_sem ↓] Go.wp_at_zero Go.wp_at_succ

set_option maxRecDepth 100000 in
set_option maxHeartbeats 8000000 in
theorem sfinishA (e : En) (hf : EnFit e) (nm : ByteArray) (hin : nm ∈ nms e.b.qs) (lo hi : Nat) (w : World) (hp : EnLie w lo hi e) :
  Calls Tryz.prog 13 #[.agg #[.slice e.b.va e.b.vs.length e.b.vc, .slice e.b.pa e.b.ps.length e.b.pc, .slice e.b.qa e.b.qs.length e.b.qc, .int .i64 e.b.cs, .int .i64 e.b.nx, .slice e.oa e.os.length e.oc], .string nm, .bool true] w fun ex w' => AnsF ex ∧ Below w.heap.size w w' := by
 have HP : Hid (EnLie w lo hi e) := hp
 have HF : Hid (EnFit e) := hf
 have hql := hf.b.ql
 obtain ⟨i, hi_, hat⟩ := at_name e.b.qs hin
 have HAT := hide hat
 have BE : Hid (Bx (((w.alloc (.cells #[.slice e.b.va e.b.vs.length e.b.vc, .slice e.b.pa e.b.ps.length e.b.pc, .slice e.b.qa e.b.qs.length e.b.qc, .int .i64 e.b.cs, .int .i64 e.b.nx, .slice e.oa e.os.length e.oc] 44)).alloc (.cells #[.slice none 0 0, .slice none 0 0, .slice none 0 0, .int .i64 0, .int .i64 0, .slice none 0 0] 44)).alloc (.cells #[.int .i64 0, .int .i64 0, .int .i64 0, .int .i64 0, .int .i64 0, .slice none 0 0, .slice none 0 0, .bool false, .string ⟨#[]⟩, .string ⟨#[]⟩, .bool false, .slice none 0 0, .slice none 0 0, .slice none 0 0, .int .i64 0, .int .i64 0] 64)) w.heap.size [.slice e.b.va e.b.vs.length e.b.vc, .slice e.b.pa e.b.ps.length e.b.pc, .slice e.b.qa e.b.qs.length e.b.qc, .int .i64 e.b.cs, .int .i64 e.b.nx, .slice e.oa e.os.length e.oc]) := ((Bx.new w [.slice e.b.va e.b.vs.length e.b.vc, .slice e.b.pa e.b.ps.length e.b.pc, .slice e.b.qa e.b.qs.length e.b.qc, .int .i64 e.b.cs, .int .i64 e.b.nx, .slice e.oa e.os.length e.oc] 44).alloc _).alloc _
 have BA : Hid (Bx (((w.alloc (.cells #[.slice e.b.va e.b.vs.length e.b.vc, .slice e.b.pa e.b.ps.length e.b.pc, .slice e.b.qa e.b.qs.length e.b.qc, .int .i64 e.b.cs, .int .i64 e.b.nx, .slice e.oa e.os.length e.oc] 44)).alloc (.cells #[.slice none 0 0, .slice none 0 0, .slice none 0 0, .int .i64 0, .int .i64 0, .slice none 0 0] 44)).alloc (.cells #[.int .i64 0, .int .i64 0, .int .i64 0, .int .i64 0, .int .i64 0, .slice none 0 0, .slice none 0 0, .bool false, .string ⟨#[]⟩, .string ⟨#[]⟩, .bool false, .slice none 0 0, .slice none 0 0, .slice none 0 0, .int .i64 0, .int .i64 0] 64)) (w.heap.size + 1) [.slice none 0 0, .slice none 0 0, .slice none 0 0, .int .i64 0, .int .i64 0, .slice none 0 0]) := by
  have h := Bx.new (w.alloc (.cells #[.slice e.b.va e.b.vs.length e.b.vc, .slice e.b.pa e.b.ps.length e.b.pc, .slice e.b.qa e.b.qs.length e.b.qc, .int .i64 e.b.cs, .int .i64 e.b.nx, .slice e.oa e.os.length e.oc] 44)) [.slice none 0 0, .slice none 0 0, .slice none 0 0, .int .i64 0, .int .i64 0, .slice none 0 0] 44
  rw [World.size_alloc] at h
  exact h.alloc _
 have BB : Hid (Bx (((w.alloc (.cells #[.slice e.b.va e.b.vs.length e.b.vc, .slice e.b.pa e.b.ps.length e.b.pc, .slice e.b.qa e.b.qs.length e.b.qc, .int .i64 e.b.cs, .int .i64 e.b.nx, .slice e.oa e.os.length e.oc] 44)).alloc (.cells #[.slice none 0 0, .slice none 0 0, .slice none 0 0, .int .i64 0, .int .i64 0, .slice none 0 0] 44)).alloc (.cells #[.int .i64 0, .int .i64 0, .int .i64 0, .int .i64 0, .int .i64 0, .slice none 0 0, .slice none 0 0, .bool false, .string ⟨#[]⟩, .string ⟨#[]⟩, .bool false, .slice none 0 0, .slice none 0 0, .slice none 0 0, .int .i64 0, .int .i64 0] 64)) (w.heap.size + 1 + 1) [.int .i64 0, .int .i64 0, .int .i64 0, .int .i64 0, .int .i64 0, .slice none 0 0, .slice none 0 0, .bool false, .string ⟨#[]⟩, .string ⟨#[]⟩, .bool false, .slice none 0 0, .slice none 0 0, .slice none 0 0, .int .i64 0, .int .i64 0]) := by
  have h := Bx.new ((w.alloc (.cells #[.slice e.b.va e.b.vs.length e.b.vc, .slice e.b.pa e.b.ps.length e.b.pc, .slice e.b.qa e.b.qs.length e.b.qc, .int .i64 e.b.cs, .int .i64 e.b.nx, .slice e.oa e.os.length e.oc] 44)).alloc (.cells #[.slice none 0 0, .slice none 0 0, .slice none 0 0, .int .i64 0, .int .i64 0, .slice none 0 0] 44)) [.int .i64 0, .int .i64 0, .int .i64 0, .int .i64 0, .int .i64 0, .slice none 0 0, .slice none 0 0, .bool false, .string ⟨#[]⟩, .string ⟨#[]⟩, .bool false, .slice none 0 0, .slice none 0 0, .slice none 0 0, .int .i64 0, .int .i64 0] 64
  rw [World.size_alloc, World.size_alloc] at h
  exact h
 have HB : Hid (Below w.heap.size w (((w.alloc (.cells #[.slice e.b.va e.b.vs.length e.b.vc, .slice e.b.pa e.b.ps.length e.b.pc, .slice e.b.qa e.b.qs.length e.b.qc, .int .i64 e.b.cs, .int .i64 e.b.nx, .slice e.oa e.os.length e.oc] 44)).alloc (.cells #[.slice none 0 0, .slice none 0 0, .slice none 0 0, .int .i64 0, .int .i64 0, .slice none 0 0] 44)).alloc (.cells #[.int .i64 0, .int .i64 0, .int .i64 0, .int .i64 0, .int .i64 0, .slice none 0 0, .slice none 0 0, .bool false, .string ⟨#[]⟩, .string ⟨#[]⟩, .bool false, .slice none 0 0, .slice none 0 0, .slice none 0 0, .int .i64 0, .int .i64 0] 64))) := (((belowRefl w).alloc (Nat.le_refl _) _).alloc (by simp) _).alloc (by simp; omega) _
 clear hp hf hin hat
 go_enter Tryz.func13, Tryz.ntmps13
 go_upto_region 1 with fail
 generalize (((w.alloc (.cells #[.slice e.b.va e.b.vs.length e.b.vc, .slice e.b.pa e.b.ps.length e.b.pc, .slice e.b.qa e.b.qs.length e.b.qc, .int .i64 e.b.cs, .int .i64 e.b.nx, .slice e.oa e.os.length e.oc] 44)).alloc (.cells #[.slice none 0 0, .slice none 0 0, .slice none 0 0, .int .i64 0, .int .i64 0, .slice none 0 0] 44)).alloc (.cells #[.int .i64 0, .int .i64 0, .int .i64 0, .int .i64 0, .int .i64 0, .slice none 0 0, .slice none 0 0, .bool false, .string ⟨#[]⟩, .string ⟨#[]⟩, .bool false, .slice none 0 0, .slice none 0 0, .slice none 0 0, .int .i64 0, .int .i64 0] 64)) = w0 at *
 have x0 := BE.out.c0
 have x1 := BE.out.c1
 have x2 := BE.out.c2
 have x3 := BE.out.c3
 have x4 := BE.out.c4
 have x5 := BE.out.at' 5 (by simp)
 go_wp2_with fail
 refine (scopyE e lo hi HF.out _ (HP.out.below HB.out)).mono ?_
 rintro ex w1 ⟨c, rfl, hsm, hlie, hb1⟩
 have HSM := hide hsm
 have HO : Hid (TRows w1 c.oa c.os) := hlie.rows.o
 replace BE := hide (BE.out.below hb1)
 replace BA := hide (BA.out.below hb1)
 replace BB := hide (BB.out.below hb1)
 replace HB : Hid (Below w.heap.size w w1) := HB.out.trans (hb1.mono HB.out.size)
 clear hsm hlie hb1 x0 x1 x2 x3 x4 x5
 have zb := BB.out.lt
 go_upto_region 2 with fail
 have BO : Hid (Bx (w1.alloc (.cells #[.slice c.b.va c.b.vs.length c.b.vc, .slice c.b.pa c.b.ps.length c.b.pc, .slice c.b.qa c.b.qs.length c.b.qc, .int .i64 c.b.cs, .int .i64 c.b.nx, .slice c.oa c.os.length c.oc] 44)) w1.heap.size [.slice c.b.va c.b.vs.length c.b.vc, .slice c.b.pa c.b.ps.length c.b.pc, .slice c.b.qa c.b.qs.length c.b.qc, .int .i64 c.b.cs, .int .i64 c.b.nx, .slice c.oa c.os.length c.oc]) := Bx.new w1 [.slice c.b.va c.b.vs.length c.b.vc, .slice c.b.pa c.b.ps.length c.b.pc, .slice c.b.qa c.b.qs.length c.b.qc, .int .i64 c.b.cs, .int .i64 c.b.nx, .slice c.oa c.os.length c.oc] 44
 have H1 : Hid (Below w1.heap.size w1 (w1.alloc (.cells #[.slice c.b.va c.b.vs.length c.b.vc, .slice c.b.pa c.b.ps.length c.b.pc, .slice c.b.qa c.b.qs.length c.b.qc, .int .i64 c.b.cs, .int .i64 c.b.nx, .slice c.oa c.os.length c.oc] 44))) := (belowRefl w1).alloc (Nat.le_refl _) _
 generalize (w1.alloc (.cells #[.slice c.b.va c.b.vs.length c.b.vc, .slice c.b.pa c.b.ps.length c.b.pc, .slice c.b.qa c.b.qs.length c.b.qc, .int .i64 c.b.cs, .int .i64 c.b.nx, .slice c.oa c.os.length c.oc] 44)) = w2 at *
 obtain ⟨ob, hob⟩ : ∃ ob, w1.heap.size = ob := ⟨_, rfl⟩
 rw [hob] at BO ⊢
 have HOB := hide hob
 clear hob
 have HW : Hid (∀ W, Below w1.heap.size w1 W → Below w.heap.size w W) := fun W h => HB.out.trans (h.mono HB.out.size)
 have e2 := hide (BE.out.below H1.out)
 have x0 := e2.out.c0
 have x1 := e2.out.c1
 have x2 := e2.out.c2
 have x3 := e2.out.c3
 have x4 := e2.out.c4
 clear e2
 go_wp2_with fail
 refine (sreadyat e.b nm (by omega) _ (HP.out.below (HW.out _ H1.out)).rows.b).mono ?_
 rintro ex w3 ⟨rfl, hb⟩
 rw [HAT.out]
 replace BO := hide (BO.out.below hb)
 replace H1 : Hid (Below w1.heap.size w1 w3) := H1.out.trans (hb.mono H1.out.size)
 clear hb x0 x1 x2 x3 x4
 have hi2 : (i : Int) < (e.b.qs.length : Int) := by omega
 have hi0 : (0 : Int) ≤ (i : Int) := by omega
 have hi3 : ¬ (i : Int) < 0 := by omega
 have e2 := hide (BE.out.below H1.out)
 have x0 := e2.out.c0
 have x1 := e2.out.c1
 have x2 := e2.out.c2
 have x3 := e2.out.c3
 have x4 := e2.out.c4
 clear e2
 go_wp2_with fail
 refine (sfullA e.b _).mono ?_
 rintro ex w4 ⟨⟨o, rfl, ho⟩, hb⟩
 have HOO := hide ho
 replace BO : Hid (Bx w4 ob [.slice c.b.va c.b.vs.length c.b.vc, .slice c.b.pa c.b.ps.length c.b.pc, .slice c.b.qa c.b.qs.length c.b.qc, .int .i64 c.b.cs, .int .i64 c.b.nx, .slice c.oa c.os.length c.oc]) := BO.out.below hb
 replace H1 : Hid (Below w1.heap.size w1 w4) := H1.out.trans (hb.mono H1.out.size)
 clear hb x0 x1 x2 x3 x4 ho hi3
 cases o
 rotate_left
 ·go_upto_region 6 with fail
  have BOz := BO
  have BAz := hide (BA.out.below H1.out)
  have BBz := hide (BB.out.below H1.out)
  have HBz := hide (HW.out _ H1.out)
  clear BO BA BB BE HB H1 HW HO HP HF HOO HSM HOB
  refine wp_region_lit ?_
  refine wpLoadN rfl 44 _ rfl _ Tryz.underlying44 rfl (by kernel_rfl) (by kernel_rfl) BOz.out ?_
  simp only [Act.put, List.setIfInBounds_toArray, List.set_cons_zero, List.set_cons_succ]
  refine wpList_plain rfl fun K hK => ?_
  go_simp
  refine hK _ _ ?_
  clear hK K
  refine wpStoreN #[.slice c.b.va c.b.vs.length c.b.vc, .slice c.b.pa c.b.ps.length c.b.pc, .slice c.b.qa c.b.qs.length c.b.qc, .int .i64 c.b.cs, .int .i64 c.b.nx, .slice c.oa c.os.length c.oc] rfl 44 _ _ rfl (by kernel_rfl) (by kernel_rfl) (by kernel_rfl) BAz.out rfl (one_all rfl) ?_
  intro wa ba za _
  have BBa := hide (BBz.out.zn za (Or.inr (Nat.le_refl _)))
  have HBa : Hid (Below w.heap.size w wa) := HBz.out.trans (za.below (Nat.le_succ _) HBz.out.size)
  refine wpStoreN #[.int .i64 0, .int .i64 0, .int .i64 0, .int .i64 0, .int .i64 0, .slice none 0 0, .slice none 0 0, .bool false, .string ⟨#[]⟩, .string ⟨#[]⟩, .bool false, .slice none 0 0, .slice none 0 0, .slice none 0 0, .int .i64 0, .int .i64 0] rfl 64 _ _ rfl (by kernel_rfl) (by kernel_rfl) (by kernel_rfl) BBa.out rfl (one_all rfl) ?_
  intro wb bb zb _
  have BAb : Hid (Bx wb (w.heap.size + 1) [.slice c.b.va c.b.vs.length c.b.vc, .slice c.b.pa c.b.ps.length c.b.pc, .slice c.b.qa c.b.qs.length c.b.qc, .int .i64 c.b.cs, .int .i64 c.b.nx, .slice c.oa c.os.length c.oc]) := Bx.zn ba zb (Or.inl (Nat.lt_succ_self _))
  have BBb : Hid (Bx wb (w.heap.size + 1 + 1) [.int .i64 0, .int .i64 0, .int .i64 0, .int .i64 0, .int .i64 0, .slice none 0 0, .slice none 0 0, .bool false, .string ⟨#[]⟩, .string ⟨#[]⟩, .bool false, .slice none 0 0, .slice none 0 0, .slice none 0 0, .int .i64 0, .int .i64 0]) := bb
  have HBb : Hid (Below w.heap.size w wb) := HBa.out.trans (zb.below (by omega) HBa.out.size)
  clear ba za bb zb BBa HBa BOz BAz BBz HBz
  go_wp2
  refine bodyPost_ret (results3 rfl rfl rfl BAb.out BBb.out Tryz.underlying44 Tryz.underlying64 rfl rfl (by kernel_rfl) (by kernel_rfl)) rfl ⟨⟨[.slice c.b.va c.b.vs.length c.b.vc, .slice c.b.pa c.b.ps.length c.b.pc, .slice c.b.qa c.b.qs.length c.b.qc, .int .i64 c.b.cs, .int .i64 c.b.nx, .slice c.oa c.os.length c.oc], [.int .i64 0, .int .i64 0, .int .i64 0, .int .i64 0, .int .i64 0, .slice none 0 0, .slice none 0 0, .bool false, .string ⟨#[]⟩, .string ⟨#[]⟩, .bool false, .slice none 0 0, .slice none 0 0, .slice none 0 0, .int .i64 0, .int .i64 0], 3, rfl, Or.inr rfl, rfl, rfl, List.all_eq_true.1 rfl, List.all_eq_true.1 rfl⟩, HBb.out⟩
 have HRM := hide (HOO.out rfl)
 clear HOO
 go_upto_region 8 with fail
 have HPB : Hid (∃ lo hi, Bo w lo hi e.b) := by
  obtain ⟨m, _, _, h1, _⟩ := HP.out.ex
  exact ⟨_, _, h1.bo⟩
 obtain ⟨bl_, bh_, hpb⟩ := HPB.out
 obtain ⟨tp, tq, _, _, htl⟩ := hpb.q.ea _ (List.getElem_mem hi_)
 obtain ⟨bl, ol, hqa, hbl0, hcl, -⟩ := hpb.rows.q.cls i hi_
 have HX : Hid (TFit e.b.qs[i].t) := HF.out.b.q.2 _ (List.mem_map.2 ⟨_, List.getElem_mem hi_, rfl⟩)
 obtain ⟨x, hx⟩ : ∃ x, x = e.b.qs[i] := ⟨_, rfl⟩
 rw [← hx] at hcl htl HX
 have HTL := hide htl
 have HC : Hid (Cls w bl (ol + i * 8) x) := hcl
 have HQA : Hid (e.b.qa = some ⟨bl, ol, none⟩) := hqa
 have HPO := hide hpb
 clear htl hcl hqa hpb hx HPB
 have HS : Hid (∀ W, Below w1.heap.size w1 W → W.cell? ⟨w.heap.size, 0, none⟩ = some (.slice e.b.va e.b.vs.length e.b.vc) ∧ W.cell? ⟨w.heap.size, 1, none⟩ = some (.slice e.b.pa e.b.ps.length e.b.pc) ∧ W.cell? ⟨w.heap.size, 2, none⟩ = some (.slice (some ⟨bl, ol, none⟩) e.b.qs.length e.b.qc) ∧ W.cell? ⟨w.heap.size, 3, none⟩ = some (.int .i64 e.b.cs) ∧ W.cell? ⟨w.heap.size, 4, none⟩ = some (.int .i64 e.b.nx) ∧ W.cell? ⟨bl, ol + i * 8, none⟩ = some (.int .i64 x.t.id) ∧ W.cell? ⟨bl, ol + i * 8 + 1, none⟩ = some (.int .i64 x.t.st) ∧ W.cell? ⟨bl, ol + i * 8 + 2, none⟩ = some (.int .i64 x.t.snap) ∧ W.cell? ⟨bl, ol + i * 8 + 3, none⟩ = some (.int .i64 x.t.cs) ∧ W.cell? ⟨bl, ol + i * 8 + 4, none⟩ = some (.slice x.ra x.t.rs.length x.rc) ∧ W.cell? ⟨bl, ol + i * 8 + 5, none⟩ = some (.slice x.wa x.t.ws.length x.wc) ∧ W.cell? ⟨bl, ol + i * 8 + 6, none⟩ = some (.bool x.t.out) ∧ W.cell? ⟨bl, ol + i * 8 + 7, none⟩ = some (.string x.t.nm)) := fun W h => by
  have hb := BE.out.below h
  rw [HQA.out] at hb
  have hc := HC.out.low (HW.out _ h) hbl0
  exact ⟨hb.c0, hb.c1, hb.c2, hb.c3, hb.c4, hc.c0, hc.c1, hc.c2, hc.c3, hc.c4, hc.c5, hc.c6, hc.c7⟩
 have CT : Hid (∀ W, Below w1.heap.size w1 W → Calls Tryz.prog 29 #[.agg #[.slice e.b.va e.b.vs.length e.b.vc, .slice e.b.pa e.b.ps.length e.b.pc, .slice (some ⟨bl, ol, none⟩) e.b.qs.length e.b.qc, .int .i64 e.b.cs, .int .i64 e.b.nx], .agg #[.int .i64 x.t.id, .int .i64 x.t.st, .int .i64 x.t.snap, .int .i64 x.t.cs, .slice x.ra x.t.rs.length x.rc, .slice x.wa x.t.ws.length x.wc, .bool x.t.out, .string x.t.nm]] W fun e_ w' => ∃ d : Bb, e_ = .returned (.agg #[.slice d.va d.vs.length d.vc, .slice d.pa d.ps.length d.pc, .slice d.qa d.qs.length d.qc, .int .i64 d.cs, .int .i64 d.nx]) ∧ ThrA e.b x.t d ∧ Bo w' W.heap.size w'.heap.size d ∧ Below W.heap.size W w') := fun W h => by
  have k := sthroughA e.b x.t x.ra x.wa x.rc x.wc bl_ bh_ tp tq HF.out.b HX.out W (HPO.out.below (HW.out _ h)) (HTL.out.below (HW.out _ h))
  rw [HQA.out] at k
  exact k
 have HBd : Hid (Below w4.heap.size w4 w4.drew) := (belowRefl w4).drew
 have H1d : Hid (Below w1.heap.size w1 w4.drew) := H1.out.trans (HBd.out.mono H1.out.size)
 refine wp_region_held_drew (S := fun w' => w'.cell? ⟨w.heap.size, 0, none⟩ = some (.slice e.b.va e.b.vs.length e.b.vc) ∧ w'.cell? ⟨w.heap.size, 1, none⟩ = some (.slice e.b.pa e.b.ps.length e.b.pc) ∧ w'.cell? ⟨w.heap.size, 2, none⟩ = some (.slice (some ⟨bl, ol, none⟩) e.b.qs.length e.b.qc) ∧ w'.cell? ⟨w.heap.size, 3, none⟩ = some (.int .i64 e.b.cs) ∧ w'.cell? ⟨w.heap.size, 4, none⟩ = some (.int .i64 e.b.nx) ∧ w'.cell? ⟨bl, ol + i * 8, none⟩ = some (.int .i64 x.t.id) ∧ w'.cell? ⟨bl, ol + i * 8 + 1, none⟩ = some (.int .i64 x.t.st) ∧ w'.cell? ⟨bl, ol + i * 8 + 2, none⟩ = some (.int .i64 x.t.snap) ∧ w'.cell? ⟨bl, ol + i * 8 + 3, none⟩ = some (.int .i64 x.t.cs) ∧ w'.cell? ⟨bl, ol + i * 8 + 4, none⟩ = some (.slice x.ra x.t.rs.length x.rc) ∧ w'.cell? ⟨bl, ol + i * 8 + 5, none⟩ = some (.slice x.wa x.t.ws.length x.wc) ∧ w'.cell? ⟨bl, ol + i * 8 + 6, none⟩ = some (.bool x.t.out) ∧ w'.cell? ⟨bl, ol + i * 8 + 7, none⟩ = some (.string x.t.nm)) (by kernel_rfl) (HS.out _ H1d.out) (fun hHeld => ?_)
 replace BO : Hid (Bx w4.drew ob [.slice c.b.va c.b.vs.length c.b.vc, .slice c.b.pa c.b.ps.length c.b.pc, .slice c.b.qa c.b.qs.length c.b.qc, .int .i64 c.b.cs, .int .i64 c.b.nx, .slice c.oa c.os.length c.oc]) := BO.out.below HBd.out
 clear HBd H1
 generalize w4.drew = wd at *
 (refine ti 0 ?_; simp only [Act.put, tA, tB, tD, tE, tF])
 (refine ti 1 ?_; simp only [Act.put, tA, tB, tC, tD, tE, tF])
 (refine ti 2 ?_; simp only [Act.put, tA, tB, tC, tD, tE, tF])
 (refine ti 3 ?_; simp only [Act.put, tA, tB, tC, tD, tE, tF])
 (refine ti 4 ?_; simp only [Act.put, tA, tB, tC, tD, tE, tF])
 (refine ti 5 ?_; simp only [Act.put, tA, tB, tC, tD, tE, tF])
 (refine ti 6 ?_; simp only [Act.put, tA, tB, tC, tD, tE, tF])
 (refine ti 7 ?_; simp only [Act.put, tA, tB, tC, tD, tE, tF])
 refine wpAnyH_ready (rs := [8]) (by kernel_rfl) (by simp) ?_
 refine AllReadyH.cons rfl (fun K hK => ?_) AllReadyH.nil
 go_simp
 go_wp2_with fail
 refine (CT.out _ H1d.out).mono ?_
 rintro ex w5 ⟨d, rfl, hth, hd, hb5⟩
 have HTH := hide hth
 have HD : Hid (Bo w5 wd.heap.size w5.heap.size d) := hd
 have zo : ob < wd.heap.size := BO.out.lt
 replace BO : Hid (Bx w5 ob [.slice c.b.va c.b.vs.length c.b.vc, .slice c.b.pa c.b.ps.length c.b.pc, .slice c.b.qa c.b.qs.length c.b.qc, .int .i64 c.b.cs, .int .i64 c.b.nx, .slice c.oa c.os.length c.oc]) := BO.out.below hb5
 have H15 : Hid (Below w1.heap.size w1 w5) := H1d.out.trans (hb5.mono H1d.out.size)
 clear hth hd hb5 CT H1d
 go_wp2_with fail
 refine hK.out _ _ (HS.out _ H15.out) (fun _ => ?_)
 clear hK K
 (refine ti 9 ?_; simp only [Act.put, tA, tB, tC, tD, tE, tF])
 refine wpAnyH_ready (rs := [10]) (by kernel_rfl) (by simp) ?_
 refine AllReadyH.cons rfl (fun K hK => ?_) AllReadyH.nil
 have o0 := BO.out.c0
 have o1 := BO.out.c1
 have o2 := BO.out.c2
 have o3 := BO.out.c3
 have o4 := BO.out.c4
 have f0 := BO.out.fz 0
 have f1 := BO.out.fz 1
 have f2 := BO.out.fz 2
 have f3 := BO.out.fz 3
 have f4 := BO.out.fz 4
 go_simp
 have hk : Kn [ob] w5 (((((w5.setCell ⟨ob, 0, none⟩ (.slice d.va d.vs.length d.vc)).setCell ⟨ob, 1, none⟩ (.slice d.pa d.ps.length d.pc)).setCell ⟨ob, 2, none⟩ (.slice d.qa d.qs.length d.qc)).setCell ⟨ob, 3, none⟩ (.int .i64 d.cs)).setCell ⟨ob, 4, none⟩ (.int .i64 d.nx)) := kn_s5 _ _ _ _ _ _ _
 have BO6 : Hid (Bx (((((w5.setCell ⟨ob, 0, none⟩ (.slice d.va d.vs.length d.vc)).setCell ⟨ob, 1, none⟩ (.slice d.pa d.ps.length d.pc)).setCell ⟨ob, 2, none⟩ (.slice d.qa d.qs.length d.qc)).setCell ⟨ob, 3, none⟩ (.int .i64 d.cs)).setCell ⟨ob, 4, none⟩ (.int .i64 d.nx)) ob [.slice d.va d.vs.length d.vc, .slice d.pa d.ps.length d.pc, .slice d.qa d.qs.length d.qc, .int .i64 d.cs, .int .i64 d.nx, .slice c.oa c.os.length c.oc]) := (((((BO.out.set 0 (.slice d.va d.vs.length d.vc)).set 1 (.slice d.pa d.ps.length d.pc)).set 2 (.slice d.qa d.qs.length d.qc)).set 3 (.int .i64 d.cs)).set 4 (.int .i64 d.nx))
 have H16 : Hid (Below w1.heap.size w1 (((((w5.setCell ⟨ob, 0, none⟩ (.slice d.va d.vs.length d.vc)).setCell ⟨ob, 1, none⟩ (.slice d.pa d.ps.length d.pc)).setCell ⟨ob, 2, none⟩ (.slice d.qa d.qs.length d.qc)).setCell ⟨ob, 3, none⟩ (.int .i64 d.cs)).setCell ⟨ob, 4, none⟩ (.int .i64 d.nx))) := H15.out.trans (hk.below H15.out.size (by intro x hx; rw [List.mem_singleton.1 hx]; exact Nat.le_of_eq HOB.out))
 have HD6 : Hid (∃ lo hi, Bo (((((w5.setCell ⟨ob, 0, none⟩ (.slice d.va d.vs.length d.vc)).setCell ⟨ob, 1, none⟩ (.slice d.pa d.ps.length d.pc)).setCell ⟨ob, 2, none⟩ (.slice d.qa d.qs.length d.qc)).setCell ⟨ob, 3, none⟩ (.int .i64 d.cs)).setCell ⟨ob, 4, none⟩ (.int .i64 d.nx)) lo hi d) := ⟨_, _, HD.out.kn hk (by intro x hx; rw [List.mem_singleton.1 hx]; exact Or.inl zo)⟩
 clear hk o0 o1 o2 o3 o4 f0 f1 f2 f3 f4 BO HD
 generalize (((((w5.setCell ⟨ob, 0, none⟩ (.slice d.va d.vs.length d.vc)).setCell ⟨ob, 1, none⟩ (.slice d.pa d.ps.length d.pc)).setCell ⟨ob, 2, none⟩ (.slice d.qa d.qs.length d.qc)).setCell ⟨ob, 3, none⟩ (.int .i64 d.cs)).setCell ⟨ob, 4, none⟩ (.int .i64 d.nx)) = w6 at *
 refine hK.out _ _ (HS.out _ H16.out) (fun _ => ?_)
 clear hK K
 refine wpAnyH_done (by kernel_rfl) ?_ _
 have o0 := BO6.out.c0
 have o1 := BO6.out.c1
 have o2 := BO6.out.c2
 have o3 := BO6.out.c3
 have o4 := BO6.out.c4
 have o5 := BO6.out.at' 5 (by simp)
 obtain ⟨dl_, dh_, hd6⟩ := HD6.out
 have CD := hide (stidiedA d c.os c.oa c.oc dl_ dh_ (fit_thr2 HF.out.b HX.out HTH.out HRM.out) (HSM.out.fit HF.out).ol w6 hd6 (HO.out.below H16.out))
 clear hd6 HD6
 go_wp2_with fail
 refine CD.out.mono ?_
 rintro ex w7 ⟨va, pa, qa, vn, vc, pn, pc, qn, qc, cs, nx, rfl, hb⟩
 have BO7 : Hid (Bx w7 ob [.slice d.va d.vs.length d.vc, .slice d.pa d.ps.length d.pc, .slice d.qa d.qs.length d.qc, .int .i64 d.cs, .int .i64 d.nx, .slice c.oa c.os.length c.oc]) := BO6.out.below hb
 have H17 : Hid (Below w1.heap.size w1 w7) := H16.out.trans (hb.mono H16.out.size)
 clear hb o0 o1 o2 o3 o4 o5 BO6 H16 H15 HS CD
 have o0 := BO7.out.c0
 have o1 := BO7.out.c1
 have o2 := BO7.out.c2
 have o3 := BO7.out.c3
 have o4 := BO7.out.c4
 have f0 := BO7.out.fz 0
 have f1 := BO7.out.fz 1
 have f2 := BO7.out.fz 2
 have f3 := BO7.out.fz 3
 have f4 := BO7.out.fz 4
 go_upto_region 11 with fail
 have hk : Kn [ob] w7 (((((w7.setCell ⟨ob, 0, none⟩ (.slice va vn vc)).setCell ⟨ob, 1, none⟩ (.slice pa pn pc)).setCell ⟨ob, 2, none⟩ (.slice qa qn qc)).setCell ⟨ob, 3, none⟩ (.int .i64 cs)).setCell ⟨ob, 4, none⟩ (.int .i64 nx)) := kn_s5 _ _ _ _ _ _ _
 have BOz : Hid (Bx (((((w7.setCell ⟨ob, 0, none⟩ (.slice va vn vc)).setCell ⟨ob, 1, none⟩ (.slice pa pn pc)).setCell ⟨ob, 2, none⟩ (.slice qa qn qc)).setCell ⟨ob, 3, none⟩ (.int .i64 cs)).setCell ⟨ob, 4, none⟩ (.int .i64 nx)) ob [.slice va vn vc, .slice pa pn pc, .slice qa qn qc, .int .i64 cs, .int .i64 nx, .slice c.oa c.os.length c.oc]) := (((((BO7.out.set 0 (.slice va vn vc)).set 1 (.slice pa pn pc)).set 2 (.slice qa qn qc)).set 3 (.int .i64 cs)).set 4 (.int .i64 nx))
 have H18 : Hid (Below w1.heap.size w1 (((((w7.setCell ⟨ob, 0, none⟩ (.slice va vn vc)).setCell ⟨ob, 1, none⟩ (.slice pa pn pc)).setCell ⟨ob, 2, none⟩ (.slice qa qn qc)).setCell ⟨ob, 3, none⟩ (.int .i64 cs)).setCell ⟨ob, 4, none⟩ (.int .i64 nx))) := H17.out.trans (hk.below H17.out.size (by intro x hx; rw [List.mem_singleton.1 hx]; exact Nat.le_of_eq HOB.out))
 clear hk o0 o1 o2 o3 o4 f0 f1 f2 f3 f4 BO7 H17
 generalize (((((w7.setCell ⟨ob, 0, none⟩ (.slice va vn vc)).setCell ⟨ob, 1, none⟩ (.slice pa pn pc)).setCell ⟨ob, 2, none⟩ (.slice qa qn qc)).setCell ⟨ob, 3, none⟩ (.int .i64 cs)).setCell ⟨ob, 4, none⟩ (.int .i64 nx)) = w8 at *
 have BAz := hide (BA.out.below H18.out)
 have BBz := hide (BB.out.below H18.out)
 have HBz := hide (HW.out _ H18.out)
 clear BA BB BE HB H18 HW HO HP HF HSM HOB HTH HRM HX HTL HC HQA HPO
 refine wp_region_lit ?_
 refine wpLoadN rfl 44 _ rfl _ Tryz.underlying44 rfl (by kernel_rfl) (by kernel_rfl) BOz.out ?_
 simp only [Act.put, List.setIfInBounds_toArray, List.set_cons_zero, List.set_cons_succ]
 refine wpList_plain rfl fun K hK => ?_
 go_simp
 refine hK _ _ ?_
 clear hK K
 refine wpList_plain rfl fun K hK => ?_
 go_simp
 refine hK _ _ ?_
 clear hK K
 refine wpList_plain rfl fun K hK => ?_
 go_simp
 refine hK _ _ ?_
 clear hK K
 refine wpStoreN #[.slice va vn vc, .slice pa pn pc, .slice qa qn qc, .int .i64 cs, .int .i64 nx, .slice c.oa c.os.length c.oc] rfl 44 _ _ rfl (by kernel_rfl) (by kernel_rfl) (by kernel_rfl) BAz.out rfl (one_all rfl) ?_
 intro wa ba za _
 have BBa := hide (BBz.out.zn za (Or.inr (Nat.le_refl _)))
 have HBa : Hid (Below w.heap.size w wa) := HBz.out.trans (za.below (Nat.le_succ _) HBz.out.size)
 refine wpStoreN #[.int .i64 3, .int .i64 0, .int .i64 0, .int .i64 0, .int .i64 0, .slice none 0 0, .slice none 0 0, .bool false, .string ⟨#[]⟩, .string nm, .bool true, .slice none 0 0, .slice none 0 0, .slice none 0 0, .int .i64 0, .int .i64 0] rfl 64 _ _ rfl (by kernel_rfl) (by kernel_rfl) (by kernel_rfl) BBa.out rfl (one_all rfl) ?_
 intro wb bb zb _
 have BAb : Hid (Bx wb (w.heap.size + 1) [.slice va vn vc, .slice pa pn pc, .slice qa qn qc, .int .i64 cs, .int .i64 nx, .slice c.oa c.os.length c.oc]) := Bx.zn ba zb (Or.inl (Nat.lt_succ_self _))
 have BBb : Hid (Bx wb (w.heap.size + 1 + 1) [.int .i64 3, .int .i64 0, .int .i64 0, .int .i64 0, .int .i64 0, .slice none 0 0, .slice none 0 0, .bool false, .string ⟨#[]⟩, .string nm, .bool true, .slice none 0 0, .slice none 0 0, .slice none 0 0, .int .i64 0, .int .i64 0]) := bb
 have HBb : Hid (Below w.heap.size w wb) := HBa.out.trans (zb.below (by omega) HBa.out.size)
 clear ba za bb zb BBa HBa BOz BAz BBz HBz
 go_wp2
 refine bodyPost_ret (results3 rfl rfl rfl BAb.out BBb.out Tryz.underlying44 Tryz.underlying64 rfl rfl (by kernel_rfl) (by kernel_rfl)) rfl ⟨⟨[.slice va vn vc, .slice pa pn pc, .slice qa qn qc, .int .i64 cs, .int .i64 nx, .slice c.oa c.os.length c.oc], [.int .i64 3, .int .i64 0, .int .i64 0, .int .i64 0, .int .i64 0, .slice none 0 0, .slice none 0 0, .bool false, .string ⟨#[]⟩, .string nm, .bool true, .slice none 0 0, .slice none 0 0, .slice none 0 0, .int .i64 0, .int .i64 0], 0, rfl, Or.inl rfl, rfl, rfl, List.all_eq_true.1 rfl, List.all_eq_true.1 rfl⟩, HBb.out⟩

end Go.Proofs.YtmijppfppigjcaaGreat

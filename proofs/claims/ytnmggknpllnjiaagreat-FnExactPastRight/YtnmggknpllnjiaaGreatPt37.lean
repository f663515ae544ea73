/- PastRight of the document; the law FnExactPastRight, walked. -/
import Derived.Test.YtnmggknpllnjiaaGreatPt01
import Derived.Test.YtnmggknpllnjiaaGreatPt36
namespace Go.Proofs.YtnmggknpllnjiaaGreat
open Go.RowKit
open KM
open VM
attribute [local go_sem ↓] Go.wp_at_zero Go.wp_at_succ

def GoodTo (xs : List Ta) (k : Nat) : Prop := AscI (xs.map fun y : Ta => y.t.cs) k ∧ ∀ j (h : j < xs.length), j < k → xs[j].t.st = 3
theorem goodT_all {xs : List Ta} {k : Nat} (h : GoodTo xs k) (hk : xs.length ≤ k) : goodT xs = true := by
 unfold goodT
 rw [ascI_all h.1 (by rw [List.length_map]; exact hk), Bool.true_and]
 refine List.all_eq_true.2 (fun y hy => ?_)
 obtain ⟨j, hj, rfl⟩ := List.mem_iff_getElem.1 hy
 exact decide_eq_true (h.2 j hj (by omega))
theorem goodT_st {xs : List Ta} {k : Nat} (hk : k < xs.length) (h : ¬ xs[k].t.st = 3) : goodT xs = false := by
 unfold goodT doneAll
 rw [show (xs.all fun y => decide (y.t.st = 3)) = false from List.all_eq_false.2 ⟨_, List.getElem_mem hk, by simpa using h⟩, Bool.and_false]
theorem goodT_cs {xs : List Ta} {k : Nat} (hk : k < xs.length) (h0 : 0 < k) (h : ¬ (xs[k - 1]'(by omega)).t.cs < xs[k].t.cs) : goodT xs = false := by
 unfold goodT
 rw [ascI_no (zs := xs.map fun y : Ta => y.t.cs) k (by rw [List.length_map]; exact hk) h0 (by simpa using h), Bool.false_and]
theorem goodT_more {xs : List Ta} {k : Nat} (h : GoodTo xs k) (hk : k < xs.length) (h1 : xs[k].t.st = 3) (h2 : ∀ (_ : 0 < k), (xs[k - 1]'(by omega)).t.cs < xs[k].t.cs) : GoodTo xs (k + 1) := by
 refine ⟨ascI_more h.1 (by rw [List.length_map]; exact hk) (fun h0 => by simpa using h2 h0), fun j hj hjk => ?_⟩
 by_cases e : j = k
 ·subst e; exact h1
 ·exact h.2 j hj (by omega)

set_option maxRecDepth 100000 in
set_option maxHeartbeats 4000000 in
theorem spast (x : Wd) (hf : WdFit x) (w : World) (hp : WdRows w x) :
  Calls Tryz.prog 5 #[.agg #[.slice x.s.e.b.va x.s.e.b.vs.length x.s.e.b.vc, .slice x.s.e.b.pa x.s.e.b.ps.length x.s.e.b.pc, .slice x.s.e.b.qa x.s.e.b.qs.length x.s.e.b.qc, .int .i64 x.s.e.b.cs, .int .i64 x.s.e.b.nx, .slice x.s.e.oa x.s.e.os.length x.s.e.oc, .slice x.s.d.sa x.s.d.ss.length x.s.d.sc, .slice x.s.d.pa x.s.d.ps.length x.s.d.pc, .slice x.pa x.ps.length x.pc, .slice x.ca x.cs.length x.cc, .slice x.da x.ds.length x.dc]] w fun e w' => e = .returned (.bool (pastB x)) ∧ Below w.heap.size w w' := by
 have HP : Hid (WdRows w x) := hp
 have HF : Hid (WdFit x) := hf
 have hpn : x.ps.length ≤ 1048576 := by have := hf.p.1; rw [txs_len] at this; exact this
 have hvl : x.s.e.b.vs.length ≤ 1048576 := hf.s.e.b.vl
 clear hp hf
 have BX0 : Hid (Bx ((w.alloc (.cells #[.slice x.s.e.b.va x.s.e.b.vs.length x.s.e.b.vc, .slice x.s.e.b.pa x.s.e.b.ps.length x.s.e.b.pc, .slice x.s.e.b.qa x.s.e.b.qs.length x.s.e.b.qc, .int .i64 x.s.e.b.cs, .int .i64 x.s.e.b.nx, .slice x.s.e.oa x.s.e.os.length x.s.e.oc, .slice x.s.d.sa x.s.d.ss.length x.s.d.sc, .slice x.s.d.pa x.s.d.ps.length x.s.d.pc, .slice x.pa x.ps.length x.pc, .slice x.ca x.cs.length x.cc, .slice x.da x.ds.length x.dc] 51)).alloc (.cells #[] 98)) w.heap.size [.slice x.s.e.b.va x.s.e.b.vs.length x.s.e.b.vc, .slice x.s.e.b.pa x.s.e.b.ps.length x.s.e.b.pc, .slice x.s.e.b.qa x.s.e.b.qs.length x.s.e.b.qc, .int .i64 x.s.e.b.cs, .int .i64 x.s.e.b.nx, .slice x.s.e.oa x.s.e.os.length x.s.e.oc, .slice x.s.d.sa x.s.d.ss.length x.s.d.sc, .slice x.s.d.pa x.s.d.ps.length x.s.d.pc, .slice x.pa x.ps.length x.pc, .slice x.ca x.cs.length x.cc, .slice x.da x.ds.length x.dc]) := (Bx.new w [.slice x.s.e.b.va x.s.e.b.vs.length x.s.e.b.vc, .slice x.s.e.b.pa x.s.e.b.ps.length x.s.e.b.pc, .slice x.s.e.b.qa x.s.e.b.qs.length x.s.e.b.qc, .int .i64 x.s.e.b.cs, .int .i64 x.s.e.b.nx, .slice x.s.e.oa x.s.e.os.length x.s.e.oc, .slice x.s.d.sa x.s.d.ss.length x.s.d.sc, .slice x.s.d.pa x.s.d.ps.length x.s.d.pc, .slice x.pa x.ps.length x.pc, .slice x.ca x.cs.length x.cc, .slice x.da x.ds.length x.dc] 51).alloc _
 have HB0 : Hid (Below w.heap.size w ((w.alloc (.cells #[.slice x.s.e.b.va x.s.e.b.vs.length x.s.e.b.vc, .slice x.s.e.b.pa x.s.e.b.ps.length x.s.e.b.pc, .slice x.s.e.b.qa x.s.e.b.qs.length x.s.e.b.qc, .int .i64 x.s.e.b.cs, .int .i64 x.s.e.b.nx, .slice x.s.e.oa x.s.e.os.length x.s.e.oc, .slice x.s.d.sa x.s.d.ss.length x.s.d.sc, .slice x.s.d.pa x.s.d.ps.length x.s.d.pc, .slice x.pa x.ps.length x.pc, .slice x.ca x.cs.length x.cc, .slice x.da x.ds.length x.dc] 51)).alloc (.cells #[] 98))) := ((belowRefl w).alloc (Nat.le_refl _) _).alloc (by simp) _
 have O0 : Hid (GOwn encR 98 ((w.alloc (.cells #[.slice x.s.e.b.va x.s.e.b.vs.length x.s.e.b.vc, .slice x.s.e.b.pa x.s.e.b.ps.length x.s.e.b.pc, .slice x.s.e.b.qa x.s.e.b.qs.length x.s.e.b.qc, .int .i64 x.s.e.b.cs, .int .i64 x.s.e.b.nx, .slice x.s.e.oa x.s.e.os.length x.s.e.oc, .slice x.s.d.sa x.s.d.ss.length x.s.d.sc, .slice x.s.d.pa x.s.d.ps.length x.s.d.pc, .slice x.pa x.ps.length x.pc, .slice x.ca x.cs.length x.cc, .slice x.da x.ds.length x.dc] 51)).alloc (.cells #[] 98)) w.heap.size (.slice (some ⟨w.heap.size + 1, 0, none⟩) 0 0) []) := by
  have h := GOwn.empty (E := encR) (e := 98) (w.alloc (.cells #[.slice x.s.e.b.va x.s.e.b.vs.length x.s.e.b.vc, .slice x.s.e.b.pa x.s.e.b.ps.length x.s.e.b.pc, .slice x.s.e.b.qa x.s.e.b.qs.length x.s.e.b.qc, .int .i64 x.s.e.b.cs, .int .i64 x.s.e.b.nx, .slice x.s.e.oa x.s.e.os.length x.s.e.oc, .slice x.s.d.sa x.s.d.ss.length x.s.d.sc, .slice x.s.d.pa x.s.d.ps.length x.s.d.pc, .slice x.pa x.ps.length x.pc, .slice x.ca x.cs.length x.cc, .slice x.da x.ds.length x.dc] 51)) w.heap.size (by simp)
  simpa [Hid] using h
 have CS := hide (fun (W : World) (h : Below w.heap.size w W) => sscan x.s.e.b.vs x.s.e.b.va x.s.e.b.vc allR x.s.e.b.cs (by omega) W (HP.out.s.e.b.v.below h))
 go_enter Tryz.func5, Tryz.ntmps5
 go_upto_region 2 with fail
 generalize ((w.alloc (.cells #[.slice x.s.e.b.va x.s.e.b.vs.length x.s.e.b.vc, .slice x.s.e.b.pa x.s.e.b.ps.length x.s.e.b.pc, .slice x.s.e.b.qa x.s.e.b.qs.length x.s.e.b.qc, .int .i64 x.s.e.b.cs, .int .i64 x.s.e.b.nx, .slice x.s.e.oa x.s.e.os.length x.s.e.oc, .slice x.s.d.sa x.s.d.ss.length x.s.d.sc, .slice x.s.d.pa x.s.d.ps.length x.s.d.pc, .slice x.pa x.ps.length x.pc, .slice x.ca x.cs.length x.cc, .slice x.da x.ds.length x.dc] 51)).alloc (.cells #[] 98)) = w0 at *
 go_wp2
 go_loopw [3, 4] (fun mv s wr => ∃ k : Nat, k ≤ x.ps.length ∧ s = .int .i64 k ∧ Hid (GoodTo x.ps k) ∧ Hid (GOwn encR 98 wr w.heap.size mv (playL ((txs x.ps).take k))) ∧ Hid (Below w.heap.size w wr) ∧ Hid (Bx wr w.heap.size [.slice x.s.e.b.va x.s.e.b.vs.length x.s.e.b.vc, .slice x.s.e.b.pa x.s.e.b.ps.length x.s.e.b.pc, .slice x.s.e.b.qa x.s.e.b.qs.length x.s.e.b.qc, .int .i64 x.s.e.b.cs, .int .i64 x.s.e.b.nx, .slice x.s.e.oa x.s.e.os.length x.s.e.oc, .slice x.s.d.sa x.s.d.ss.length x.s.d.sc, .slice x.s.d.pa x.s.d.ps.length x.s.d.pc, .slice x.pa x.ps.length x.pc, .slice x.ca x.cs.length x.cc, .slice x.da x.ds.length x.dc])) (fun _ s _ => x.ps.length - (intOf s).toNat)
 case atStart => exact ⟨0, Nat.zero_le _, rfl, ⟨(fun j hj h => by omega), (fun j hj h => by omega)⟩, O0, HB0, BX0⟩
 case round =>
  clear O0 HB0 BX0
  obtain ⟨k, hk, rfl, HG, HO, HB, BX⟩ := hrel
  obtain ⟨vo, hvo⟩ : ∃ z, z = wr := ⟨_, rfl⟩
  subst hvo
  have x8 := BX.out.at11.1
  by_cases hlt : k < x.ps.length
  ·have hlt' : (k : Int) < (x.ps.length : Int) := by omega
   have hk0 : (0 : Int) ≤ (k : Int) := by omega
   have hkt : k < (txs x.ps).length := by rw [txs_len]; exact hlt
   obtain ⟨b, off, hpa, hbl, hc, hrow⟩ := (HP.out.p.below HB.out).cls k hlt
   have HPA2 := hide hpa
   rw [hpa] at x8
   have HNX := hide (playL_take (txs x.ps) k hkt)
   have hpl : (playL ((txs x.ps).take k)).length ≤ 1048576 := Nat.le_trans (playL_wsum _) (Nat.le_trans (wsum_take _ _) HF.out.w)
   have HPA : Hid (AscC (playL ((txs x.ps).take k))) := playL_asc _
   have HWF := hide (HF.out.p.2 _ (List.getElem_mem hkt))
   have HSTB : Hid (¬ x.ps[k].t.st = 3 → pastB x = false) := fun h => by unfold pastB; rw [goodT_st hlt h]; rfl
   have HCSB : Hid (∀ (h0 : 0 < k), ¬ (x.ps[k - 1]'(by omega)).t.cs < x.ps[k].t.cs → pastB x = false) := fun h0 h => by unfold pastB; rw [goodT_cs hlt h0 h]; rfl
   have HGMo : Hid (x.ps[k].t.st = 3 → (∀ (_ : 0 < k), (x.ps[k - 1]'(by omega)).t.cs < x.ps[k].t.cs) → GoodTo x.ps (k + 1)) := fun h1 h2 => goodT_more HG.out hlt h1 h2
   have HCM : Hid (∀ (m : Nat) (hm : m < x.ps.length), vo.cell? ⟨b, off + m * 8 + 3, none⟩ = some (.int .i64 x.ps[m].t.cs)) := fun m hm => by
    obtain ⟨b9, o9, e9, _, hc9, _⟩ := (HP.out.p.below HB.out).cls m hm
    rw [hpa] at e9
    cases e9
    exact hc9.c3
   obtain ⟨y, hy⟩ : ∃ y, y = x.ps[k] := ⟨_, rfl⟩
   have hyt : (txs x.ps)[k] = y.t := by rw [hy]; simp [txs]
   rw [hyt] at HNX HWF
   rw [← hy] at hc hrow HSTB HGMo
   have HRow := hide hrow
   obtain ⟨F, hF⟩ : ∃ F, F = playL ((txs x.ps).take k) := ⟨_, rfl⟩
   rw [← hF] at HO HNX hpl HPA
   clear hF
   obtain ⟨ma, mc, rfl, _⟩ := HO.out.row
   obtain ⟨M, hM⟩ : ∃ M, M = F.length := ⟨_, rfl⟩
   rw [← hM] at hpl HO ⊢
   have HM : Hid (M = F.length) := hM
   have HY := hide hy
   clear hM hyt hkt hrow hy hpa
   have r1 := hc.c1
   have r3 := hc.c3
   by_cases hst : y.t.st = 3
   ·have hsb : (y.t.st != 3) = false := by simp [hst]
    by_cases h0 : 0 < k
    ·have hd0 : decide (0 < k) = true := decide_eq_true h0
     have hk1 : k - 1 < x.ps.length := by omega
     have hcm := HCM.out (k - 1) hk1
     have HCS2 := hide (HCSB.out h0)
     obtain ⟨z, hz⟩ : ∃ z, z = x.ps[k - 1] := ⟨_, rfl⟩
     have HZ := hide hz
     rw [← hz] at hcm
     obtain ⟨m, hm⟩ : ∃ m, m = k - 1 := ⟨_, rfl⟩
     rw [← hm] at hcm
     have e1 : IntKind.i64.wrap ((k : Int) - 1) = (m : Int) := by rw [IntKind.wrap_i64]; omega
     have e2 : (k : Int) - 1 = (m : Int) := by omega
     have e3 : IntKind.i64.wrap (m : Int) = (m : Int) := by rw [IntKind.wrap_i64]; omega
     have hmn : (m : Int) < (x.ps.length : Int) := by omega
     have hm0 : (0 : Int) ≤ (m : Int) := by omega
     have hmN : m < x.ps.length := by omega
     have s3 := hcm
     clear hcm hm hz HCM
     by_cases hcs : z.t.cs < y.t.cs
     ·have hcb : decide (y.t.cs ≤ z.t.cs) = false := decide_eq_false (by omega)
      have HGM : GoodTo x.ps (k + 1) := HGMo.out hst (fun _ => by rw [← HZ.out]; exact hcs)
      have HG2 := hide HGM
      clear HGM hst hcs HG HSTB HCSB HCS2 HGMo HZ
      go_wp2
      refine wp_region_held_drew (S := fun w' => w'.cell? ⟨w.heap.size, 8, none⟩ = some (.slice (some ⟨b, off, none⟩) x.ps.length x.pc) ∧ w'.cell? ⟨b, off + k * 8 + 1, none⟩ = some (.int .i64 y.t.st) ∧ w'.cell? ⟨b, off + k * 8 + 3, none⟩ = some (.int .i64 y.t.cs) ∧ w'.cell? ⟨b, off + m * 8 + 3, none⟩ = some (.int .i64 z.t.cs)) (by kernel_rfl) ⟨x8, r1, r3, s3⟩ (fun hHeld => ?_)
      (refine tk 0 ?_ rfl (Or.inl ⟨by rfl, ?_⟩) ?_; rotate_left; (focus (intro w h; (try dsimp only at h); go_simp; (try with_reducible rfl))); simp only [Act.put, tA, tB, tD, tE, tF])
      (refine tk 1 ?_ rfl (Or.inl ⟨by rfl, ?_⟩) ?_; rotate_left; (focus (intro w h; (try dsimp only at h); go_simp; (try with_reducible rfl))); simp only [Act.put, tA, tB, tC, tD, tE, tF])
      (refine tk 2 ?_ rfl (Or.inl ⟨by rfl, ?_⟩) ?_; rotate_left; (focus (intro w h; (try dsimp only at h); go_simp; (try with_reducible rfl))); simp only [Act.put, tA, tB, tC, tD, tE, tF])
      (refine tk 3 ?_ rfl (Or.inl ⟨by rfl, ?_⟩) ?_; rotate_left; (focus (intro w h; (try dsimp only at h); go_simp; (try with_reducible rfl))); simp only [Act.put, tA, tB, tC, tD, tE, tF])
      (refine tk 4 ?_ rfl (Or.inl ⟨by rfl, ?_⟩) ?_; rotate_left; (focus (intro w h; (try dsimp only at h); go_simp; (try with_reducible rfl))); simp only [Act.put, tA, tB, tC, tD, tE, tF])
      (refine tk 5 ?_ rfl (Or.inl ⟨by rfl, ?_⟩) ?_; rotate_left; (focus (intro w h; (try dsimp only at h); go_simp; (try with_reducible rfl))); simp only [Act.put, tA, tB, tC, tD, tE, tF])
      (refine tk 6 ?_ rfl (Or.inl ⟨by rfl, ?_⟩) ?_; rotate_left; (focus (intro w h; (try dsimp only at h); go_simp; (try with_reducible rfl))); simp only [Act.put, tA, tB, tC, tD, tE, tF])
      (refine tk 7 ?_ rfl (Or.inl ⟨by rfl, ?_⟩) ?_; rotate_left; (focus (intro w h; (try dsimp only at h); go_simp; (try with_reducible rfl))); simp only [Act.put, tA, tB, tC, tD, tE, tF])
      (refine tk 8 ?_ rfl (Or.inl ⟨by rfl, ?_⟩) ?_; rotate_left; (focus (intro w h; (try dsimp only at h); go_simp; (try with_reducible rfl))); simp only [Act.put, tA, tB, tC, tD, tE, tF])
      (refine tk 9 ?_ rfl (Or.inl ⟨by rfl, ?_⟩) ?_; rotate_left; (focus (intro w h; (try dsimp only at h); go_simp; (try with_reducible rfl))); simp only [Act.put, tA, tB, tC, tD, tE, tF])
      (refine tk 10 ?_ rfl (Or.inl ⟨by rfl, ?_⟩) ?_; rotate_left; (focus (intro w h; (try dsimp only at h); go_simp; (try with_reducible rfl))); simp only [Act.put, tA, tB, tC, tD, tE, tF])
      (refine tk 11 ?_ rfl (Or.inl ⟨by rfl, ?_⟩) ?_; rotate_left; (focus (intro w h; (try dsimp only at h); go_simp; (try with_reducible rfl))); simp only [Act.put, tA, tB, tC, tD, tE, tF])
      (refine tk 12 ?_ rfl (Or.inl ⟨by rfl, ?_⟩) ?_; rotate_left; (focus (intro w h; (try dsimp only at h); go_simp; (try with_reducible rfl))); simp only [Act.put, tA, tB, tC, tD, tE, tF])
      (refine tk 13 ?_ rfl (Or.inl ⟨by rfl, ?_⟩) ?_; rotate_left; (focus (intro w h; (try dsimp only at h); go_simp; (try with_reducible rfl))); simp only [Act.put, tA, tB, tC, tD, tE, tF])
      (refine tk 14 ?_ rfl (Or.inl ⟨by rfl, ?_⟩) ?_; rotate_left; (focus (intro w h; (try dsimp only at h); go_simp; (try with_reducible rfl))); simp only [Act.put, tA, tB, tC, tD, tE, tF])
      (refine tk 15 ?_ rfl (Or.inl ⟨by rfl, ?_⟩) ?_; rotate_left; (focus (intro w h; (try dsimp only at h); go_simp; (try with_reducible rfl))); simp only [Act.put, tA, tB, tC, tD, tE, tF])
      (refine tk 16 ?_ rfl (Or.inl ⟨by rfl, ?_⟩) ?_; rotate_left; (focus (intro w h; (try dsimp only at h); go_simp; (try with_reducible rfl))); simp only [Act.put, tA, tB, tC, tD, tE, tF])
      (refine tk 17 ?_ rfl (Or.inl ⟨by rfl, ?_⟩) ?_; rotate_left; (focus (intro w h; (try dsimp only at h); go_simp; (try with_reducible rfl))); simp only [Act.put, tA, tB, tC, tD, tE, tF])
      (refine tk 18 ?_ rfl (Or.inl ⟨by rfl, ?_⟩) ?_; rotate_left; (focus (intro w h; (try dsimp only at h); go_simp; (try with_reducible rfl))); simp only [Act.put, tA, tB, tC, tD, tE, tF])
      (refine tk 19 ?_ rfl (Or.inl ⟨by rfl, ?_⟩) ?_; rotate_left; (focus (intro w h; (try dsimp only at h); go_simp; (try with_reducible rfl))); simp only [Act.put, tA, tB, tC, tD, tE, tF])
      (refine tk 20 ?_ rfl (Or.inl ⟨by rfl, ?_⟩) ?_; rotate_left; (focus (intro w h; (try dsimp only at h); go_simp; (try with_reducible rfl))); simp only [Act.put, tA, tB, tC, tD, tE, tF])
      (refine tk 21 ?_ rfl (Or.inl ⟨by rfl, ?_⟩) ?_; rotate_left; (focus (intro w h; (try dsimp only at h); go_simp; (try with_reducible rfl))); simp only [Act.put, tA, tB, tC, tD, tE, tF])
      (refine tk 22 ?_ rfl (Or.inl ⟨by rfl, ?_⟩) ?_; rotate_left; (focus (intro w h; (try dsimp only at h); go_simp; (try with_reducible rfl))); simp only [Act.put, tA, tB, tC, tD, tE, tF])
      (refine tk 23 ?_ rfl (Or.inl ⟨by rfl, ?_⟩) ?_; rotate_left; (focus (intro w h; (try dsimp only at h); go_simp; (try with_reducible rfl))); simp only [Act.put, tA, tB, tC, tD, tE, tF])
      (refine tk 24 ?_ rfl (Or.inl ⟨by rfl, ?_⟩) ?_; rotate_left; (focus (intro w h; (try dsimp only at h); go_simp; (try with_reducible rfl))); simp only [Act.put, tA, tB, tC, tD, tE, tF])
      (refine tk 25 ?_ rfl (Or.inl ⟨by rfl, ?_⟩) ?_; rotate_left; (focus (intro w h; (try dsimp only at h); go_simp; (try with_reducible rfl))); simp only [Act.put, tA, tB, tC, tD, tE, tF])
      (refine tk 26 ?_ rfl (Or.inl ⟨by rfl, ?_⟩) ?_; rotate_left; (focus (intro w h; (try dsimp only at h); go_simp; (try with_reducible rfl))); simp only [Act.put, tA, tB, tC, tD, tE, tF])
      refine wpAnyH_done (by kernel_rfl) ?_ _
      have r0 := hc.c0
      have r2 := hc.c2
      have r4 := hc.c4
      have r5 := hc.c5
      have r6 := hc.c6
      have r7 := hc.c7
      go_wp2_with fail
      refine (splay F ma mc M y.t y.ra y.wa y.rc y.wc _ HM.out hpl (by have := HWF.out.2.2.1; omega) HPA.out _ (HO.out.below ((belowRefl vo).drew)) (HRow.out.below ((belowRefl vo).drew)).w).mono ?_
      rintro e w7 ⟨a7, c7, L7, rfl, hL7, ho7, hb7⟩
      have hbu7 := undrew hb7
      have HB7 : Hid (Below w.heap.size w w7) := HB.out.trans (hbu7.mono HB.out.size)
      have BX7 := hide (BX.out.below hbu7)
      have O7 : Hid (GOwn encR 98 w7 w.heap.size (.slice a7 L7 c7) (playL ((txs x.ps).take (k + 1)))) := by
       show GOwn _ _ _ _ _ _
       rw [HNX.out]
       exact ho7.mono (Nat.le_trans HB.out.size ((belowRefl vo).drew).size)
      have BX8 := BX7
      clear hL7 ho7 hb7 hbu7 r0 r1 r2 r3 r4 r5 r6 r7 x8
      go_wp2
      go_roundw
      case rel => exact ⟨k + 1, by omega, by go_num, HG2, O7, HB7, BX8⟩
      case measure => simp [intOf]; omega
     ·have hcb : decide (y.t.cs ≤ z.t.cs) = true := decide_eq_true (by omega)
      have HV : Hid (pastB x = false) := HCS2.out (by rw [← HZ.out, ← HY.out]; exact hcs)
      clear hst hcs HG HSTB HCSB HCS2 HGMo HZ
      go_wp2
      refine wp_region_held_drew (S := fun w' => w'.cell? ⟨w.heap.size, 8, none⟩ = some (.slice (some ⟨b, off, none⟩) x.ps.length x.pc) ∧ w'.cell? ⟨b, off + k * 8 + 1, none⟩ = some (.int .i64 y.t.st) ∧ w'.cell? ⟨b, off + k * 8 + 3, none⟩ = some (.int .i64 y.t.cs) ∧ w'.cell? ⟨b, off + m * 8 + 3, none⟩ = some (.int .i64 z.t.cs)) (by kernel_rfl) ⟨x8, r1, r3, s3⟩ (fun hHeld => ?_)
      (refine tk 0 ?_ rfl (Or.inl ⟨by rfl, ?_⟩) ?_; rotate_left; (focus (intro w h; (try dsimp only at h); go_simp; (try with_reducible rfl))); simp only [Act.put, tA, tB, tD, tE, tF])
      (refine tk 1 ?_ rfl (Or.inl ⟨by rfl, ?_⟩) ?_; rotate_left; (focus (intro w h; (try dsimp only at h); go_simp; (try with_reducible rfl))); simp only [Act.put, tA, tB, tC, tD, tE, tF])
      (refine tk 2 ?_ rfl (Or.inl ⟨by rfl, ?_⟩) ?_; rotate_left; (focus (intro w h; (try dsimp only at h); go_simp; (try with_reducible rfl))); simp only [Act.put, tA, tB, tC, tD, tE, tF])
      (refine tk 3 ?_ rfl (Or.inl ⟨by rfl, ?_⟩) ?_; rotate_left; (focus (intro w h; (try dsimp only at h); go_simp; (try with_reducible rfl))); simp only [Act.put, tA, tB, tC, tD, tE, tF])
      (refine tk 4 ?_ rfl (Or.inl ⟨by rfl, ?_⟩) ?_; rotate_left; (focus (intro w h; (try dsimp only at h); go_simp; (try with_reducible rfl))); simp only [Act.put, tA, tB, tC, tD, tE, tF])
      (refine tk 5 ?_ rfl (Or.inl ⟨by rfl, ?_⟩) ?_; rotate_left; (focus (intro w h; (try dsimp only at h); go_simp; (try with_reducible rfl))); simp only [Act.put, tA, tB, tC, tD, tE, tF])
      (refine tk 6 ?_ rfl (Or.inl ⟨by rfl, ?_⟩) ?_; rotate_left; (focus (intro w h; (try dsimp only at h); go_simp; (try with_reducible rfl))); simp only [Act.put, tA, tB, tC, tD, tE, tF])
      (refine tk 7 ?_ rfl (Or.inl ⟨by rfl, ?_⟩) ?_; rotate_left; (focus (intro w h; (try dsimp only at h); go_simp; (try with_reducible rfl))); simp only [Act.put, tA, tB, tC, tD, tE, tF])
      (refine tk 8 ?_ rfl (Or.inl ⟨by rfl, ?_⟩) ?_; rotate_left; (focus (intro w h; (try dsimp only at h); go_simp; (try with_reducible rfl))); simp only [Act.put, tA, tB, tC, tD, tE, tF])
      (refine tk 9 ?_ rfl (Or.inl ⟨by rfl, ?_⟩) ?_; rotate_left; (focus (intro w h; (try dsimp only at h); go_simp; (try with_reducible rfl))); simp only [Act.put, tA, tB, tC, tD, tE, tF])
      (refine tk 10 ?_ rfl (Or.inl ⟨by rfl, ?_⟩) ?_; rotate_left; (focus (intro w h; (try dsimp only at h); go_simp; (try with_reducible rfl))); simp only [Act.put, tA, tB, tC, tD, tE, tF])
      (refine tk 11 ?_ rfl (Or.inl ⟨by rfl, ?_⟩) ?_; rotate_left; (focus (intro w h; (try dsimp only at h); go_simp; (try with_reducible rfl))); simp only [Act.put, tA, tB, tC, tD, tE, tF])
      (refine tk 12 ?_ rfl (Or.inl ⟨by rfl, ?_⟩) ?_; rotate_left; (focus (intro w h; (try dsimp only at h); go_simp; (try with_reducible rfl))); simp only [Act.put, tA, tB, tC, tD, tE, tF])
      (refine tk 13 ?_ rfl (Or.inl ⟨by rfl, ?_⟩) ?_; rotate_left; (focus (intro w h; (try dsimp only at h); go_simp; (try with_reducible rfl))); simp only [Act.put, tA, tB, tC, tD, tE, tF])
      (refine tk 14 ?_ rfl (Or.inl ⟨by rfl, ?_⟩) ?_; rotate_left; (focus (intro w h; (try dsimp only at h); go_simp; (try with_reducible rfl))); simp only [Act.put, tA, tB, tC, tD, tE, tF])
      (refine tk 15 ?_ rfl (Or.inl ⟨by rfl, ?_⟩) ?_; rotate_left; (focus (intro w h; (try dsimp only at h); go_simp; (try with_reducible rfl))); simp only [Act.put, tA, tB, tC, tD, tE, tF])
      (refine tk 16 ?_ rfl (Or.inl ⟨by rfl, ?_⟩) ?_; rotate_left; (focus (intro w h; (try dsimp only at h); go_simp; (try with_reducible rfl))); simp only [Act.put, tA, tB, tC, tD, tE, tF])
      (refine tk 17 ?_ rfl (Or.inl ⟨by rfl, ?_⟩) ?_; rotate_left; (focus (intro w h; (try dsimp only at h); go_simp; (try with_reducible rfl))); simp only [Act.put, tA, tB, tC, tD, tE, tF])
      (refine tk 18 ?_ rfl (Or.inl ⟨by rfl, ?_⟩) ?_; rotate_left; (focus (intro w h; (try dsimp only at h); go_simp; (try with_reducible rfl))); simp only [Act.put, tA, tB, tC, tD, tE, tF])
      (refine tk 19 ?_ rfl (Or.inl ⟨by rfl, ?_⟩) ?_; rotate_left; (focus (intro w h; (try dsimp only at h); go_simp; (try with_reducible rfl))); simp only [Act.put, tA, tB, tC, tD, tE, tF])
      (refine tk 20 ?_ rfl (Or.inl ⟨by rfl, ?_⟩) ?_; rotate_left; (focus (intro w h; (try dsimp only at h); go_simp; (try with_reducible rfl))); simp only [Act.put, tA, tB, tC, tD, tE, tF])
      (refine tk 21 ?_ rfl (Or.inl ⟨by rfl, ?_⟩) ?_; rotate_left; (focus (intro w h; (try dsimp only at h); go_simp; (try with_reducible rfl))); simp only [Act.put, tA, tB, tC, tD, tE, tF])
      (refine tk 22 ?_ rfl (Or.inl ⟨by rfl, ?_⟩) ?_; rotate_left; (focus (intro w h; (try dsimp only at h); go_simp; (try with_reducible rfl))); simp only [Act.put, tA, tB, tC, tD, tE, tF])
      (refine tk 23 ?_ rfl (Or.inl ⟨by rfl, ?_⟩) ?_; rotate_left; (focus (intro w h; (try dsimp only at h); go_simp; (try with_reducible rfl))); simp only [Act.put, tA, tB, tC, tD, tE, tF])
      (refine tk 24 ?_ rfl (Or.inl ⟨by rfl, ?_⟩) ?_; rotate_left; (focus (intro w h; (try dsimp only at h); go_simp; (try with_reducible rfl))); simp only [Act.put, tA, tB, tC, tD, tE, tF])
      (refine tk 25 ?_ rfl (Or.inl ⟨by rfl, ?_⟩) ?_; rotate_left; (focus (intro w h; (try dsimp only at h); go_simp; (try with_reducible rfl))); simp only [Act.put, tA, tB, tC, tD, tE, tF])
      (refine tk 26 ?_ rfl (Or.inl ⟨by rfl, ?_⟩) ?_; rotate_left; (focus (intro w h; (try dsimp only at h); go_simp; (try with_reducible rfl))); simp only [Act.put, tA, tB, tC, tD, tE, tF])
      refine wpAnyH_done (by kernel_rfl) ?_ _
      clear x8 r1 r3
      go_wp2
      go_ret
      exact ⟨by rw [HV.out]; rfl, below_drewN HB.out 1⟩
    ·have hd0 : decide (0 < k) = false := decide_eq_false h0
     have HGM : GoodTo x.ps (k + 1) := HGMo.out hst (fun h => absurd h h0)
     have HG2 := hide HGM
     clear HGM hst HG HSTB HCSB HGMo HCM
     go_wp2
     refine wp_region_held_drew (S := fun w' => w'.cell? ⟨w.heap.size, 8, none⟩ = some (.slice (some ⟨b, off, none⟩) x.ps.length x.pc) ∧ w'.cell? ⟨b, off + k * 8 + 1, none⟩ = some (.int .i64 y.t.st) ∧ w'.cell? ⟨b, off + k * 8 + 3, none⟩ = some (.int .i64 y.t.cs)) (by kernel_rfl) ⟨x8, r1, r3⟩ (fun hHeld => ?_)
     (refine tk 0 ?_ rfl (Or.inl ⟨by rfl, ?_⟩) ?_; rotate_left; (focus (intro w h; (try dsimp only at h); go_simp; (try with_reducible rfl))); simp only [Act.put, tA, tB, tD, tE, tF])
     (refine tk 1 ?_ rfl (Or.inl ⟨by rfl, ?_⟩) ?_; rotate_left; (focus (intro w h; (try dsimp only at h); go_simp; (try with_reducible rfl))); simp only [Act.put, tA, tB, tC, tD, tE, tF])
     (refine tk 2 ?_ rfl (Or.inl ⟨by rfl, ?_⟩) ?_; rotate_left; (focus (intro w h; (try dsimp only at h); go_simp; (try with_reducible rfl))); simp only [Act.put, tA, tB, tC, tD, tE, tF])
     (refine tk 3 ?_ rfl (Or.inl ⟨by rfl, ?_⟩) ?_; rotate_left; (focus (intro w h; (try dsimp only at h); go_simp; (try with_reducible rfl))); simp only [Act.put, tA, tB, tC, tD, tE, tF])
     (refine tk 4 ?_ rfl (Or.inl ⟨by rfl, ?_⟩) ?_; rotate_left; (focus (intro w h; (try dsimp only at h); go_simp; (try with_reducible rfl))); simp only [Act.put, tA, tB, tC, tD, tE, tF])
     (refine tk 5 ?_ rfl (Or.inl ⟨by rfl, ?_⟩) ?_; rotate_left; (focus (intro w h; (try dsimp only at h); go_simp; (try with_reducible rfl))); simp only [Act.put, tA, tB, tC, tD, tE, tF])
     (refine tk 6 ?_ rfl (Or.inl ⟨by rfl, ?_⟩) ?_; rotate_left; (focus (intro w h; (try dsimp only at h); go_simp; (try with_reducible rfl))); simp only [Act.put, tA, tB, tC, tD, tE, tF])
     (refine tk 7 ?_ rfl (Or.inl ⟨by rfl, ?_⟩) ?_; rotate_left; (focus (intro w h; (try dsimp only at h); go_simp; (try with_reducible rfl))); simp only [Act.put, tA, tB, tC, tD, tE, tF])
     (refine tk 8 ?_ rfl (Or.inl ⟨by rfl, ?_⟩) ?_; rotate_left; (focus (intro w h; (try dsimp only at h); go_simp; (try with_reducible rfl))); simp only [Act.put, tA, tB, tC, tD, tE, tF])
     (refine tk 9 ?_ rfl (Or.inl ⟨by rfl, ?_⟩) ?_; rotate_left; (focus (intro w h; (try dsimp only at h); go_simp; (try with_reducible rfl))); simp only [Act.put, tA, tB, tC, tD, tE, tF])
     (refine tk 10 ?_ rfl (Or.inl ⟨by rfl, ?_⟩) ?_; rotate_left; (focus (intro w h; (try dsimp only at h); go_simp; (try with_reducible rfl))); simp only [Act.put, tA, tB, tC, tD, tE, tF])
     (refine tk 11 undef rfl (Or.inr ⟨by rfl, rfl⟩) ?_; simp only [Act.put, tA, tB, tC, tD, tE, tF])
     (refine tk 12 undef rfl (Or.inr ⟨by rfl, rfl⟩) ?_; simp only [Act.put, tA, tB, tC, tD, tE, tF])
     (refine tk 13 undef rfl (Or.inr ⟨by rfl, rfl⟩) ?_; simp only [Act.put, tA, tB, tC, tD, tE, tF])
     (refine tk 14 undef rfl (Or.inr ⟨by rfl, rfl⟩) ?_; simp only [Act.put, tA, tB, tC, tD, tE, tF])
     (refine tk 15 undef rfl (Or.inr ⟨by rfl, rfl⟩) ?_; simp only [Act.put, tA, tB, tC, tD, tE, tF])
     (refine tk 16 undef rfl (Or.inr ⟨by rfl, rfl⟩) ?_; simp only [Act.put, tA, tB, tC, tD, tE, tF])
     (refine tk 17 undef rfl (Or.inr ⟨by rfl, rfl⟩) ?_; simp only [Act.put, tA, tB, tC, tD, tE, tF])
     (refine tk 18 undef rfl (Or.inr ⟨by rfl, rfl⟩) ?_; simp only [Act.put, tA, tB, tC, tD, tE, tF])
     (refine tk 19 undef rfl (Or.inr ⟨by rfl, rfl⟩) ?_; simp only [Act.put, tA, tB, tC, tD, tE, tF])
     (refine tk 20 undef rfl (Or.inr ⟨by rfl, rfl⟩) ?_; simp only [Act.put, tA, tB, tC, tD, tE, tF])
     (refine tk 21 undef rfl (Or.inr ⟨by rfl, rfl⟩) ?_; simp only [Act.put, tA, tB, tC, tD, tE, tF])
     (refine tk 22 undef rfl (Or.inr ⟨by rfl, rfl⟩) ?_; simp only [Act.put, tA, tB, tC, tD, tE, tF])
     (refine tk 23 undef rfl (Or.inr ⟨by rfl, rfl⟩) ?_; simp only [Act.put, tA, tB, tC, tD, tE, tF])
     (refine tk 24 undef rfl (Or.inr ⟨by rfl, rfl⟩) ?_; simp only [Act.put, tA, tB, tC, tD, tE, tF])
     (refine tk 25 ?_ rfl (Or.inl ⟨by rfl, ?_⟩) ?_; rotate_left; (focus (intro w h; (try dsimp only at h); go_simp; (try with_reducible rfl))); simp only [Act.put, tA, tB, tC, tD, tE, tF])
     (refine tk 26 ?_ rfl (Or.inl ⟨by rfl, ?_⟩) ?_; rotate_left; (focus (intro w h; (try dsimp only at h); go_simp; (try with_reducible rfl))); simp only [Act.put, tA, tB, tC, tD, tE, tF])
     refine wpAnyH_done (by kernel_rfl) ?_ _
     have r0 := hc.c0
     have r2 := hc.c2
     have r4 := hc.c4
     have r5 := hc.c5
     have r6 := hc.c6
     have r7 := hc.c7
     go_wp2_with fail
     refine (splay F ma mc M y.t y.ra y.wa y.rc y.wc _ HM.out hpl (by have := HWF.out.2.2.1; omega) HPA.out _ (HO.out.below ((belowRefl vo).drew)) (HRow.out.below ((belowRefl vo).drew)).w).mono ?_
     rintro e w7 ⟨a7, c7, L7, rfl, hL7, ho7, hb7⟩
     have hbu7 := undrew hb7
     have HB7 : Hid (Below w.heap.size w w7) := HB.out.trans (hbu7.mono HB.out.size)
     have BX7 := hide (BX.out.below hbu7)
     have O7 : Hid (GOwn encR 98 w7 w.heap.size (.slice a7 L7 c7) (playL ((txs x.ps).take (k + 1)))) := by
      show GOwn _ _ _ _ _ _
      rw [HNX.out]
      exact ho7.mono (Nat.le_trans HB.out.size ((belowRefl vo).drew).size)
     have BX8 := BX7
     clear hL7 ho7 hb7 hbu7 r0 r1 r2 r3 r4 r5 r6 r7 x8
     go_wp2
     go_roundw
     case rel => exact ⟨k + 1, by omega, by go_num, HG2, O7, HB7, BX8⟩
     case measure => simp [intOf]; omega
   ·have hsb : (y.t.st != 3) = true := by simp [hst]
    have HV : Hid (pastB x = false) := HSTB.out hst
    clear hst HG HSTB HCSB HGMo HCM
    go_wp2
    refine wp_region_held_drew (S := fun w' => w'.cell? ⟨w.heap.size, 8, none⟩ = some (.slice (some ⟨b, off, none⟩) x.ps.length x.pc) ∧ w'.cell? ⟨b, off + k * 8 + 1, none⟩ = some (.int .i64 y.t.st) ∧ w'.cell? ⟨b, off + k * 8 + 3, none⟩ = some (.int .i64 y.t.cs)) (by kernel_rfl) ⟨x8, r1, r3⟩ (fun hHeld => ?_)
    (refine tk 0 ?_ rfl (Or.inl ⟨by rfl, ?_⟩) ?_; rotate_left; (focus (intro w h; (try dsimp only at h); go_simp; (try with_reducible rfl))); simp only [Act.put, tA, tB, tD, tE, tF])
    (refine tk 1 ?_ rfl (Or.inl ⟨by rfl, ?_⟩) ?_; rotate_left; (focus (intro w h; (try dsimp only at h); go_simp; (try with_reducible rfl))); simp only [Act.put, tA, tB, tC, tD, tE, tF])
    (refine tk 2 ?_ rfl (Or.inl ⟨by rfl, ?_⟩) ?_; rotate_left; (focus (intro w h; (try dsimp only at h); go_simp; (try with_reducible rfl))); simp only [Act.put, tA, tB, tC, tD, tE, tF])
    (refine tk 3 ?_ rfl (Or.inl ⟨by rfl, ?_⟩) ?_; rotate_left; (focus (intro w h; (try dsimp only at h); go_simp; (try with_reducible rfl))); simp only [Act.put, tA, tB, tC, tD, tE, tF])
    (refine tk 4 ?_ rfl (Or.inl ⟨by rfl, ?_⟩) ?_; rotate_left; (focus (intro w h; (try dsimp only at h); go_simp; (try with_reducible rfl))); simp only [Act.put, tA, tB, tC, tD, tE, tF])
    (refine tk 5 ?_ rfl (Or.inl ⟨by rfl, ?_⟩) ?_; rotate_left; (focus (intro w h; (try dsimp only at h); go_simp; (try with_reducible rfl))); simp only [Act.put, tA, tB, tC, tD, tE, tF])
    (refine tk 6 ?_ rfl (Or.inl ⟨by rfl, ?_⟩) ?_; rotate_left; (focus (intro w h; (try dsimp only at h); go_simp; (try with_reducible rfl))); simp only [Act.put, tA, tB, tC, tD, tE, tF])
    (refine tk 7 ?_ rfl (Or.inl ⟨by rfl, ?_⟩) ?_; rotate_left; (focus (intro w h; (try dsimp only at h); go_simp; (try with_reducible rfl))); simp only [Act.put, tA, tB, tC, tD, tE, tF])
    (refine tk 8 undef rfl (Or.inr ⟨by rfl, rfl⟩) ?_; simp only [Act.put, tA, tB, tC, tD, tE, tF])
    (refine tk 9 undef rfl (Or.inr ⟨by rfl, rfl⟩) ?_; simp only [Act.put, tA, tB, tC, tD, tE, tF])
    (refine tk 10 undef rfl (Or.inr ⟨by rfl, rfl⟩) ?_; simp only [Act.put, tA, tB, tC, tD, tE, tF])
    (refine tk 11 undef rfl (Or.inr ⟨by rfl, rfl⟩) ?_; simp only [Act.put, tA, tB, tC, tD, tE, tF])
    (refine tk 12 undef rfl (Or.inr ⟨by rfl, rfl⟩) ?_; simp only [Act.put, tA, tB, tC, tD, tE, tF])
    (refine tk 13 undef rfl (Or.inr ⟨by rfl, rfl⟩) ?_; simp only [Act.put, tA, tB, tC, tD, tE, tF])
    (refine tk 14 undef rfl (Or.inr ⟨by rfl, rfl⟩) ?_; simp only [Act.put, tA, tB, tC, tD, tE, tF])
    (refine tk 15 undef rfl (Or.inr ⟨by rfl, rfl⟩) ?_; simp only [Act.put, tA, tB, tC, tD, tE, tF])
    (refine tk 16 undef rfl (Or.inr ⟨by rfl, rfl⟩) ?_; simp only [Act.put, tA, tB, tC, tD, tE, tF])
    (refine tk 17 undef rfl (Or.inr ⟨by rfl, rfl⟩) ?_; simp only [Act.put, tA, tB, tC, tD, tE, tF])
    (refine tk 18 undef rfl (Or.inr ⟨by rfl, rfl⟩) ?_; simp only [Act.put, tA, tB, tC, tD, tE, tF])
    (refine tk 19 undef rfl (Or.inr ⟨by rfl, rfl⟩) ?_; simp only [Act.put, tA, tB, tC, tD, tE, tF])
    (refine tk 20 undef rfl (Or.inr ⟨by rfl, rfl⟩) ?_; simp only [Act.put, tA, tB, tC, tD, tE, tF])
    (refine tk 21 undef rfl (Or.inr ⟨by rfl, rfl⟩) ?_; simp only [Act.put, tA, tB, tC, tD, tE, tF])
    (refine tk 22 undef rfl (Or.inr ⟨by rfl, rfl⟩) ?_; simp only [Act.put, tA, tB, tC, tD, tE, tF])
    (refine tk 23 undef rfl (Or.inr ⟨by rfl, rfl⟩) ?_; simp only [Act.put, tA, tB, tC, tD, tE, tF])
    (refine tk 24 undef rfl (Or.inr ⟨by rfl, rfl⟩) ?_; simp only [Act.put, tA, tB, tC, tD, tE, tF])
    (refine tk 25 undef rfl (Or.inr ⟨by rfl, rfl⟩) ?_; simp only [Act.put, tA, tB, tC, tD, tE, tF])
    (refine tk 26 ?_ rfl (Or.inl ⟨by rfl, ?_⟩) ?_; rotate_left; (focus (intro w h; (try dsimp only at h); go_simp; (try with_reducible rfl))); simp only [Act.put, tA, tB, tC, tD, tE, tF])
    refine wpAnyH_done (by kernel_rfl) ?_ _
    clear x8 r1 r3
    go_wp2
    go_ret
    exact ⟨by rw [HV.out]; rfl, below_drewN HB.out 1⟩
  ·have hlt' : ¬ (k : Int) < (x.ps.length : Int) := by omega
   have ho := HO.out
   rw [List.take_of_length_le (by rw [txs_len]; omega)] at ho
   obtain ⟨ma, mc, rfl, hgr⟩ := ho.row
   have hML := Nat.le_trans (playL_wsum (txs x.ps)) HF.out.w
   obtain ⟨M, hMe⟩ : ∃ M, M = (playL (txs x.ps)).length := ⟨_, rfl⟩
   have HM : Hid (M = (playL (txs x.ps)).length) := hMe
   rw [← hMe] at hML ⊢
   have hM : M ≤ 1048576 := hML
   have RF := hide hgr
   have HV : Hid (pastB x = decide (viewB (playL (txs x.ps)) allR = scanB x.s.e.b.vs allR x.s.e.b.cs)) := by
    show _ = _
    unfold pastB
    rw [goodT_all HG.out (by omega), Bool.true_and]
   obtain ⟨vz, hvz⟩ : ∃ z, z = vo := ⟨_, rfl⟩
   subst hvz
   clear ho hMe hML hgr HG HO
   have x0 := BX.out.c0
   have x1 := BX.out.c1
   have x2 := BX.out.c2
   have x3 := BX.out.c3
   have x4 := BX.out.c4
   have BB : Hid (Bx (vz.alloc (.cells #[.slice x.s.e.b.va x.s.e.b.vs.length x.s.e.b.vc, .slice x.s.e.b.pa x.s.e.b.ps.length x.s.e.b.pc, .slice x.s.e.b.qa x.s.e.b.qs.length x.s.e.b.qc, .int .i64 x.s.e.b.cs, .int .i64 x.s.e.b.nx] 42)) vz.heap.size [.slice x.s.e.b.va x.s.e.b.vs.length x.s.e.b.vc, .slice x.s.e.b.pa x.s.e.b.ps.length x.s.e.b.pc, .slice x.s.e.b.qa x.s.e.b.qs.length x.s.e.b.qc, .int .i64 x.s.e.b.cs, .int .i64 x.s.e.b.nx]) := Bx.new vz [.slice x.s.e.b.va x.s.e.b.vs.length x.s.e.b.vc, .slice x.s.e.b.pa x.s.e.b.ps.length x.s.e.b.pc, .slice x.s.e.b.qa x.s.e.b.qs.length x.s.e.b.qc, .int .i64 x.s.e.b.cs, .int .i64 x.s.e.b.nx] 42
   have hba : Below vz.heap.size vz (vz.alloc (.cells #[.slice x.s.e.b.va x.s.e.b.vs.length x.s.e.b.vc, .slice x.s.e.b.pa x.s.e.b.ps.length x.s.e.b.pc, .slice x.s.e.b.qa x.s.e.b.qs.length x.s.e.b.qc, .int .i64 x.s.e.b.cs, .int .i64 x.s.e.b.nx] 42)) := (belowRefl vz).alloc (Nat.le_refl _) _
   replace HB : Hid (Below w.heap.size w (vz.alloc (.cells #[.slice x.s.e.b.va x.s.e.b.vs.length x.s.e.b.vc, .slice x.s.e.b.pa x.s.e.b.ps.length x.s.e.b.pc, .slice x.s.e.b.qa x.s.e.b.qs.length x.s.e.b.qc, .int .i64 x.s.e.b.cs, .int .i64 x.s.e.b.nx] 42))) := HB.out.trans (hba.mono HB.out.size)
   replace RF := hide (RF.out.below hba)
   clear hba BX
   go_upto_region 9 with fail
   clear x0 x1 x2 x3 x4 x8
   generalize (vz.alloc (.cells #[.slice x.s.e.b.va x.s.e.b.vs.length x.s.e.b.vc, .slice x.s.e.b.pa x.s.e.b.ps.length x.s.e.b.pc, .slice x.s.e.b.qa x.s.e.b.qs.length x.s.e.b.qc, .int .i64 x.s.e.b.cs, .int .i64 x.s.e.b.nx] 42)) = vy at *
   have b0 := BB.out.c0
   have b3 := BB.out.c3
   refine wp_region_held_drew (S := fun w' => w'.cell? ⟨vz.heap.size, 0, none⟩ = some (.slice x.s.e.b.va x.s.e.b.vs.length x.s.e.b.vc) ∧ w'.cell? ⟨vz.heap.size, 3, none⟩ = some (.int .i64 x.s.e.b.cs)) (by kernel_rfl) ⟨b0, b3⟩ (fun hHeld => ?_)
   (refine tk 0 ?_ rfl (Or.inl ⟨by rfl, ?_⟩) ?_; rotate_left; (focus (intro w h; (try dsimp only at h); go_simp; (try with_reducible rfl))); simp only [Act.put, tA, tB, tD, tE, tF])
   (refine tk 3 ?_ rfl (Or.inl ⟨by rfl, ?_⟩) ?_; rotate_left; (focus (intro w h; (try dsimp only at h); go_simp; (try with_reducible rfl))); simp only [Act.put, tA, tB, tC, tD, tE, tF])
   (refine tk 4 ?_ rfl (Or.inl ⟨by rfl, ?_⟩) ?_; rotate_left; (focus (intro w h; (try dsimp only at h); go_simp; (try with_reducible rfl))); simp only [Act.put, tA, tB, tC, tD, tE, tF])
   (refine tk 6 ?_ rfl (Or.inl ⟨by rfl, ?_⟩) ?_; rotate_left; (focus (intro w h; (try dsimp only at h); go_simp; (try with_reducible rfl))); simp only [Act.put, tA, tB, tC, tD, tE, tF])
   (refine tk 7 ?_ rfl (Or.inl ⟨by rfl, ?_⟩) ?_; rotate_left; (focus (intro w h; (try dsimp only at h); go_simp; (try with_reducible rfl))); simp only [Act.put, tA, tB, tC, tD, tE, tF])
   refine wpAnyH_ready (rs := [1]) (by kernel_rfl) (by simp) ?_
   refine AllReadyH.cons rfl (fun K hK => ?_) AllReadyH.nil
   go_simp
   go_wp2_with fail
   refine (all67 _).mono ?_
   rintro e v1 ⟨rfl, hb⟩
   have hbu := undrew hb
   replace HB : Hid (Below w.heap.size w v1) := HB.out.trans (hbu.mono HB.out.size)
   replace BB : Hid (Bx v1 vz.heap.size [.slice x.s.e.b.va x.s.e.b.vs.length x.s.e.b.vc, .slice x.s.e.b.pa x.s.e.b.ps.length x.s.e.b.pc, .slice x.s.e.b.qa x.s.e.b.qs.length x.s.e.b.qc, .int .i64 x.s.e.b.cs, .int .i64 x.s.e.b.nx]) := BB.out.below hbu
   replace RF : Hid (GRow encR v1 ma (playL (txs x.ps))) := RF.out.below hbu
   go_wp2_with fail
   refine hK.out _ _ ⟨BB.out.c0, BB.out.c3⟩ (fun hHeldv1 => ?_)
   clear hK K hb hbu
   refine wpAnyH_ready (rs := [2]) (by kernel_rfl) (by simp) ?_
   refine AllReadyH.cons rfl (fun K hK => ?_) AllReadyH.nil
   go_simp
   go_wp2_with fail
   refine (sview (playL (txs x.ps)) ma mc M allR HM.out hM _ RF.out).mono ?_
   rintro e v2 ⟨a2, c2, rfl, ho, hb⟩
   replace HB : Hid (Below w.heap.size w v2) := HB.out.trans (hb.mono HB.out.size)
   replace BB : Hid (Bx v2 vz.heap.size [.slice x.s.e.b.va x.s.e.b.vs.length x.s.e.b.vc, .slice x.s.e.b.pa x.s.e.b.ps.length x.s.e.b.pc, .slice x.s.e.b.qa x.s.e.b.qs.length x.s.e.b.qc, .int .i64 x.s.e.b.cs, .int .i64 x.s.e.b.nx]) := BB.out.below hb
   have G2 := hide ho.grow
   clear ho
   go_wp2_with fail
   refine hK.out _ _ ⟨BB.out.c0, BB.out.c3⟩ (fun hHeldv2 => ?_)
   clear hK K hb
   refine wpAnyH_ready (rs := [5]) (by kernel_rfl) (by simp) ?_
   refine AllReadyH.cons rfl (fun K hK => ?_) AllReadyH.nil
   go_simp
   go_wp2_with fail
   refine (all67 _).mono ?_
   rintro e v3 ⟨rfl, hb⟩
   replace HB : Hid (Below w.heap.size w v3) := HB.out.trans (hb.mono HB.out.size)
   replace BB : Hid (Bx v3 vz.heap.size [.slice x.s.e.b.va x.s.e.b.vs.length x.s.e.b.vc, .slice x.s.e.b.pa x.s.e.b.ps.length x.s.e.b.pc, .slice x.s.e.b.qa x.s.e.b.qs.length x.s.e.b.qc, .int .i64 x.s.e.b.cs, .int .i64 x.s.e.b.nx]) := BB.out.below hb
   replace G2 : Hid (GRow encR v3 a2 (viewB (playL (txs x.ps)) allR)) := G2.out.below hb
   go_wp2_with fail
   refine hK.out _ _ ⟨BB.out.c0, BB.out.c3⟩ (fun hHeldv3 => ?_)
   clear hK K hb
   refine wpAnyH_ready (rs := [8]) (by kernel_rfl) (by simp) ?_
   refine AllReadyH.cons rfl (fun K hK => ?_) AllReadyH.nil
   go_simp
   go_wp2_with fail
   refine (CS.out _ HB.out).mono ?_
   rintro e v4 ⟨a4, c4, rfl, ho, hb⟩
   replace HB : Hid (Below w.heap.size w v4) := HB.out.trans (hb.mono HB.out.size)
   replace BB : Hid (Bx v4 vz.heap.size [.slice x.s.e.b.va x.s.e.b.vs.length x.s.e.b.vc, .slice x.s.e.b.pa x.s.e.b.ps.length x.s.e.b.pc, .slice x.s.e.b.qa x.s.e.b.qs.length x.s.e.b.qc, .int .i64 x.s.e.b.cs, .int .i64 x.s.e.b.nx]) := BB.out.below hb
   replace G2 : Hid (GRow encR v4 a2 (viewB (playL (txs x.ps)) allR)) := G2.out.below hb
   have G4 := hide ho.grow
   clear ho
   go_wp2_with fail
   refine hK.out _ _ ⟨BB.out.c0, BB.out.c3⟩ (fun hHeldv4 => ?_)
   clear hK K hb
   have hsl : (viewB (playL (txs x.ps)) allR).length ≤ 100000000 := Nat.le_trans (List.length_filter_le _ _) (by rw [← HM.out]; omega)
   refine wpAnyH_ready (rs := [9]) (by kernel_rfl) (by simp) ?_
   refine AllReadyH.cons rfl (fun K hK => ?_) AllReadyH.nil
   go_simp
   go_wp2_with fail
   refine (spairs (viewB (playL (txs x.ps)) allR) (scanB x.s.e.b.vs allR x.s.e.b.cs) a2 a4 c2 c4 hsl _ G2.out G4.out).mono ?_
   rintro e v5 ⟨rfl, hb⟩
   replace HB : Hid (Below w.heap.size w v5) := HB.out.trans (hb.mono HB.out.size)
   replace BB : Hid (Bx v5 vz.heap.size [.slice x.s.e.b.va x.s.e.b.vs.length x.s.e.b.vc, .slice x.s.e.b.pa x.s.e.b.ps.length x.s.e.b.pc, .slice x.s.e.b.qa x.s.e.b.qs.length x.s.e.b.qc, .int .i64 x.s.e.b.cs, .int .i64 x.s.e.b.nx]) := BB.out.below hb
   rw [← HV.out]
   go_wp2_with fail
   refine hK.out _ _ ⟨BB.out.c0, BB.out.c3⟩ (fun hHeldv5 => ?_)
   clear hK K hb
   (refine tk 10 ?_ rfl (Or.inl ⟨by rfl, ?_⟩) ?_; rotate_left; (focus (intro w h; (try dsimp only at h); go_simp; (try with_reducible rfl))); simp only [Act.put, tA, tB, tC, tD, tE, tF])
   refine wpAnyH_done (by kernel_rfl) ?_ _
   clear b0 b3
   go_wp2
   go_ret
   exact ⟨rfl, HB.out⟩

end Go.Proofs.YtnmggknpllnjiaaGreat

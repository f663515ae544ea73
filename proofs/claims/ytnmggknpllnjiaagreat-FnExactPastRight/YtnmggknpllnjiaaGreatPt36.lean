/- PastRight: the program's, and the document's. -/
import Derived.Test.YtnmggknpllnjiaaGreatPt01
import Derived.Test.YtnmggknpllnjiaaGreatPt35
import Derived.Deep.RegionHeld3
namespace Go.Proofs.YtnmggknpllnjiaaGreat
open Go.RowKit
open KM
open VM
attribute [local go_sem ↓] Go.wp_at_zero Go.wp_at_succ

def doneAll (xs : List Ta) : Bool := xs.all fun y => decide (y.t.st = 3)
def goodT (xs : List Ta) : Bool := ascIB (xs.map fun y : Ta => y.t.cs) && doneAll xs
def pastB (x : Wd) : Bool := goodT x.ps && decide (viewB (playL (txs x.ps)) allR = scanB x.s.e.b.vs allR x.s.e.b.cs)
theorem done_len (xs : List Ta) : doneAll xs = true → (xs.filter (inSt [3])).length = xs.length := fun h => by
 rw [List.filter_eq_self.2]
 intro y hy
 have h1 := List.all_eq_true.1 h y hy
 simpa [inSt, inS] using h1
theorem done_less (xs : List Ta) : doneAll xs = false → (xs.filter (inSt [3])).length < xs.length := fun h => by
 rcases Nat.lt_or_ge (xs.filter (inSt [3])).length xs.length with h1 | h1
 ·exact h1
 ·exfalso
  have h2 : xs.filter (inSt [3]) = xs := (List.filter_sublist).eq_of_length_le h1
  have h3 : doneAll xs = true := List.all_eq_true.2 (fun y hy => by
   rw [← h2] at hy
   have := (List.mem_filter.1 hy).2
   simpa [inSt, inS] using this)
  rw [h3] at h; cases h

theorem one3 (w : World) : GRow encI (w.alloc (.cells #[.int .i64 3] 3)) (some ⟨w.heap.size, 0, none⟩) [3] := by
 have h : GOwn encI 3 (w.alloc (.cells #[.int .i64 3] 3)) w.heap.size (.slice (some ⟨w.heap.size, 0, none⟩) 1 1) [3] := by
  refine ⟨by decide, Or.inr ⟨w.heap.size, 1, #[.int .i64 3], rfl, Nat.le_refl _, heap_alloc_new w _, by simp, by decide, by simp [encI], by simp [encI, Enc.cells]⟩⟩
 exact h.grow
set_option maxRecDepth 100000 in
set_option maxHeartbeats 4000000 in
theorem ipast (x : Wd) (hf : WdFit x) (w : World) (hp : WdRows w x) :
  Calls Tryz.prog 7 #[.agg #[.slice x.s.e.b.va x.s.e.b.vs.length x.s.e.b.vc, .slice x.s.e.b.pa x.s.e.b.ps.length x.s.e.b.pc, .slice x.s.e.b.qa x.s.e.b.qs.length x.s.e.b.qc, .int .i64 x.s.e.b.cs, .int .i64 x.s.e.b.nx, .slice x.s.e.oa x.s.e.os.length x.s.e.oc, .slice x.s.d.sa x.s.d.ss.length x.s.d.sc, .slice x.s.d.pa x.s.d.ps.length x.s.d.pc, .slice x.pa x.ps.length x.pc, .slice x.ca x.cs.length x.cc, .slice x.da x.ds.length x.dc]] w fun e w' => e = .returned (.bool (pastB x)) ∧ Below w.heap.size w w' := by
 have HP : Hid (WdRows w x) := hp
 have HF : Hid (WdFit x) := hf
 have hpn : x.ps.length ≤ 1048576 := by have := hf.p.1; rw [txs_len] at this; exact this
 have hvl : x.s.e.b.vs.length ≤ 1048576 := hf.s.e.b.vl
 clear hp hf
 have BX : Hid (Bx (w.alloc (.cells #[.slice x.s.e.b.va x.s.e.b.vs.length x.s.e.b.vc, .slice x.s.e.b.pa x.s.e.b.ps.length x.s.e.b.pc, .slice x.s.e.b.qa x.s.e.b.qs.length x.s.e.b.qc, .int .i64 x.s.e.b.cs, .int .i64 x.s.e.b.nx, .slice x.s.e.oa x.s.e.os.length x.s.e.oc, .slice x.s.d.sa x.s.d.ss.length x.s.d.sc, .slice x.s.d.pa x.s.d.ps.length x.s.d.pc, .slice x.pa x.ps.length x.pc, .slice x.ca x.cs.length x.cc, .slice x.da x.ds.length x.dc] 51)) w.heap.size [.slice x.s.e.b.va x.s.e.b.vs.length x.s.e.b.vc, .slice x.s.e.b.pa x.s.e.b.ps.length x.s.e.b.pc, .slice x.s.e.b.qa x.s.e.b.qs.length x.s.e.b.qc, .int .i64 x.s.e.b.cs, .int .i64 x.s.e.b.nx, .slice x.s.e.oa x.s.e.os.length x.s.e.oc, .slice x.s.d.sa x.s.d.ss.length x.s.d.sc, .slice x.s.d.pa x.s.d.ps.length x.s.d.pc, .slice x.pa x.ps.length x.pc, .slice x.ca x.cs.length x.cc, .slice x.da x.ds.length x.dc]) := Bx.new w [.slice x.s.e.b.va x.s.e.b.vs.length x.s.e.b.vc, .slice x.s.e.b.pa x.s.e.b.ps.length x.s.e.b.pc, .slice x.s.e.b.qa x.s.e.b.qs.length x.s.e.b.qc, .int .i64 x.s.e.b.cs, .int .i64 x.s.e.b.nx, .slice x.s.e.oa x.s.e.os.length x.s.e.oc, .slice x.s.d.sa x.s.d.ss.length x.s.d.sc, .slice x.s.d.pa x.s.d.ps.length x.s.d.pc, .slice x.pa x.ps.length x.pc, .slice x.ca x.cs.length x.cc, .slice x.da x.ds.length x.dc] 51
 have HB : Hid (Below w.heap.size w (w.alloc (.cells #[.slice x.s.e.b.va x.s.e.b.vs.length x.s.e.b.vc, .slice x.s.e.b.pa x.s.e.b.ps.length x.s.e.b.pc, .slice x.s.e.b.qa x.s.e.b.qs.length x.s.e.b.qc, .int .i64 x.s.e.b.cs, .int .i64 x.s.e.b.nx, .slice x.s.e.oa x.s.e.os.length x.s.e.oc, .slice x.s.d.sa x.s.d.ss.length x.s.d.sc, .slice x.s.d.pa x.s.d.ps.length x.s.d.pc, .slice x.pa x.ps.length x.pc, .slice x.ca x.cs.length x.cc, .slice x.da x.ds.length x.dc] 51))) := (belowRefl w).alloc (Nat.le_refl _) _
 have CA := hide (fun (W : World) (h : Below w.heap.size w W) => iasc x.ps x.pa x.pc x.ps.length rfl (by omega) W (HP.out.p.below h))
 have CI := hide (fun (W : World) (sa : Option Addr) (h : Below w.heap.size w W) (h3 : GRow encI W sa [3]) => inSt49 x.ps x.pa x.pc x.ps.length rfl (by omega) [3] sa 1 (by decide) W (HP.out.p.below h) h3)
 have CS := hide (fun (W : World) (h : Below w.heap.size w W) => iscan x.s.e.b.vs x.s.e.b.va x.s.e.b.vc allR x.s.e.b.cs (by omega) HF.out.s.e.b.vf W (HP.out.s.e.b.v.below h))
 have CP := hide (fun (W : World) (h : Below w.heap.size w W) => iplayed x.ps x.pa x.pc x.ps.length rfl hpn HF.out.p HF.out.w W (HP.out.p.below h))
 go_enter Tryz.func7, Tryz.ntmps7
 go_upto_region 1 with fail
 generalize (w.alloc (.cells #[.slice x.s.e.b.va x.s.e.b.vs.length x.s.e.b.vc, .slice x.s.e.b.pa x.s.e.b.ps.length x.s.e.b.pc, .slice x.s.e.b.qa x.s.e.b.qs.length x.s.e.b.qc, .int .i64 x.s.e.b.cs, .int .i64 x.s.e.b.nx, .slice x.s.e.oa x.s.e.os.length x.s.e.oc, .slice x.s.d.sa x.s.d.ss.length x.s.d.sc, .slice x.s.d.pa x.s.d.ps.length x.s.d.pc, .slice x.pa x.ps.length x.pc, .slice x.ca x.cs.length x.cc, .slice x.da x.ds.length x.dc] 51)) = w0 at *
 have x8 := BX.out.at11.1
 cases hasc : ascIB (x.ps.map fun y : Ta => y.t.cs) with
 | false =>
  rw [hasc] at CA
  have HV : Hid (pastB x = false) := by show _ = _; unfold pastB goodT; rw [hasc]; rfl
  clear hasc
  refine wp_region_held_drew (S := fun w' => w'.cell? ⟨w.heap.size, 8, none⟩ = some (.slice x.pa x.ps.length x.pc)) (by kernel_rfl) x8 (fun hHeld => ?_)
  (refine tk 0 ?_ rfl (Or.inl ⟨by rfl, ?_⟩) ?_; rotate_left; (focus (intro w h; (try dsimp only at h); go_simp; (try with_reducible rfl))); simp only [Act.put, tA, tB, tD, tE, tF])
  (refine tk 1 ?_ rfl (Or.inl ⟨by rfl, ?_⟩) ?_; rotate_left; (focus (intro w h; (try dsimp only at h); go_simp; (try with_reducible rfl))); simp only [Act.put, tA, tB, tC, tD, tE, tF])
  refine wpAnyH_ready (rs := [2]) (by kernel_rfl) (by simp) ?_
  refine AllReadyH.cons rfl (fun K hK => ?_) AllReadyH.nil
  go_simp
  go_wp2_with fail
  refine (by35 x.pa x.pc x.ps.length _).mono ?_
  rintro e v1 ⟨rfl, hb⟩
  have hbu := undrew hb
  replace HB : Hid (Below w.heap.size w v1) := HB.out.trans (hbu.mono HB.out.size)
  replace BX : Hid (Bx v1 w.heap.size [.slice x.s.e.b.va x.s.e.b.vs.length x.s.e.b.vc, .slice x.s.e.b.pa x.s.e.b.ps.length x.s.e.b.pc, .slice x.s.e.b.qa x.s.e.b.qs.length x.s.e.b.qc, .int .i64 x.s.e.b.cs, .int .i64 x.s.e.b.nx, .slice x.s.e.oa x.s.e.os.length x.s.e.oc, .slice x.s.d.sa x.s.d.ss.length x.s.d.sc, .slice x.s.d.pa x.s.d.ps.length x.s.d.pc, .slice x.pa x.ps.length x.pc, .slice x.ca x.cs.length x.cc, .slice x.da x.ds.length x.dc]) := BX.out.below hbu
  go_wp2_with fail
  refine hK.out _ _ BX.out.at11.1 (fun hHeldv1 => ?_)
  clear hK K hb hbu
  refine wpAnyH_ready (rs := [3]) (by kernel_rfl) (by simp) ?_
  refine AllReadyH.cons rfl (fun K hK => ?_) AllReadyH.nil
  go_simp
  go_wp2_with fail
  refine (CA.out _ HB.out).mono ?_
  rintro e v2 ⟨rfl, hb⟩
  replace HB : Hid (Below w.heap.size w v2) := HB.out.trans (hb.mono HB.out.size)
  replace BX : Hid (Bx v2 w.heap.size [.slice x.s.e.b.va x.s.e.b.vs.length x.s.e.b.vc, .slice x.s.e.b.pa x.s.e.b.ps.length x.s.e.b.pc, .slice x.s.e.b.qa x.s.e.b.qs.length x.s.e.b.qc, .int .i64 x.s.e.b.cs, .int .i64 x.s.e.b.nx, .slice x.s.e.oa x.s.e.os.length x.s.e.oc, .slice x.s.d.sa x.s.d.ss.length x.s.d.sc, .slice x.s.d.pa x.s.d.ps.length x.s.d.pc, .slice x.pa x.ps.length x.pc, .slice x.ca x.cs.length x.cc, .slice x.da x.ds.length x.dc]) := BX.out.below hb
  go_wp2_with fail
  refine hK.out _ _ BX.out.at11.1 (fun hHeldv2 => ?_)
  clear hK K hb
  (refine tk 4 ?_ rfl (Or.inl ⟨by rfl, ?_⟩) ?_; rotate_left; (focus (intro w h; (try dsimp only at h); go_simp; (try with_reducible rfl))); simp only [Act.put, tA, tB, tC, tD, tE, tF])
  (refine tk 5 ?_ rfl (Or.inl ⟨by rfl, ?_⟩) ?_; rotate_left; (focus (intro w h; (try dsimp only at h); go_simp; (try with_reducible rfl))); simp only [Act.put, tA, tB, tC, tD, tE, tF])
  (refine tk 6 undef rfl (Or.inr ⟨by rfl, rfl⟩) ?_; simp only [Act.put, tA, tB, tC, tD, tE, tF])
  (refine tk 7 undef rfl (Or.inr ⟨by rfl, rfl⟩) ?_; simp only [Act.put, tA, tB, tC, tD, tE, tF])
  (refine tk 8 undef rfl (Or.inr ⟨by rfl, rfl⟩) ?_; simp only [Act.put, tA, tB, tC, tD, tE, tF])
  (refine tk 9 undef rfl (Or.inr ⟨by rfl, rfl⟩) ?_; simp only [Act.put, tA, tB, tC, tD, tE, tF])
  (refine tk 10 undef rfl (Or.inr ⟨by rfl, rfl⟩) ?_; simp only [Act.put, tA, tB, tC, tD, tE, tF])
  (refine tk 11 undef rfl (Or.inr ⟨by rfl, rfl⟩) ?_; simp only [Act.put, tA, tB, tC, tD, tE, tF])
  (refine tk 12 undef rfl (Or.inr ⟨by rfl, rfl⟩) ?_; simp only [Act.put, tA, tB, tC, tD, tE, tF])
  (refine tk 13 undef rfl (Or.inr ⟨by rfl, rfl⟩) ?_; simp only [Act.put, tA, tB, tC, tD, tE, tF])
  (refine tk 14 undef rfl (Or.inr ⟨by rfl, rfl⟩) ?_; simp only [Act.put, tA, tB, tC, tD, tE, tF])
  (refine tk 15 ?_ rfl (Or.inl ⟨by rfl, ?_⟩) ?_; rotate_left; (focus (intro w h; (try dsimp only at h); go_simp; (try with_reducible rfl))); simp only [Act.put, tA, tB, tC, tD, tE, tF])
  refine wpAnyH_done (by kernel_rfl) ?_ _
  clear x8
  go_wp2
  go_ret
  exact ⟨by rw [HV.out]; rfl, HB.out⟩
 | true =>
  rw [hasc] at CA
  have HA := hide hasc
  clear hasc
  refine wp_region_held_drew (S := fun w' => w'.cell? ⟨w.heap.size, 8, none⟩ = some (.slice x.pa x.ps.length x.pc)) (by kernel_rfl) x8 (fun hHeld => ?_)
  (refine tk 0 ?_ rfl (Or.inl ⟨by rfl, ?_⟩) ?_; rotate_left; (focus (intro w h; (try dsimp only at h); go_simp; (try with_reducible rfl))); simp only [Act.put, tA, tB, tD, tE, tF])
  (refine tk 1 ?_ rfl (Or.inl ⟨by rfl, ?_⟩) ?_; rotate_left; (focus (intro w h; (try dsimp only at h); go_simp; (try with_reducible rfl))); simp only [Act.put, tA, tB, tC, tD, tE, tF])
  refine wpAnyH_ready (rs := [2]) (by kernel_rfl) (by simp) ?_
  refine AllReadyH.cons rfl (fun K hK => ?_) AllReadyH.nil
  go_simp
  go_wp2_with fail
  refine (by35 x.pa x.pc x.ps.length _).mono ?_
  rintro e v1 ⟨rfl, hb⟩
  have hbu := undrew hb
  replace HB : Hid (Below w.heap.size w v1) := HB.out.trans (hbu.mono HB.out.size)
  replace BX : Hid (Bx v1 w.heap.size [.slice x.s.e.b.va x.s.e.b.vs.length x.s.e.b.vc, .slice x.s.e.b.pa x.s.e.b.ps.length x.s.e.b.pc, .slice x.s.e.b.qa x.s.e.b.qs.length x.s.e.b.qc, .int .i64 x.s.e.b.cs, .int .i64 x.s.e.b.nx, .slice x.s.e.oa x.s.e.os.length x.s.e.oc, .slice x.s.d.sa x.s.d.ss.length x.s.d.sc, .slice x.s.d.pa x.s.d.ps.length x.s.d.pc, .slice x.pa x.ps.length x.pc, .slice x.ca x.cs.length x.cc, .slice x.da x.ds.length x.dc]) := BX.out.below hbu
  go_wp2_with fail
  refine hK.out _ _ BX.out.at11.1 (fun hHeldv1 => ?_)
  clear hK K hb hbu
  refine wpAnyH_ready (rs := [3]) (by kernel_rfl) (by simp) ?_
  refine AllReadyH.cons rfl (fun K hK => ?_) AllReadyH.nil
  go_simp
  go_wp2_with fail
  refine (CA.out _ HB.out).mono ?_
  rintro e v2 ⟨rfl, hb⟩
  replace HB : Hid (Below w.heap.size w v2) := HB.out.trans (hb.mono HB.out.size)
  replace BX : Hid (Bx v2 w.heap.size [.slice x.s.e.b.va x.s.e.b.vs.length x.s.e.b.vc, .slice x.s.e.b.pa x.s.e.b.ps.length x.s.e.b.pc, .slice x.s.e.b.qa x.s.e.b.qs.length x.s.e.b.qc, .int .i64 x.s.e.b.cs, .int .i64 x.s.e.b.nx, .slice x.s.e.oa x.s.e.os.length x.s.e.oc, .slice x.s.d.sa x.s.d.ss.length x.s.d.sc, .slice x.s.d.pa x.s.d.ps.length x.s.d.pc, .slice x.pa x.ps.length x.pc, .slice x.ca x.cs.length x.cc, .slice x.da x.ds.length x.dc]) := BX.out.below hb
  go_wp2_with fail
  refine hK.out _ _ BX.out.at11.1 (fun hHeldv2 => ?_)
  clear hK K hb
  (refine tk 4 ?_ rfl (Or.inl ⟨by rfl, ?_⟩) ?_; rotate_left; (focus (intro w h; (try dsimp only at h); go_simp; (try with_reducible rfl))); simp only [Act.put, tA, tB, tC, tD, tE, tF])
  (refine tk 5 ?_ rfl (Or.inl ⟨by rfl, ?_⟩) ?_; rotate_left; (focus (intro w h; (try dsimp only at h); go_simp; (try with_reducible rfl))); simp only [Act.put, tA, tB, tC, tD, tE, tF])
  (refine tk 6 ?_ rfl (Or.inl ⟨by rfl, ?_⟩) ?_; rotate_left; (focus (intro w h; (try dsimp only at h); go_simp; (try with_reducible rfl))); simp only [Act.put, tA, tB, tC, tD, tE, tF])
  (refine tk 7 ?_ rfl (Or.inl ⟨by rfl, ?_⟩) ?_; rotate_left; (focus (intro w h; (try dsimp only at h); go_simp; (try with_reducible rfl))); simp only [Act.put, tA, tB, tC, tD, tE, tF])
  (refine tk 11 ?_ rfl (Or.inl ⟨by rfl, ?_⟩) ?_; rotate_left; (focus (intro w h; (try dsimp only at h); go_simp; (try with_reducible rfl))); simp only [Act.put, tA, tB, tC, tD, tE, tF])
  (refine tk 12 ?_ rfl (Or.inl ⟨by rfl, ?_⟩) ?_; rotate_left; (focus (intro w h; (try dsimp only at h); go_simp; (try with_reducible rfl))); simp only [Act.put, tA, tB, tC, tD, tE, tF])
  (refine tk 13 ?_ rfl (Or.inl ⟨by rfl, ?_⟩) ?_; rotate_left; (focus (intro w h; (try dsimp only at h); go_simp; (try with_reducible rfl))); simp only [Act.put, tA, tB, tC, tD, tE, tF])
  have HG3 : Hid (GRow encI (v2.alloc (.cells #[.int .i64 3] 3)) (some ⟨v2.heap.size, 0, none⟩) [3]) := one3 v2
  replace HB : Hid (Below w.heap.size w (v2.alloc (.cells #[.int .i64 3] 3))) := HB.out.alloc HB.out.size _
  replace BX : Hid (Bx (v2.alloc (.cells #[.int .i64 3] 3)) w.heap.size [.slice x.s.e.b.va x.s.e.b.vs.length x.s.e.b.vc, .slice x.s.e.b.pa x.s.e.b.ps.length x.s.e.b.pc, .slice x.s.e.b.qa x.s.e.b.qs.length x.s.e.b.qc, .int .i64 x.s.e.b.cs, .int .i64 x.s.e.b.nx, .slice x.s.e.oa x.s.e.os.length x.s.e.oc, .slice x.s.d.sa x.s.d.ss.length x.s.d.sc, .slice x.s.d.pa x.s.d.ps.length x.s.d.pc, .slice x.pa x.ps.length x.pc, .slice x.ca x.cs.length x.cc, .slice x.da x.ds.length x.dc]) := BX.out.alloc _
  refine wpAnyH_ready (rs := [8]) (by kernel_rfl) (by simp) ?_
  refine AllReadyH.cons rfl (fun K hK => ?_) AllReadyH.nil
  go_simp
  refine hK.out _ _ BX.out.at11.1 (fun hHeld3 => ?_)
  clear hK K
  refine wpAnyH_ready (rs := [9]) (by kernel_rfl) (by simp) ?_
  refine AllReadyH.cons rfl (fun K hK => ?_) AllReadyH.nil
  go_simp
  go_wp2_with fail
  refine (CI.out _ _ HB.out HG3.out).mono ?_
  rintro e v5 ⟨a5, c5, n5, rfl, hn5, _, hb⟩
  replace HB : Hid (Below w.heap.size w v5) := HB.out.trans (hb.mono HB.out.size)
  replace BX : Hid (Bx v5 w.heap.size [.slice x.s.e.b.va x.s.e.b.vs.length x.s.e.b.vc, .slice x.s.e.b.pa x.s.e.b.ps.length x.s.e.b.pc, .slice x.s.e.b.qa x.s.e.b.qs.length x.s.e.b.qc, .int .i64 x.s.e.b.cs, .int .i64 x.s.e.b.nx, .slice x.s.e.oa x.s.e.os.length x.s.e.oc, .slice x.s.d.sa x.s.d.ss.length x.s.d.sc, .slice x.s.d.pa x.s.d.ps.length x.s.d.pc, .slice x.pa x.ps.length x.pc, .slice x.ca x.cs.length x.cc, .slice x.da x.ds.length x.dc]) := BX.out.below hb
  have HN5 := hide hn5
  clear hn5
  go_wp2_with fail
  refine hK.out _ _ BX.out.at11.1 (fun hHeldv5 => ?_)
  clear hK K hb
  cases hd : doneAll x.ps with
  | false =>
   have hlt : (n5 : Int) < (x.ps.length : Int) := by have := done_less x.ps hd; have := HN5.out; omega
   have HV : Hid (pastB x = false) := by show _ = _; unfold pastB goodT; rw [hd]; simp
   clear hd HN5
   (refine tk 10 ?_ rfl (Or.inl ⟨by rfl, ?_⟩) ?_; rotate_left; (focus (intro w h; (try dsimp only at h); go_simp; (try with_reducible rfl))); simp only [Act.put, tA, tB, tC, tD, tE, tF])
   (refine tk 14 ?_ rfl (Or.inl ⟨by rfl, ?_⟩) ?_; rotate_left; (focus (intro w h; (try dsimp only at h); go_simp; (try with_reducible rfl))); simp only [Act.put, tA, tB, tC, tD, tE, tF])
   (refine tk 15 ?_ rfl (Or.inl ⟨by rfl, ?_⟩) ?_; rotate_left; (focus (intro w h; (try dsimp only at h); go_simp; (try with_reducible rfl))); simp only [Act.put, tA, tB, tC, tD, tE, tF])
   refine wpAnyH_done (by kernel_rfl) ?_ _
   clear x8
   go_wp2
   go_ret
   exact ⟨by rw [HV.out]; rfl, HB.out⟩
  | true =>
   have hnl : ¬ (n5 : Int) < (x.ps.length : Int) := by have := done_len x.ps hd; have := HN5.out; omega
   have hnd : decide ((n5 : Int) < (x.ps.length : Int)) = false := decide_eq_false hnl
   have HDN := hide hd
   clear hd HN5
   (refine tk 10 ?_ rfl (Or.inl ⟨by rfl, ?_⟩) ?_; rotate_left; (focus (intro w h; (try dsimp only at h); go_simp; (try with_reducible rfl))); simp only [Act.put, tA, tB, tC, tD, tE, tF])
   (refine tk 14 ?_ rfl (Or.inl ⟨by rfl, ?_⟩) ?_; rotate_left; (focus (intro w h; (try dsimp only at h); go_simp; (try with_reducible rfl))); simp only [Act.put, tA, tB, tC, tD, tE, tF])
   (refine tk 15 ?_ rfl (Or.inl ⟨by rfl, ?_⟩) ?_; rotate_left; (focus (intro w h; (try dsimp only at h); go_simp; (try with_reducible rfl))); simp only [Act.put, tA, tB, tC, tD, tE, tF])
   refine wpAnyH_done (by kernel_rfl) ?_ _
   clear x8
   clear hnd
   have x0 := BX.out.c0
   have x1 := BX.out.c1
   have x2 := BX.out.c2
   have x3 := BX.out.c3
   have x4 := BX.out.c4
   have BB : Hid (Bx (v5.alloc (.cells #[.slice x.s.e.b.va x.s.e.b.vs.length x.s.e.b.vc, .slice x.s.e.b.pa x.s.e.b.ps.length x.s.e.b.pc, .slice x.s.e.b.qa x.s.e.b.qs.length x.s.e.b.qc, .int .i64 x.s.e.b.cs, .int .i64 x.s.e.b.nx] 42)) v5.heap.size [.slice x.s.e.b.va x.s.e.b.vs.length x.s.e.b.vc, .slice x.s.e.b.pa x.s.e.b.ps.length x.s.e.b.pc, .slice x.s.e.b.qa x.s.e.b.qs.length x.s.e.b.qc, .int .i64 x.s.e.b.cs, .int .i64 x.s.e.b.nx]) := Bx.new v5 [.slice x.s.e.b.va x.s.e.b.vs.length x.s.e.b.vc, .slice x.s.e.b.pa x.s.e.b.ps.length x.s.e.b.pc, .slice x.s.e.b.qa x.s.e.b.qs.length x.s.e.b.qc, .int .i64 x.s.e.b.cs, .int .i64 x.s.e.b.nx] 42
   replace HB : Hid (Below w.heap.size w (v5.alloc (.cells #[.slice x.s.e.b.va x.s.e.b.vs.length x.s.e.b.vc, .slice x.s.e.b.pa x.s.e.b.ps.length x.s.e.b.pc, .slice x.s.e.b.qa x.s.e.b.qs.length x.s.e.b.qc, .int .i64 x.s.e.b.cs, .int .i64 x.s.e.b.nx] 42))) := HB.out.alloc HB.out.size _
   replace BX : Hid (Bx (v5.alloc (.cells #[.slice x.s.e.b.va x.s.e.b.vs.length x.s.e.b.vc, .slice x.s.e.b.pa x.s.e.b.ps.length x.s.e.b.pc, .slice x.s.e.b.qa x.s.e.b.qs.length x.s.e.b.qc, .int .i64 x.s.e.b.cs, .int .i64 x.s.e.b.nx] 42)) w.heap.size [.slice x.s.e.b.va x.s.e.b.vs.length x.s.e.b.vc, .slice x.s.e.b.pa x.s.e.b.ps.length x.s.e.b.pc, .slice x.s.e.b.qa x.s.e.b.qs.length x.s.e.b.qc, .int .i64 x.s.e.b.cs, .int .i64 x.s.e.b.nx, .slice x.s.e.oa x.s.e.os.length x.s.e.oc, .slice x.s.d.sa x.s.d.ss.length x.s.d.sc, .slice x.s.d.pa x.s.d.ps.length x.s.d.pc, .slice x.pa x.ps.length x.pc, .slice x.ca x.cs.length x.cc, .slice x.da x.ds.length x.dc]) := BX.out.alloc _
   go_upto_region 4 with fail
   clear x0 x1 x2 x3 x4 hnl
   generalize (v5.alloc (.cells #[.slice x.s.e.b.va x.s.e.b.vs.length x.s.e.b.vc, .slice x.s.e.b.pa x.s.e.b.ps.length x.s.e.b.pc, .slice x.s.e.b.qa x.s.e.b.qs.length x.s.e.b.qc, .int .i64 x.s.e.b.cs, .int .i64 x.s.e.b.nx] 42)) = v6 at *
   have b0 := BB.out.c0
   have b3 := BB.out.c3
   refine wp_region_held_drew (S := fun w' => w'.cell? ⟨v5.heap.size, 0, none⟩ = some (.slice x.s.e.b.va x.s.e.b.vs.length x.s.e.b.vc) ∧ w'.cell? ⟨v5.heap.size, 3, none⟩ = some (.int .i64 x.s.e.b.cs)) (by kernel_rfl) ⟨b0, b3⟩ (fun hHeld => ?_)
   (refine tk 0 ?_ rfl (Or.inl ⟨by rfl, ?_⟩) ?_; rotate_left; (focus (intro w h; (try dsimp only at h); go_simp; (try with_reducible rfl))); simp only [Act.put, tA, tB, tD, tE, tF])
   (refine tk 1 ?_ rfl (Or.inl ⟨by rfl, ?_⟩) ?_; rotate_left; (focus (intro w h; (try dsimp only at h); go_simp; (try with_reducible rfl))); simp only [Act.put, tA, tB, tC, tD, tE, tF])
   (refine tk 3 ?_ rfl (Or.inl ⟨by rfl, ?_⟩) ?_; rotate_left; (focus (intro w h; (try dsimp only at h); go_simp; (try with_reducible rfl))); simp only [Act.put, tA, tB, tC, tD, tE, tF])
   (refine tk 4 ?_ rfl (Or.inl ⟨by rfl, ?_⟩) ?_; rotate_left; (focus (intro w h; (try dsimp only at h); go_simp; (try with_reducible rfl))); simp only [Act.put, tA, tB, tC, tD, tE, tF])
   refine wpAnyH_ready (rs := [2]) (by kernel_rfl) (by simp) ?_
   refine AllReadyH.cons rfl (fun K hK => ?_) AllReadyH.nil
   go_simp
   go_wp2_with fail
   refine (all66 _).mono ?_
   rintro e v7 ⟨rfl, hb⟩
   have hbu := undrew hb
   replace HB : Hid (Below w.heap.size w v7) := HB.out.trans (hbu.mono HB.out.size)
   replace BX : Hid (Bx v7 w.heap.size [.slice x.s.e.b.va x.s.e.b.vs.length x.s.e.b.vc, .slice x.s.e.b.pa x.s.e.b.ps.length x.s.e.b.pc, .slice x.s.e.b.qa x.s.e.b.qs.length x.s.e.b.qc, .int .i64 x.s.e.b.cs, .int .i64 x.s.e.b.nx, .slice x.s.e.oa x.s.e.os.length x.s.e.oc, .slice x.s.d.sa x.s.d.ss.length x.s.d.sc, .slice x.s.d.pa x.s.d.ps.length x.s.d.pc, .slice x.pa x.ps.length x.pc, .slice x.ca x.cs.length x.cc, .slice x.da x.ds.length x.dc]) := BX.out.below hbu
   replace BB : Hid (Bx v7 v5.heap.size [.slice x.s.e.b.va x.s.e.b.vs.length x.s.e.b.vc, .slice x.s.e.b.pa x.s.e.b.ps.length x.s.e.b.pc, .slice x.s.e.b.qa x.s.e.b.qs.length x.s.e.b.qc, .int .i64 x.s.e.b.cs, .int .i64 x.s.e.b.nx]) := BB.out.below hbu
   go_wp2_with fail
   refine hK.out _ _ ⟨BB.out.c0, BB.out.c3⟩ (fun hHeldv7 => ?_)
   clear hK K hb hbu
   refine wpAnyH_ready (rs := [5]) (by kernel_rfl) (by simp) ?_
   refine AllReadyH.cons rfl (fun K hK => ?_) AllReadyH.nil
   go_simp
   go_wp2_with fail
   refine (CS.out _ HB.out).mono ?_
   rintro e v8 ⟨a8, c8, rfl, ho8, hb⟩
   replace HB : Hid (Below w.heap.size w v8) := HB.out.trans (hb.mono HB.out.size)
   replace BX : Hid (Bx v8 w.heap.size [.slice x.s.e.b.va x.s.e.b.vs.length x.s.e.b.vc, .slice x.s.e.b.pa x.s.e.b.ps.length x.s.e.b.pc, .slice x.s.e.b.qa x.s.e.b.qs.length x.s.e.b.qc, .int .i64 x.s.e.b.cs, .int .i64 x.s.e.b.nx, .slice x.s.e.oa x.s.e.os.length x.s.e.oc, .slice x.s.d.sa x.s.d.ss.length x.s.d.sc, .slice x.s.d.pa x.s.d.ps.length x.s.d.pc, .slice x.pa x.ps.length x.pc, .slice x.ca x.cs.length x.cc, .slice x.da x.ds.length x.dc]) := BX.out.below hb
   replace BB : Hid (Bx v8 v5.heap.size [.slice x.s.e.b.va x.s.e.b.vs.length x.s.e.b.vc, .slice x.s.e.b.pa x.s.e.b.ps.length x.s.e.b.pc, .slice x.s.e.b.qa x.s.e.b.qs.length x.s.e.b.qc, .int .i64 x.s.e.b.cs, .int .i64 x.s.e.b.nx]) := BB.out.below hb
   have G8 := hide ho8.grow
   clear ho8
   go_wp2_with fail
   refine hK.out _ _ ⟨BB.out.c0, BB.out.c3⟩ (fun hHeldv8 => ?_)
   clear hK K hb
   (refine tk 6 ?_ rfl (Or.inl ⟨by rfl, ?_⟩) ?_; rotate_left; (focus (intro w h; (try dsimp only at h); go_simp; (try with_reducible rfl))); simp only [Act.put, tA, tB, tC, tD, tE, tF])
   refine wpAnyH_done (by kernel_rfl) ?_ _
   clear b0 b3
   have x8 := BX.out.at11.1
   go_wp2_with fail
   refine (CP.out _ HB.out).mono ?_
   rintro e v9 ⟨a9, c9, L9, rfl, hL9, ho9, hb⟩
   replace HB : Hid (Below w.heap.size w v9) := HB.out.trans (hb.mono HB.out.size)
   replace G8 := hide (G8.out.below hb)
   have HL9 := hide hL9
   have G9 : Hid (GRow encR v9 a9 (playL (txs x.ps))) := by have h := ho9; rw [hL9] at h; exact h.grow
   have hL9b : L9 ≤ 1048576 := by rw [hL9]; exact Nat.le_trans (playL_wsum _) HF.out.w
   have HPF : Hid (RFit (playL (txs x.ps))) := playL_rfit _ HF.out.p.wfit
   clear hL9 ho9 hb x8 CA CI CS CP
   go_wp2_with fail
   refine (all66 _).mono ?_
   rintro e v10 ⟨rfl, hb⟩
   replace HB : Hid (Below w.heap.size w v10) := HB.out.trans (hb.mono HB.out.size)
   replace G8 := hide (G8.out.below hb)
   replace G9 := hide (G9.out.below hb)
   clear hb
   go_wp2_with fail
   refine (iview (playL (txs x.ps)) a9 c9 L9 allR HL9.out hL9b HPF.out _ G9.out).mono ?_
   rintro e v11 ⟨a11, c11, rfl, ho, hb⟩
   replace HB : Hid (Below w.heap.size w v11) := HB.out.trans (hb.mono HB.out.size)
   replace G8 := hide (G8.out.below hb)
   have G11 := hide ho.grow
   clear hb ho G9
   have hsl : (scanB x.s.e.b.vs allR x.s.e.b.cs).length ≤ 100000000 := Nat.le_trans (scan_len _ _ _) (by omega)
   have HV : Hid (pastB x = decide (scanB x.s.e.b.vs allR x.s.e.b.cs = viewB (playL (txs x.ps)) allR)) := by
    show _ = _
    unfold pastB goodT
    rw [HA.out, HDN.out]
    simp [eq_comm]
   go_wp2_with fail
   refine (ipairs (scanB x.s.e.b.vs allR x.s.e.b.cs) (viewB (playL (txs x.ps)) allR) a8 a11 c8 c11 hsl _ G8.out G11.out).mono ?_
   rintro e v12 ⟨rfl, hb⟩
   rw [← HV.out]
   replace HB : Hid (Below w.heap.size w v12) := HB.out.trans (hb.mono HB.out.size)
   clear hb
   go_wp2
   go_ret
   exact ⟨rfl, HB.out⟩

end Go.Proofs.YtnmggknpllnjiaaGreat

/- EngineOk, by the document. -/
import Derived.Test.YtjeicgibddfifaaGreatPb01
import Derived.Test.YtjeicgibddfifaaGreatPb17
import Derived.Test.YtjeicgibddfifaaGreatPb30
import Derived.Test.YtjeicgibddfifaaGreatPb08
import Derived.Deep.RegionHeld3
import Derived.Deep.Cut
import Derived.Deep.CutRange
namespace Go.Proofs.YtjeicgibddfifaaGreat
open Go.RowKit
open KM
attribute [local go_sem ↓] Go.wp_at_zero Go.wp_at_succ

set_option maxRecDepth 100000 in
set_option maxHeartbeats 8000000 in
theorem seok (e : En) (hf : EnFit e) (w : World) (hp : EnRows w e) :
  Calls Tryz.prog 7 #[.agg #[.slice e.b.va e.b.vs.length e.b.vc, .slice e.b.pa e.b.ps.length e.b.pc, .slice e.b.qa e.b.qs.length e.b.qc, .int .i64 e.b.cs, .int .i64 e.b.nx, .slice e.oa e.os.length e.oc]] w fun ex w' => ex = .returned (.bool (seB e)) ∧ Below w.heap.size w w' := by
 have BA0 : Hid (Bx (w.alloc (.cells #[.slice e.b.va e.b.vs.length e.b.vc, .slice e.b.pa e.b.ps.length e.b.pc, .slice e.b.qa e.b.qs.length e.b.qc, .int .i64 e.b.cs, .int .i64 e.b.nx, .slice e.oa e.os.length e.oc] 35)) w.heap.size [.slice e.b.va e.b.vs.length e.b.vc, .slice e.b.pa e.b.ps.length e.b.pc, .slice e.b.qa e.b.qs.length e.b.qc, .int .i64 e.b.cs, .int .i64 e.b.nx, .slice e.oa e.os.length e.oc]) := Bx.new w [.slice e.b.va e.b.vs.length e.b.vc, .slice e.b.pa e.b.ps.length e.b.pc, .slice e.b.qa e.b.qs.length e.b.qc, .int .i64 e.b.cs, .int .i64 e.b.nx, .slice e.oa e.os.length e.oc] 35
 have HB0 : Hid (Below w.heap.size w (w.alloc (.cells #[.slice e.b.va e.b.vs.length e.b.vc, .slice e.b.pa e.b.ps.length e.b.pc, .slice e.b.qa e.b.qs.length e.b.qc, .int .i64 e.b.cs, .int .i64 e.b.nx, .slice e.oa e.os.length e.oc] 35))) := (belowRefl w).alloc (Nat.le_refl _) _
 have HP : Hid (EnRows w e) := hp
 have HF : Hid (EnFit e) := hf
 have hol : e.os.length ≤ 1048576 := hf.ol
 have hpl : e.b.ps.length ≤ 1048576 := hf.b.pl
 have hql : e.b.qs.length ≤ 1048576 := hf.b.ql
 clear hp hf
 have CB : Hid (∀ W : World, Below w.heap.size w W → Calls Tryz.prog 21 #[.agg #[.slice e.b.va e.b.vs.length e.b.vc, .slice e.b.pa e.b.ps.length e.b.pc, .slice e.b.qa e.b.qs.length e.b.qc, .int .i64 e.b.cs, .int .i64 e.b.nx]] W fun ex w' => ex = .returned (.bool (sbB e.b)) ∧ Below W.heap.size W w') := fun W h => sbase5 e.b HF.out.b W (HP.out.below h).b
 obtain ⟨rb, hrb⟩ : ∃ rb, rb = sbB e.b := ⟨_, rfl⟩
 rw [← hrb] at CB
 have HRB := hide hrb
 clear hrb
 go_enter Tryz.func7, Tryz.ntmps7
 have x0 := BA0.out.c0
 have x1 := BA0.out.c1
 have x2 := BA0.out.c2
 have x3 := BA0.out.c3
 have x4 := BA0.out.c4
 have x5 := BA0.out.c5
 go_wp2_with fail
 refine (CB.out _ HB0.out).mono ?_
 rintro ex w1 ⟨rfl, hb⟩
 have HB1 : Hid (Below w.heap.size w w1) := HB0.out.trans (hb.mono HB0.out.size)
 have BA1 : Hid (Bx w1 w.heap.size [.slice e.b.va e.b.vs.length e.b.vc, .slice e.b.pa e.b.ps.length e.b.pc, .slice e.b.qa e.b.qs.length e.b.qc, .int .i64 e.b.cs, .int .i64 e.b.nx, .slice e.oa e.os.length e.oc]) := BA0.out.below hb
 clear hb HB0 BA0 CB
 clear x0 x1 x2 x3 x4 x5
 cases rb
 ·have HR : Hid (false = seB e) := se_no fun g => by have h := g.1; rw [← HRB.out] at h; cases h
  go_wp2
  go_ret
  exact ⟨ret_bool HR.out, HB1.out⟩
 have x5 := BA1.out.c5
 by_cases h4 : (4 : Int) < (e.os.length : Int)
 ·have HR : Hid (false = seB e) := se_no fun g => by have h := g.2.1; omega
  go_wp2
  go_ret
  exact ⟨ret_bool HR.out, HB1.out⟩
 have HNo : Hid (∀ k (hk : k < e.os.length), ¬ opG e.b e.os k hk → false = seB e) := fun k hk h => se_no fun g => h (g.2.2 k hk)
 have HYes : Hid ((∀ k (hk : k < e.os.length), opG e.b e.os k hk) → true = seB e) := fun h => se_yes ⟨HRB.out.symm, by omega, h⟩
 clear HRB
 go_wp2
 go_loopw [3] (fun t wr => ∃ k : Nat, k ≤ e.os.length ∧ t = .int .i64 k ∧ Hid (opK e.b e.os k) ∧ Hid (Below w.heap.size w wr) ∧ Hid (Bx wr w.heap.size [.slice e.b.va e.b.vs.length e.b.vc, .slice e.b.pa e.b.ps.length e.b.pc, .slice e.b.qa e.b.qs.length e.b.qc, .int .i64 e.b.cs, .int .i64 e.b.nx, .slice e.oa e.os.length e.oc])) (fun t _ => e.os.length - (intOf t).toNat)
 case atStart => exact ⟨0, Nat.zero_le _, rfl, (fun j h hlt => by omega), HB1, BA1⟩
 case round =>
  clear HB1 BA1 x5
  obtain ⟨k, hk, rfl, HG, HB, BA⟩ := hrel
  have x5 := BA.out.c5
  by_cases hlt : k < e.os.length
  ·have hlt' : (k : Int) < (e.os.length : Int) := by omega
   have h0 : (0 : Int) ≤ (k : Int) := by omega
   have HR0 : Hid (EnRows wr e) := HP.out.below HB.out
   obtain ⟨b0, o, hadr, hbl, hc, -⟩ := HR0.out.o.cls k hlt
   have CT : Hid (∀ W : World, Below w.heap.size w W → Calls Tryz.prog 22 #[.agg #[.int .i64 e.os[k].t.id, .int .i64 e.os[k].t.st, .int .i64 e.os[k].t.snap, .int .i64 e.os[k].t.cs, .slice e.os[k].ra e.os[k].t.rs.length e.os[k].rc, .slice e.os[k].wa e.os[k].t.ws.length e.os[k].wc, .bool e.os[k].t.out, .string e.os[k].t.nm]] W fun ex w' => ex = .returned (.bool (txnB e.os[k].t)) ∧ Below W.heap.size W w') := fun W h => stxn e.os[k].t e.os[k].ra e.os[k].wa e.os[k].rc e.os[k].wc (HF.out.o.2 _ (List.mem_map.2 ⟨_, List.getElem_mem hlt, rfl⟩)) W ((HP.out.below h).o.each _ (List.getElem_mem hlt))
   have HGd : Hid (opG e.b e.os k hlt → opK e.b e.os (k + 1)) := fun h => op_more HG.out hlt h
   have HNk : Hid (¬ opG e.b e.os k hlt → false = seB e) := HNo.out k hlt
   obtain ⟨PR, hPR⟩ : ∃ PR : Prop, PR = ∀ (_ : 0 < k), (e.os[k - 1]'(Nat.lt_of_le_of_lt (Nat.sub_le k 1) hlt)).t.id < e.os[k].t.id := ⟨_, rfl⟩
   unfold opG at HGd HNk
   rw [← hPR] at HGd HNk
   have HPR := hide hPR
   clear hPR
   obtain ⟨x, hx⟩ : ∃ x, x = e.os[k] := ⟨_, rfl⟩
   rw [← hx] at hc CT HGd HNk HPR
   clear hx HG
   have y0 := hc.c0
   have y1 := hc.c1
   have y2 := hc.c2
   have y3 := hc.c3
   have y4 := hc.c4
   have y5 := hc.c5
   have y6 := hc.c6
   have y7 := hc.c7
   clear hc
   rw [hadr] at x5
   have HB6 : Hid (Below w.heap.size w (wr.alloc (.cells #[.int .i64 x.t.id, .int .i64 x.t.st, .int .i64 x.t.snap, .int .i64 x.t.cs, .slice x.ra x.t.rs.length x.rc, .slice x.wa x.t.ws.length x.wc, .bool x.t.out, .string x.t.nm] 56))) := HB.out.alloc HB.out.size _
   have BA6 : Hid (Bx (wr.alloc (.cells #[.int .i64 x.t.id, .int .i64 x.t.st, .int .i64 x.t.snap, .int .i64 x.t.cs, .slice x.ra x.t.rs.length x.rc, .slice x.wa x.t.ws.length x.wc, .bool x.t.out, .string x.t.nm] 56)) w.heap.size [.slice e.b.va e.b.vs.length e.b.vc, .slice e.b.pa e.b.ps.length e.b.pc, .slice e.b.qa e.b.qs.length e.b.qc, .int .i64 e.b.cs, .int .i64 e.b.nx, .slice e.oa e.os.length e.oc]) := BA.out.alloc _
   have BT6 : Hid (Bx (wr.alloc (.cells #[.int .i64 x.t.id, .int .i64 x.t.st, .int .i64 x.t.snap, .int .i64 x.t.cs, .slice x.ra x.t.rs.length x.rc, .slice x.wa x.t.ws.length x.wc, .bool x.t.out, .string x.t.nm] 56)) wr.heap.size [.int .i64 x.t.id, .int .i64 x.t.st, .int .i64 x.t.snap, .int .i64 x.t.cs, .slice x.ra x.t.rs.length x.rc, .slice x.wa x.t.ws.length x.wc, .bool x.t.out, .string x.t.nm]) := Bx.new wr [.int .i64 x.t.id, .int .i64 x.t.st, .int .i64 x.t.snap, .int .i64 x.t.cs, .slice x.ra x.t.rs.length x.rc, .slice x.wa x.t.ws.length x.wc, .bool x.t.out, .string x.t.nm] 56
   have HR6 : Hid (EnRows (wr.alloc (.cells #[.int .i64 x.t.id, .int .i64 x.t.st, .int .i64 x.t.snap, .int .i64 x.t.cs, .slice x.ra x.t.rs.length x.rc, .slice x.wa x.t.ws.length x.wc, .bool x.t.out, .string x.t.nm] 56)) e) := HR0.out.below ((belowRefl wr).alloc (Nat.le_refl _) _)
   have hblW : b0 < (wr.alloc (.cells #[.int .i64 x.t.id, .int .i64 x.t.st, .int .i64 x.t.snap, .int .i64 x.t.cs, .slice x.ra x.t.rs.length x.rc, .slice x.wa x.t.ws.length x.wc, .bool x.t.out, .string x.t.nm] 56)).heap.size := by simp; omega
   clear hbl
   have hg6 : wr.heap.size < (wr.alloc (.cells #[.int .i64 x.t.id, .int .i64 x.t.st, .int .i64 x.t.snap, .int .i64 x.t.cs, .slice x.ra x.t.rs.length x.rc, .slice x.wa x.t.ws.length x.wc, .bool x.t.out, .string x.t.nm] 56)).heap.size := by simp
   have hwl : w.heap.size < (wr.alloc (.cells #[.int .i64 x.t.id, .int .i64 x.t.st, .int .i64 x.t.snap, .int .i64 x.t.cs, .slice x.ra x.t.rs.length x.rc, .slice x.wa x.t.ws.length x.wc, .bool x.t.out, .string x.t.nm] 56)).heap.size := BA6.out.lt
   go_upto_region 7 with fail
   clear y0 y1 y2 y3 y4 y5 y6 y7 x5 HB BA HR0
   generalize (wr.alloc (.cells #[.int .i64 x.t.id, .int .i64 x.t.st, .int .i64 x.t.snap, .int .i64 x.t.cs, .slice x.ra x.t.rs.length x.rc, .slice x.wa x.t.ws.length x.wc, .bool x.t.out, .string x.t.nm] 56)) = w6 at *
   generalize wr.heap.size = g6 at *
   clear wr
   have a3 := BA6.out.c3
   have a4 := BA6.out.c4
   have a5 := BA6.out.c5
   rw [hadr] at a5
   have HADR := hide hadr
   clear hadr
   have t0 := BT6.out.c0
   have t1 := BT6.out.c1
   have t2 := BT6.out.c2
   have t3 := BT6.out.c3
   have t4 := BT6.out.c4
   have t5 := BT6.out.c5
   have t6 := BT6.out.c6
   have t7 := BT6.out.c7
   obtain ⟨rt, hrt⟩ : ∃ rt, rt = txnB x.t := ⟨_, rfl⟩
   rw [← hrt] at CT
   have HRT := hide hrt
   clear hrt
   go_cut [68] from 29 to 68 (fun c wx => ∃ cn : Bool, c = .bool cn ∧ Hid (cn = false ↔ ((txnB x.t = true ∧ x.t.st = 1 ∧ x.t.id < e.b.nx ∧ x.t.snap ≤ e.b.cs) ∧ PR)) ∧ Hid (Below w6.heap.size w6 wx))
   case first =>
    by_cases hk0 : 0 < k
    ·obtain ⟨p, hp⟩ : ∃ p, p = k - 1 := ⟨_, rfl⟩
     have hpk : p < e.os.length := by omega
     obtain ⟨b9, o9, hadr9, hbl9, hc9, -⟩ := HR6.out.o.cls p hpk
     rw [HADR.out] at hadr9
     cases hadr9
     have e1 : IntKind.i64.wrap ((k : Int) - 1) = (p : Int) := by rw [IntKind.wrap_i64]; omega
     have hpn : (p : Int) < (e.os.length : Int) := by omega
     have hp0 : (0 : Int) ≤ (p : Int) := by omega
     have hkd : decide ((0 : Int) < (k : Int)) = true := decide_eq_true (by omega)
     have hkd' : (0 : Int) < (k : Int) := by omega
     have HPRi : Hid (PR ↔ e.os[p].t.id < x.t.id) := by
      show _ ↔ _
      rw [HPR.out]
      have e9 : k - 1 = p := hp.symm
      simp only [e9]
      exact ⟨fun h => h hk0, fun h _ => h⟩
     obtain ⟨y, hy⟩ : ∃ y, y = e.os[p] := ⟨_, rfl⟩
     rw [← hy] at hc9 HPRi
     have q0 := hc9.c0
     clear hy hc9 hp hpk hbl9
     refine wp_region_held_drew (S := fun w' => w'.cell? ⟨w.heap.size, 3, none⟩ = some (.int .i64 e.b.cs) ∧ w'.cell? ⟨w.heap.size, 4, none⟩ = some (.int .i64 e.b.nx) ∧ w'.cell? ⟨w.heap.size, 5, none⟩ = some (.slice (some ⟨b0, o, none⟩) e.os.length e.oc) ∧ w'.cell? ⟨g6, 0, none⟩ = some (.int .i64 x.t.id) ∧ w'.cell? ⟨g6, 1, none⟩ = some (.int .i64 x.t.st) ∧ w'.cell? ⟨g6, 2, none⟩ = some (.int .i64 x.t.snap) ∧ w'.cell? ⟨g6, 3, none⟩ = some (.int .i64 x.t.cs) ∧ w'.cell? ⟨g6, 4, none⟩ = some (.slice x.ra x.t.rs.length x.rc) ∧ w'.cell? ⟨g6, 5, none⟩ = some (.slice x.wa x.t.ws.length x.wc) ∧ w'.cell? ⟨g6, 6, none⟩ = some (.bool x.t.out) ∧ w'.cell? ⟨g6, 7, none⟩ = some (.string x.t.nm) ∧ w'.cell? ⟨b0, o + p * 8, none⟩ = some (.int .i64 y.t.id)) (by kernel_rfl) ⟨a3, a4, a5, t0, t1, t2, t3, t4, t5, t6, t7, q0⟩ (fun hHeld => ?_)
     (refine tk 0 ?_ rfl (Or.inl ⟨by rfl, ?_⟩) ?_; rotate_left; (focus (intro w h; (try dsimp only at h); go_simp; (try with_reducible rfl))); simp only [Act.put, tA, tB, tD, tE, tF])
     refine wpAnyH_ready (rs := [1]) (by kernel_rfl) (by simp) ?_
     refine AllReadyH.cons rfl (fun K hK => ?_) AllReadyH.nil
     go_simp
     go_wp2_with fail
     refine (CT.out _ HB6.out.drew).mono ?_
     rintro ex w7 ⟨rfl, hb7⟩
     go_wp2_with fail
     refine hK.out _ _ ⟨(hb7.cell (p := ⟨w.heap.size, 3, none⟩) hwl).trans a3, (hb7.cell (p := ⟨w.heap.size, 4, none⟩) hwl).trans a4, (hb7.cell (p := ⟨w.heap.size, 5, none⟩) hwl).trans a5, (hb7.cell (p := ⟨g6, 0, none⟩) hg6).trans t0, (hb7.cell (p := ⟨g6, 1, none⟩) hg6).trans t1, (hb7.cell (p := ⟨g6, 2, none⟩) hg6).trans t2, (hb7.cell (p := ⟨g6, 3, none⟩) hg6).trans t3, (hb7.cell (p := ⟨g6, 4, none⟩) hg6).trans t4, (hb7.cell (p := ⟨g6, 5, none⟩) hg6).trans t5, (hb7.cell (p := ⟨g6, 6, none⟩) hg6).trans t6, (hb7.cell (p := ⟨g6, 7, none⟩) hg6).trans t7, (hb7.cell (p := ⟨b0, o + p * 8, none⟩) hblW).trans q0⟩ (fun hHeld7 => ?_)
     clear hK K
     (refine tk 2 ?_ rfl (Or.inl ⟨by rfl, ?_⟩) ?_; rotate_left; (focus (intro w h; (try dsimp only at h); go_simp; (try with_reducible rfl))); simp only [Act.put, tA, tB, tC, tD, tE, tF])
     (refine tk 3 ?_ rfl (Or.inl ⟨by rfl, ?_⟩) ?_; rotate_left; (focus (intro w h; (try dsimp only at h); go_simp; (try with_reducible rfl))); simp only [Act.put, tA, tB, tC, tD, tE, tF])
     cases rt
     ·(refine tk 4 undef rfl (Or.inr ⟨by rfl, rfl⟩) ?_; simp only [Act.put, tA, tB, tC, tD, tE, tF])
      (refine tk 5 undef rfl (Or.inr ⟨by rfl, rfl⟩) ?_; simp only [Act.put, tA, tB, tC, tD, tE, tF])
      (refine tk 6 undef rfl (Or.inr ⟨by rfl, rfl⟩) ?_; simp only [Act.put, tA, tB, tC, tD, tE, tF])
      (refine tk 7 ?_ rfl (Or.inl ⟨by rfl, ?_⟩) ?_; rotate_left; (focus (intro w h; (try dsimp only at h); go_simp; (try with_reducible rfl))); simp only [Act.put, tA, tB, tC, tD, tE, tF])
      (refine tk 8 ?_ rfl (Or.inl ⟨by rfl, ?_⟩) ?_; rotate_left; (focus (intro w h; (try dsimp only at h); go_simp; (try with_reducible rfl))); simp only [Act.put, tA, tB, tC, tD, tE, tF])
      (refine tk 9 undef rfl (Or.inr ⟨by rfl, rfl⟩) ?_; simp only [Act.put, tA, tB, tC, tD, tE, tF])
      (refine tk 10 undef rfl (Or.inr ⟨by rfl, rfl⟩) ?_; simp only [Act.put, tA, tB, tC, tD, tE, tF])
      (refine tk 11 undef rfl (Or.inr ⟨by rfl, rfl⟩) ?_; simp only [Act.put, tA, tB, tC, tD, tE, tF])
      (refine tk 12 undef rfl (Or.inr ⟨by rfl, rfl⟩) ?_; simp only [Act.put, tA, tB, tC, tD, tE, tF])
      (refine tk 13 undef rfl (Or.inr ⟨by rfl, rfl⟩) ?_; simp only [Act.put, tA, tB, tC, tD, tE, tF])
      (refine tk 14 undef rfl (Or.inr ⟨by rfl, rfl⟩) ?_; simp only [Act.put, tA, tB, tC, tD, tE, tF])
      (refine tk 15 ?_ rfl (Or.inl ⟨by rfl, ?_⟩) ?_; rotate_left; (focus (intro w h; (try dsimp only at h); go_simp; (try with_reducible rfl))); simp only [Act.put, tA, tB, tC, tD, tE, tF])
      (refine tk 16 ?_ rfl (Or.inl ⟨by rfl, ?_⟩) ?_; rotate_left; (focus (intro w h; (try dsimp only at h); go_simp; (try with_reducible rfl))); simp only [Act.put, tA, tB, tC, tD, tE, tF])
      (refine tk 17 undef rfl (Or.inr ⟨by rfl, rfl⟩) ?_; simp only [Act.put, tA, tB, tC, tD, tE, tF])
      (refine tk 18 undef rfl (Or.inr ⟨by rfl, rfl⟩) ?_; simp only [Act.put, tA, tB, tC, tD, tE, tF])
      (refine tk 19 undef rfl (Or.inr ⟨by rfl, rfl⟩) ?_; simp only [Act.put, tA, tB, tC, tD, tE, tF])
      (refine tk 20 undef rfl (Or.inr ⟨by rfl, rfl⟩) ?_; simp only [Act.put, tA, tB, tC, tD, tE, tF])
      (refine tk 21 undef rfl (Or.inr ⟨by rfl, rfl⟩) ?_; simp only [Act.put, tA, tB, tC, tD, tE, tF])
      (refine tk 22 undef rfl (Or.inr ⟨by rfl, rfl⟩) ?_; simp only [Act.put, tA, tB, tC, tD, tE, tF])
      (refine tk 23 ?_ rfl (Or.inl ⟨by rfl, ?_⟩) ?_; rotate_left; (focus (intro w h; (try dsimp only at h); go_simp; (try with_reducible rfl))); simp only [Act.put, tA, tB, tC, tD, tE, tF])
      (refine tk 24 ?_ rfl (Or.inl ⟨by rfl, ?_⟩) ?_; rotate_left; (focus (intro w h; (try dsimp only at h); go_simp; (try with_reducible rfl))); simp only [Act.put, tA, tB, tC, tD, tE, tF])
      (refine tk 25 undef rfl (Or.inr ⟨by rfl, rfl⟩) ?_; simp only [Act.put, tA, tB, tC, tD, tE, tF])
      (refine tk 26 undef rfl (Or.inr ⟨by rfl, rfl⟩) ?_; simp only [Act.put, tA, tB, tC, tD, tE, tF])
      (refine tk 27 undef rfl (Or.inr ⟨by rfl, rfl⟩) ?_; simp only [Act.put, tA, tB, tC, tD, tE, tF])
      (refine tk 28 undef rfl (Or.inr ⟨by rfl, rfl⟩) ?_; simp only [Act.put, tA, tB, tC, tD, tE, tF])
      (refine tk 29 undef rfl (Or.inr ⟨by rfl, rfl⟩) ?_; simp only [Act.put, tA, tB, tC, tD, tE, tF])
      (refine tk 30 undef rfl (Or.inr ⟨by rfl, rfl⟩) ?_; simp only [Act.put, tA, tB, tC, tD, tE, tF])
      (refine tk 31 undef rfl (Or.inr ⟨by rfl, rfl⟩) ?_; simp only [Act.put, tA, tB, tC, tD, tE, tF])
      (refine tk 32 undef rfl (Or.inr ⟨by rfl, rfl⟩) ?_; simp only [Act.put, tA, tB, tC, tD, tE, tF])
      (refine tk 33 undef rfl (Or.inr ⟨by rfl, rfl⟩) ?_; simp only [Act.put, tA, tB, tC, tD, tE, tF])
      (refine tk 34 undef rfl (Or.inr ⟨by rfl, rfl⟩) ?_; simp only [Act.put, tA, tB, tC, tD, tE, tF])
      (refine tk 35 undef rfl (Or.inr ⟨by rfl, rfl⟩) ?_; simp only [Act.put, tA, tB, tC, tD, tE, tF])
      (refine tk 36 undef rfl (Or.inr ⟨by rfl, rfl⟩) ?_; simp only [Act.put, tA, tB, tC, tD, tE, tF])
      (refine tk 37 undef rfl (Or.inr ⟨by rfl, rfl⟩) ?_; simp only [Act.put, tA, tB, tC, tD, tE, tF])
      (refine tk 38 undef rfl (Or.inr ⟨by rfl, rfl⟩) ?_; simp only [Act.put, tA, tB, tC, tD, tE, tF])
      (refine tk 39 ?_ rfl (Or.inl ⟨by rfl, ?_⟩) ?_; rotate_left; (focus (intro w h; (try dsimp only at h); go_simp; (try with_reducible rfl))); simp only [Act.put, tA, tB, tC, tD, tE, tF])
      refine wpAnyH_done (by kernel_rfl) ?_ _
      go_wp2
      go_meet
      exact ⟨true, rfl, ⟨fun h => (by cases h), fun h => by have h9 := h.1.1; rw [← HRT.out] at h9; cases h9⟩, undrew hb7⟩
     (refine tk 4 ?_ rfl (Or.inl ⟨by rfl, ?_⟩) ?_; rotate_left; (focus (intro w h; (try dsimp only at h); go_simp; (try with_reducible rfl))); simp only [Act.put, tA, tB, tC, tD, tE, tF])
     (refine tk 5 ?_ rfl (Or.inl ⟨by rfl, ?_⟩) ?_; rotate_left; (focus (intro w h; (try dsimp only at h); go_simp; (try with_reducible rfl))); simp only [Act.put, tA, tB, tC, tD, tE, tF])
     (refine tk 6 ?_ rfl (Or.inl ⟨by rfl, ?_⟩) ?_; rotate_left; (focus (intro w h; (try dsimp only at h); go_simp; (try with_reducible rfl))); simp only [Act.put, tA, tB, tC, tD, tE, tF])
     cases hst : (x.t.st != 1)
     rotate_left
     ·(refine tk 7 ?_ rfl (Or.inl ⟨by rfl, ?_⟩) ?_; rotate_left; (focus (intro w h; (try dsimp only at h); go_simp; (try with_reducible rfl))); simp only [Act.put, tA, tB, tC, tD, tE, tF])
      (refine tk 8 ?_ rfl (Or.inl ⟨by rfl, ?_⟩) ?_; rotate_left; (focus (intro w h; (try dsimp only at h); go_simp; (try with_reducible rfl))); simp only [Act.put, tA, tB, tC, tD, tE, tF])
      (refine tk 9 undef rfl (Or.inr ⟨by rfl, rfl⟩) ?_; simp only [Act.put, tA, tB, tC, tD, tE, tF])
      (refine tk 10 undef rfl (Or.inr ⟨by rfl, rfl⟩) ?_; simp only [Act.put, tA, tB, tC, tD, tE, tF])
      (refine tk 11 undef rfl (Or.inr ⟨by rfl, rfl⟩) ?_; simp only [Act.put, tA, tB, tC, tD, tE, tF])
      (refine tk 12 undef rfl (Or.inr ⟨by rfl, rfl⟩) ?_; simp only [Act.put, tA, tB, tC, tD, tE, tF])
      (refine tk 13 undef rfl (Or.inr ⟨by rfl, rfl⟩) ?_; simp only [Act.put, tA, tB, tC, tD, tE, tF])
      (refine tk 14 undef rfl (Or.inr ⟨by rfl, rfl⟩) ?_; simp only [Act.put, tA, tB, tC, tD, tE, tF])
      (refine tk 15 ?_ rfl (Or.inl ⟨by rfl, ?_⟩) ?_; rotate_left; (focus (intro w h; (try dsimp only at h); go_simp; (try with_reducible rfl))); simp only [Act.put, tA, tB, tC, tD, tE, tF])
      (refine tk 16 ?_ rfl (Or.inl ⟨by rfl, ?_⟩) ?_; rotate_left; (focus (intro w h; (try dsimp only at h); go_simp; (try with_reducible rfl))); simp only [Act.put, tA, tB, tC, tD, tE, tF])
      (refine tk 17 undef rfl (Or.inr ⟨by rfl, rfl⟩) ?_; simp only [Act.put, tA, tB, tC, tD, tE, tF])
      (refine tk 18 undef rfl (Or.inr ⟨by rfl, rfl⟩) ?_; simp only [Act.put, tA, tB, tC, tD, tE, tF])
      (refine tk 19 undef rfl (Or.inr ⟨by rfl, rfl⟩) ?_; simp only [Act.put, tA, tB, tC, tD, tE, tF])
      (refine tk 20 undef rfl (Or.inr ⟨by rfl, rfl⟩) ?_; simp only [Act.put, tA, tB, tC, tD, tE, tF])
      (refine tk 21 undef rfl (Or.inr ⟨by rfl, rfl⟩) ?_; simp only [Act.put, tA, tB, tC, tD, tE, tF])
      (refine tk 22 undef rfl (Or.inr ⟨by rfl, rfl⟩) ?_; simp only [Act.put, tA, tB, tC, tD, tE, tF])
      (refine tk 23 ?_ rfl (Or.inl ⟨by rfl, ?_⟩) ?_; rotate_left; (focus (intro w h; (try dsimp only at h); go_simp; (try with_reducible rfl))); simp only [Act.put, tA, tB, tC, tD, tE, tF])
      (refine tk 24 ?_ rfl (Or.inl ⟨by rfl, ?_⟩) ?_; rotate_left; (focus (intro w h; (try dsimp only at h); go_simp; (try with_reducible rfl))); simp only [Act.put, tA, tB, tC, tD, tE, tF])
      (refine tk 25 undef rfl (Or.inr ⟨by rfl, rfl⟩) ?_; simp only [Act.put, tA, tB, tC, tD, tE, tF])
      (refine tk 26 undef rfl (Or.inr ⟨by rfl, rfl⟩) ?_; simp only [Act.put, tA, tB, tC, tD, tE, tF])
      (refine tk 27 undef rfl (Or.inr ⟨by rfl, rfl⟩) ?_; simp only [Act.put, tA, tB, tC, tD, tE, tF])
      (refine tk 28 undef rfl (Or.inr ⟨by rfl, rfl⟩) ?_; simp only [Act.put, tA, tB, tC, tD, tE, tF])
      (refine tk 29 undef rfl (Or.inr ⟨by rfl, rfl⟩) ?_; simp only [Act.put, tA, tB, tC, tD, tE, tF])
      (refine tk 30 undef rfl (Or.inr ⟨by rfl, rfl⟩) ?_; simp only [Act.put, tA, tB, tC, tD, tE, tF])
      (refine tk 31 undef rfl (Or.inr ⟨by rfl, rfl⟩) ?_; simp only [Act.put, tA, tB, tC, tD, tE, tF])
      (refine tk 32 undef rfl (Or.inr ⟨by rfl, rfl⟩) ?_; simp only [Act.put, tA, tB, tC, tD, tE, tF])
      (refine tk 33 undef rfl (Or.inr ⟨by rfl, rfl⟩) ?_; simp only [Act.put, tA, tB, tC, tD, tE, tF])
      (refine tk 34 undef rfl (Or.inr ⟨by rfl, rfl⟩) ?_; simp only [Act.put, tA, tB, tC, tD, tE, tF])
      (refine tk 35 undef rfl (Or.inr ⟨by rfl, rfl⟩) ?_; simp only [Act.put, tA, tB, tC, tD, tE, tF])
      (refine tk 36 undef rfl (Or.inr ⟨by rfl, rfl⟩) ?_; simp only [Act.put, tA, tB, tC, tD, tE, tF])
      (refine tk 37 undef rfl (Or.inr ⟨by rfl, rfl⟩) ?_; simp only [Act.put, tA, tB, tC, tD, tE, tF])
      (refine tk 38 undef rfl (Or.inr ⟨by rfl, rfl⟩) ?_; simp only [Act.put, tA, tB, tC, tD, tE, tF])
      (refine tk 39 ?_ rfl (Or.inl ⟨by rfl, ?_⟩) ?_; rotate_left; (focus (intro w h; (try dsimp only at h); go_simp; (try with_reducible rfl))); simp only [Act.put, tA, tB, tC, tD, tE, tF])
      refine wpAnyH_done (by kernel_rfl) ?_ _
      go_wp2
      go_meet
      exact ⟨true, rfl, ⟨fun h => (by cases h), fun h => by have h9 := h.1.2.1; simp [h9] at hst⟩, undrew hb7⟩
     (refine tk 7 ?_ rfl (Or.inl ⟨by rfl, ?_⟩) ?_; rotate_left; (focus (intro w h; (try dsimp only at h); go_simp; (try with_reducible rfl))); simp only [Act.put, tA, tB, tC, tD, tE, tF])
     (refine tk 8 ?_ rfl (Or.inl ⟨by rfl, ?_⟩) ?_; rotate_left; (focus (intro w h; (try dsimp only at h); go_simp; (try with_reducible rfl))); simp only [Act.put, tA, tB, tC, tD, tE, tF])
     (refine tk 9 ?_ rfl (Or.inl ⟨by rfl, ?_⟩) ?_; rotate_left; (focus (intro w h; (try dsimp only at h); go_simp; (try with_reducible rfl))); simp only [Act.put, tA, tB, tC, tD, tE, tF])
     (refine tk 10 ?_ rfl (Or.inl ⟨by rfl, ?_⟩) ?_; rotate_left; (focus (intro w h; (try dsimp only at h); go_simp; (try with_reducible rfl))); simp only [Act.put, tA, tB, tC, tD, tE, tF])
     (refine tk 11 ?_ rfl (Or.inl ⟨by rfl, ?_⟩) ?_; rotate_left; (focus (intro w h; (try dsimp only at h); go_simp; (try with_reducible rfl))); simp only [Act.put, tA, tB, tC, tD, tE, tF])
     (refine tk 12 ?_ rfl (Or.inl ⟨by rfl, ?_⟩) ?_; rotate_left; (focus (intro w h; (try dsimp only at h); go_simp; (try with_reducible rfl))); simp only [Act.put, tA, tB, tC, tD, tE, tF])
     (refine tk 13 ?_ rfl (Or.inl ⟨by rfl, ?_⟩) ?_; rotate_left; (focus (intro w h; (try dsimp only at h); go_simp; (try with_reducible rfl))); simp only [Act.put, tA, tB, tC, tD, tE, tF])
     (refine tk 14 ?_ rfl (Or.inl ⟨by rfl, ?_⟩) ?_; rotate_left; (focus (intro w h; (try dsimp only at h); go_simp; (try with_reducible rfl))); simp only [Act.put, tA, tB, tC, tD, tE, tF])
     cases hid : decide (e.b.nx ≤ x.t.id)
     rotate_left
     ·(refine tk 15 ?_ rfl (Or.inl ⟨by rfl, ?_⟩) ?_; rotate_left; (focus (intro w h; (try dsimp only at h); go_simp; (try with_reducible rfl))); simp only [Act.put, tA, tB, tC, tD, tE, tF])
      (refine tk 16 ?_ rfl (Or.inl ⟨by rfl, ?_⟩) ?_; rotate_left; (focus (intro w h; (try dsimp only at h); go_simp; (try with_reducible rfl))); simp only [Act.put, tA, tB, tC, tD, tE, tF])
      (refine tk 17 undef rfl (Or.inr ⟨by rfl, rfl⟩) ?_; simp only [Act.put, tA, tB, tC, tD, tE, tF])
      (refine tk 18 undef rfl (Or.inr ⟨by rfl, rfl⟩) ?_; simp only [Act.put, tA, tB, tC, tD, tE, tF])
      (refine tk 19 undef rfl (Or.inr ⟨by rfl, rfl⟩) ?_; simp only [Act.put, tA, tB, tC, tD, tE, tF])
      (refine tk 20 undef rfl (Or.inr ⟨by rfl, rfl⟩) ?_; simp only [Act.put, tA, tB, tC, tD, tE, tF])
      (refine tk 21 undef rfl (Or.inr ⟨by rfl, rfl⟩) ?_; simp only [Act.put, tA, tB, tC, tD, tE, tF])
      (refine tk 22 undef rfl (Or.inr ⟨by rfl, rfl⟩) ?_; simp only [Act.put, tA, tB, tC, tD, tE, tF])
      (refine tk 23 ?_ rfl (Or.inl ⟨by rfl, ?_⟩) ?_; rotate_left; (focus (intro w h; (try dsimp only at h); go_simp; (try with_reducible rfl))); simp only [Act.put, tA, tB, tC, tD, tE, tF])
      (refine tk 24 ?_ rfl (Or.inl ⟨by rfl, ?_⟩) ?_; rotate_left; (focus (intro w h; (try dsimp only at h); go_simp; (try with_reducible rfl))); simp only [Act.put, tA, tB, tC, tD, tE, tF])
      (refine tk 25 undef rfl (Or.inr ⟨by rfl, rfl⟩) ?_; simp only [Act.put, tA, tB, tC, tD, tE, tF])
      (refine tk 26 undef rfl (Or.inr ⟨by rfl, rfl⟩) ?_; simp only [Act.put, tA, tB, tC, tD, tE, tF])
      (refine tk 27 undef rfl (Or.inr ⟨by rfl, rfl⟩) ?_; simp only [Act.put, tA, tB, tC, tD, tE, tF])
      (refine tk 28 undef rfl (Or.inr ⟨by rfl, rfl⟩) ?_; simp only [Act.put, tA, tB, tC, tD, tE, tF])
      (refine tk 29 undef rfl (Or.inr ⟨by rfl, rfl⟩) ?_; simp only [Act.put, tA, tB, tC, tD, tE, tF])
      (refine tk 30 undef rfl (Or.inr ⟨by rfl, rfl⟩) ?_; simp only [Act.put, tA, tB, tC, tD, tE, tF])
      (refine tk 31 undef rfl (Or.inr ⟨by rfl, rfl⟩) ?_; simp only [Act.put, tA, tB, tC, tD, tE, tF])
      (refine tk 32 undef rfl (Or.inr ⟨by rfl, rfl⟩) ?_; simp only [Act.put, tA, tB, tC, tD, tE, tF])
      (refine tk 33 undef rfl (Or.inr ⟨by rfl, rfl⟩) ?_; simp only [Act.put, tA, tB, tC, tD, tE, tF])
      (refine tk 34 undef rfl (Or.inr ⟨by rfl, rfl⟩) ?_; simp only [Act.put, tA, tB, tC, tD, tE, tF])
      (refine tk 35 undef rfl (Or.inr ⟨by rfl, rfl⟩) ?_; simp only [Act.put, tA, tB, tC, tD, tE, tF])
      (refine tk 36 undef rfl (Or.inr ⟨by rfl, rfl⟩) ?_; simp only [Act.put, tA, tB, tC, tD, tE, tF])
      (refine tk 37 undef rfl (Or.inr ⟨by rfl, rfl⟩) ?_; simp only [Act.put, tA, tB, tC, tD, tE, tF])
      (refine tk 38 undef rfl (Or.inr ⟨by rfl, rfl⟩) ?_; simp only [Act.put, tA, tB, tC, tD, tE, tF])
      (refine tk 39 ?_ rfl (Or.inl ⟨by rfl, ?_⟩) ?_; rotate_left; (focus (intro w h; (try dsimp only at h); go_simp; (try with_reducible rfl))); simp only [Act.put, tA, tB, tC, tD, tE, tF])
      refine wpAnyH_done (by kernel_rfl) ?_ _
      go_wp2
      go_meet
      exact ⟨true, rfl, ⟨fun h => (by cases h), fun h => by have h9 := h.1.2.2.1; have h8 : e.b.nx ≤ x.t.id := (by simpa using hid); omega⟩, undrew hb7⟩
     (refine tk 15 ?_ rfl (Or.inl ⟨by rfl, ?_⟩) ?_; rotate_left; (focus (intro w h; (try dsimp only at h); go_simp; (try with_reducible rfl))); simp only [Act.put, tA, tB, tC, tD, tE, tF])
     (refine tk 16 ?_ rfl (Or.inl ⟨by rfl, ?_⟩) ?_; rotate_left; (focus (intro w h; (try dsimp only at h); go_simp; (try with_reducible rfl))); simp only [Act.put, tA, tB, tC, tD, tE, tF])
     (refine tk 17 ?_ rfl (Or.inl ⟨by rfl, ?_⟩) ?_; rotate_left; (focus (intro w h; (try dsimp only at h); go_simp; (try with_reducible rfl))); simp only [Act.put, tA, tB, tC, tD, tE, tF])
     (refine tk 18 ?_ rfl (Or.inl ⟨by rfl, ?_⟩) ?_; rotate_left; (focus (intro w h; (try dsimp only at h); go_simp; (try with_reducible rfl))); simp only [Act.put, tA, tB, tC, tD, tE, tF])
     (refine tk 19 ?_ rfl (Or.inl ⟨by rfl, ?_⟩) ?_; rotate_left; (focus (intro w h; (try dsimp only at h); go_simp; (try with_reducible rfl))); simp only [Act.put, tA, tB, tC, tD, tE, tF])
     (refine tk 20 ?_ rfl (Or.inl ⟨by rfl, ?_⟩) ?_; rotate_left; (focus (intro w h; (try dsimp only at h); go_simp; (try with_reducible rfl))); simp only [Act.put, tA, tB, tC, tD, tE, tF])
     (refine tk 21 ?_ rfl (Or.inl ⟨by rfl, ?_⟩) ?_; rotate_left; (focus (intro w h; (try dsimp only at h); go_simp; (try with_reducible rfl))); simp only [Act.put, tA, tB, tC, tD, tE, tF])
     (refine tk 22 ?_ rfl (Or.inl ⟨by rfl, ?_⟩) ?_; rotate_left; (focus (intro w h; (try dsimp only at h); go_simp; (try with_reducible rfl))); simp only [Act.put, tA, tB, tC, tD, tE, tF])
     cases hsn : decide (e.b.cs < x.t.snap)
     rotate_left
     ·(refine tk 23 ?_ rfl (Or.inl ⟨by rfl, ?_⟩) ?_; rotate_left; (focus (intro w h; (try dsimp only at h); go_simp; (try with_reducible rfl))); simp only [Act.put, tA, tB, tC, tD, tE, tF])
      (refine tk 24 ?_ rfl (Or.inl ⟨by rfl, ?_⟩) ?_; rotate_left; (focus (intro w h; (try dsimp only at h); go_simp; (try with_reducible rfl))); simp only [Act.put, tA, tB, tC, tD, tE, tF])
      (refine tk 25 undef rfl (Or.inr ⟨by rfl, rfl⟩) ?_; simp only [Act.put, tA, tB, tC, tD, tE, tF])
      (refine tk 26 undef rfl (Or.inr ⟨by rfl, rfl⟩) ?_; simp only [Act.put, tA, tB, tC, tD, tE, tF])
      (refine tk 27 undef rfl (Or.inr ⟨by rfl, rfl⟩) ?_; simp only [Act.put, tA, tB, tC, tD, tE, tF])
      (refine tk 28 undef rfl (Or.inr ⟨by rfl, rfl⟩) ?_; simp only [Act.put, tA, tB, tC, tD, tE, tF])
      (refine tk 29 undef rfl (Or.inr ⟨by rfl, rfl⟩) ?_; simp only [Act.put, tA, tB, tC, tD, tE, tF])
      (refine tk 30 undef rfl (Or.inr ⟨by rfl, rfl⟩) ?_; simp only [Act.put, tA, tB, tC, tD, tE, tF])
      (refine tk 31 undef rfl (Or.inr ⟨by rfl, rfl⟩) ?_; simp only [Act.put, tA, tB, tC, tD, tE, tF])
      (refine tk 32 undef rfl (Or.inr ⟨by rfl, rfl⟩) ?_; simp only [Act.put, tA, tB, tC, tD, tE, tF])
      (refine tk 33 undef rfl (Or.inr ⟨by rfl, rfl⟩) ?_; simp only [Act.put, tA, tB, tC, tD, tE, tF])
      (refine tk 34 undef rfl (Or.inr ⟨by rfl, rfl⟩) ?_; simp only [Act.put, tA, tB, tC, tD, tE, tF])
      (refine tk 35 undef rfl (Or.inr ⟨by rfl, rfl⟩) ?_; simp only [Act.put, tA, tB, tC, tD, tE, tF])
      (refine tk 36 undef rfl (Or.inr ⟨by rfl, rfl⟩) ?_; simp only [Act.put, tA, tB, tC, tD, tE, tF])
      (refine tk 37 undef rfl (Or.inr ⟨by rfl, rfl⟩) ?_; simp only [Act.put, tA, tB, tC, tD, tE, tF])
      (refine tk 38 undef rfl (Or.inr ⟨by rfl, rfl⟩) ?_; simp only [Act.put, tA, tB, tC, tD, tE, tF])
      (refine tk 39 ?_ rfl (Or.inl ⟨by rfl, ?_⟩) ?_; rotate_left; (focus (intro w h; (try dsimp only at h); go_simp; (try with_reducible rfl))); simp only [Act.put, tA, tB, tC, tD, tE, tF])
      refine wpAnyH_done (by kernel_rfl) ?_ _
      go_wp2
      go_meet
      exact ⟨true, rfl, ⟨fun h => (by cases h), fun h => by have h9 := h.1.2.2.2; have h8 : e.b.cs < x.t.snap := (by simpa using hsn); omega⟩, undrew hb7⟩
     (refine tk 23 ?_ rfl (Or.inl ⟨by rfl, ?_⟩) ?_; rotate_left; (focus (intro w h; (try dsimp only at h); go_simp; (try with_reducible rfl))); simp only [Act.put, tA, tB, tC, tD, tE, tF])
     (refine tk 24 ?_ rfl (Or.inl ⟨by rfl, ?_⟩) ?_; rotate_left; (focus (intro w h; (try dsimp only at h); go_simp; (try with_reducible rfl))); simp only [Act.put, tA, tB, tC, tD, tE, tF])
     (refine tk 25 ?_ rfl (Or.inl ⟨by rfl, ?_⟩) ?_; rotate_left; (focus (intro w h; (try dsimp only at h); go_simp; (try with_reducible rfl))); simp only [Act.put, tA, tB, tC, tD, tE, tF])
     (refine tk 26 ?_ rfl (Or.inl ⟨by rfl, ?_⟩) ?_; rotate_left; (focus (intro w h; (try dsimp only at h); go_simp; (try with_reducible rfl))); simp only [Act.put, tA, tB, tC, tD, tE, tF])
     (refine tk 27 ?_ rfl (Or.inl ⟨by rfl, ?_⟩) ?_; rotate_left; (focus (intro w h; (try dsimp only at h); go_simp; (try with_reducible rfl))); simp only [Act.put, tA, tB, tC, tD, tE, tF])
     (refine tk 28 ?_ rfl (Or.inl ⟨by rfl, ?_⟩) ?_; rotate_left; (focus (intro w h; (try dsimp only at h); go_simp; (try with_reducible rfl))); simp only [Act.put, tA, tB, tC, tD, tE, tF])
     (refine tk 29 ?_ rfl (Or.inl ⟨by rfl, ?_⟩) ?_; rotate_left; (focus (intro w h; (try dsimp only at h); go_simp; (try with_reducible rfl))); simp only [Act.put, tA, tB, tC, tD, tE, tF])
     (refine tk 30 ?_ rfl (Or.inl ⟨by rfl, ?_⟩) ?_; rotate_left; (focus (intro w h; (try dsimp only at h); go_simp; (try with_reducible rfl))); simp only [Act.put, tA, tB, tC, tD, tE, tF])
     (refine tk 31 ?_ rfl (Or.inl ⟨by rfl, ?_⟩) ?_; rotate_left; (focus (intro w h; (try dsimp only at h); go_simp; (try with_reducible rfl))); simp only [Act.put, tA, tB, tC, tD, tE, tF])
     (refine tk 32 ?_ rfl (Or.inl ⟨by rfl, ?_⟩) ?_; rotate_left; (focus (intro w h; (try dsimp only at h); go_simp; (try with_reducible rfl))); simp only [Act.put, tA, tB, tC, tD, tE, tF])
     (refine tk 33 ?_ rfl (Or.inl ⟨by rfl, ?_⟩) ?_; rotate_left; (focus (intro w h; (try dsimp only at h); go_simp; (try with_reducible rfl))); simp only [Act.put, tA, tB, tC, tD, tE, tF])
     (refine tk 34 ?_ rfl (Or.inl ⟨by rfl, ?_⟩) ?_; rotate_left; (focus (intro w h; (try dsimp only at h); go_simp; (try with_reducible rfl))); simp only [Act.put, tA, tB, tC, tD, tE, tF])
     (refine tk 35 ?_ rfl (Or.inl ⟨by rfl, ?_⟩) ?_; rotate_left; (focus (intro w h; (try dsimp only at h); go_simp; (try with_reducible rfl))); simp only [Act.put, tA, tB, tC, tD, tE, tF])
     (refine tk 36 ?_ rfl (Or.inl ⟨by rfl, ?_⟩) ?_; rotate_left; (focus (intro w h; (try dsimp only at h); go_simp; (try with_reducible rfl))); simp only [Act.put, tA, tB, tC, tD, tE, tF])
     (refine tk 37 ?_ rfl (Or.inl ⟨by rfl, ?_⟩) ?_; rotate_left; (focus (intro w h; (try dsimp only at h); go_simp; (try with_reducible rfl))); simp only [Act.put, tA, tB, tC, tD, tE, tF])
     cases hpr : decide (x.t.id ≤ y.t.id)
     ·(refine tk 38 ?_ rfl (Or.inl ⟨by rfl, ?_⟩) ?_; rotate_left; (focus (intro w h; (try dsimp only at h); go_simp; (try with_reducible rfl))); simp only [Act.put, tA, tB, tC, tD, tE, tF])
      (refine tk 39 ?_ rfl (Or.inl ⟨by rfl, ?_⟩) ?_; rotate_left; (focus (intro w h; (try dsimp only at h); go_simp; (try with_reducible rfl))); simp only [Act.put, tA, tB, tC, tD, tE, tF])
      refine wpAnyH_done (by kernel_rfl) ?_ _
      go_wp2
      go_meet
      exact ⟨false, rfl, ⟨fun _ => ⟨⟨HRT.out.symm, by simpa using hst, by have h8 : ¬ e.b.nx ≤ x.t.id := (by simpa using hid); omega, by have h8 : ¬ e.b.cs < x.t.snap := (by simpa using hsn); omega⟩, HPRi.out.2 (by have h8 : ¬ x.t.id ≤ y.t.id := (by simpa using hpr); omega)⟩, fun _ => rfl⟩, undrew hb7⟩
     ·(refine tk 38 ?_ rfl (Or.inl ⟨by rfl, ?_⟩) ?_; rotate_left; (focus (intro w h; (try dsimp only at h); go_simp; (try with_reducible rfl))); simp only [Act.put, tA, tB, tC, tD, tE, tF])
      (refine tk 39 ?_ rfl (Or.inl ⟨by rfl, ?_⟩) ?_; rotate_left; (focus (intro w h; (try dsimp only at h); go_simp; (try with_reducible rfl))); simp only [Act.put, tA, tB, tC, tD, tE, tF])
      refine wpAnyH_done (by kernel_rfl) ?_ _
      go_wp2
      go_meet
      exact ⟨true, rfl, ⟨fun h => (by cases h), fun h => by have h9 := HPRi.out.1 h.2; have h8 : x.t.id ≤ y.t.id := (by simpa using hpr); omega⟩, undrew hb7⟩
    ·have hkd : decide ((0 : Int) < (k : Int)) = false := decide_eq_false (by omega)
     have hkd' : ¬ (0 : Int) < (k : Int) := by omega
     refine wp_region_held_drew (S := fun w' => w'.cell? ⟨w.heap.size, 3, none⟩ = some (.int .i64 e.b.cs) ∧ w'.cell? ⟨w.heap.size, 4, none⟩ = some (.int .i64 e.b.nx) ∧ w'.cell? ⟨w.heap.size, 5, none⟩ = some (.slice (some ⟨b0, o, none⟩) e.os.length e.oc) ∧ w'.cell? ⟨g6, 0, none⟩ = some (.int .i64 x.t.id) ∧ w'.cell? ⟨g6, 1, none⟩ = some (.int .i64 x.t.st) ∧ w'.cell? ⟨g6, 2, none⟩ = some (.int .i64 x.t.snap) ∧ w'.cell? ⟨g6, 3, none⟩ = some (.int .i64 x.t.cs) ∧ w'.cell? ⟨g6, 4, none⟩ = some (.slice x.ra x.t.rs.length x.rc) ∧ w'.cell? ⟨g6, 5, none⟩ = some (.slice x.wa x.t.ws.length x.wc) ∧ w'.cell? ⟨g6, 6, none⟩ = some (.bool x.t.out) ∧ w'.cell? ⟨g6, 7, none⟩ = some (.string x.t.nm)) (by kernel_rfl) ⟨a3, a4, a5, t0, t1, t2, t3, t4, t5, t6, t7⟩ (fun hHeld => ?_)
     (refine tk 0 ?_ rfl (Or.inl ⟨by rfl, ?_⟩) ?_; rotate_left; (focus (intro w h; (try dsimp only at h); go_simp; (try with_reducible rfl))); simp only [Act.put, tA, tB, tD, tE, tF])
     refine wpAnyH_ready (rs := [1]) (by kernel_rfl) (by simp) ?_
     refine AllReadyH.cons rfl (fun K hK => ?_) AllReadyH.nil
     go_simp
     go_wp2_with fail
     refine (CT.out _ HB6.out.drew).mono ?_
     rintro ex w7 ⟨rfl, hb7⟩
     go_wp2_with fail
     refine hK.out _ _ ⟨(hb7.cell (p := ⟨w.heap.size, 3, none⟩) hwl).trans a3, (hb7.cell (p := ⟨w.heap.size, 4, none⟩) hwl).trans a4, (hb7.cell (p := ⟨w.heap.size, 5, none⟩) hwl).trans a5, (hb7.cell (p := ⟨g6, 0, none⟩) hg6).trans t0, (hb7.cell (p := ⟨g6, 1, none⟩) hg6).trans t1, (hb7.cell (p := ⟨g6, 2, none⟩) hg6).trans t2, (hb7.cell (p := ⟨g6, 3, none⟩) hg6).trans t3, (hb7.cell (p := ⟨g6, 4, none⟩) hg6).trans t4, (hb7.cell (p := ⟨g6, 5, none⟩) hg6).trans t5, (hb7.cell (p := ⟨g6, 6, none⟩) hg6).trans t6, (hb7.cell (p := ⟨g6, 7, none⟩) hg6).trans t7⟩ (fun hHeld7 => ?_)
     clear hK K
     (refine tk 2 ?_ rfl (Or.inl ⟨by rfl, ?_⟩) ?_; rotate_left; (focus (intro w h; (try dsimp only at h); go_simp; (try with_reducible rfl))); simp only [Act.put, tA, tB, tC, tD, tE, tF])
     (refine tk 3 ?_ rfl (Or.inl ⟨by rfl, ?_⟩) ?_; rotate_left; (focus (intro w h; (try dsimp only at h); go_simp; (try with_reducible rfl))); simp only [Act.put, tA, tB, tC, tD, tE, tF])
     cases rt
     ·(refine tk 4 undef rfl (Or.inr ⟨by rfl, rfl⟩) ?_; simp only [Act.put, tA, tB, tC, tD, tE, tF])
      (refine tk 5 undef rfl (Or.inr ⟨by rfl, rfl⟩) ?_; simp only [Act.put, tA, tB, tC, tD, tE, tF])
      (refine tk 6 undef rfl (Or.inr ⟨by rfl, rfl⟩) ?_; simp only [Act.put, tA, tB, tC, tD, tE, tF])
      (refine tk 7 ?_ rfl (Or.inl ⟨by rfl, ?_⟩) ?_; rotate_left; (focus (intro w h; (try dsimp only at h); go_simp; (try with_reducible rfl))); simp only [Act.put, tA, tB, tC, tD, tE, tF])
      (refine tk 8 ?_ rfl (Or.inl ⟨by rfl, ?_⟩) ?_; rotate_left; (focus (intro w h; (try dsimp only at h); go_simp; (try with_reducible rfl))); simp only [Act.put, tA, tB, tC, tD, tE, tF])
      (refine tk 9 undef rfl (Or.inr ⟨by rfl, rfl⟩) ?_; simp only [Act.put, tA, tB, tC, tD, tE, tF])
      (refine tk 10 undef rfl (Or.inr ⟨by rfl, rfl⟩) ?_; simp only [Act.put, tA, tB, tC, tD, tE, tF])
      (refine tk 11 undef rfl (Or.inr ⟨by rfl, rfl⟩) ?_; simp only [Act.put, tA, tB, tC, tD, tE, tF])
      (refine tk 12 undef rfl (Or.inr ⟨by rfl, rfl⟩) ?_; simp only [Act.put, tA, tB, tC, tD, tE, tF])
      (refine tk 13 undef rfl (Or.inr ⟨by rfl, rfl⟩) ?_; simp only [Act.put, tA, tB, tC, tD, tE, tF])
      (refine tk 14 undef rfl (Or.inr ⟨by rfl, rfl⟩) ?_; simp only [Act.put, tA, tB, tC, tD, tE, tF])
      (refine tk 15 ?_ rfl (Or.inl ⟨by rfl, ?_⟩) ?_; rotate_left; (focus (intro w h; (try dsimp only at h); go_simp; (try with_reducible rfl))); simp only [Act.put, tA, tB, tC, tD, tE, tF])
      (refine tk 16 ?_ rfl (Or.inl ⟨by rfl, ?_⟩) ?_; rotate_left; (focus (intro w h; (try dsimp only at h); go_simp; (try with_reducible rfl))); simp only [Act.put, tA, tB, tC, tD, tE, tF])
      (refine tk 17 undef rfl (Or.inr ⟨by rfl, rfl⟩) ?_; simp only [Act.put, tA, tB, tC, tD, tE, tF])
      (refine tk 18 undef rfl (Or.inr ⟨by rfl, rfl⟩) ?_; simp only [Act.put, tA, tB, tC, tD, tE, tF])
      (refine tk 19 undef rfl (Or.inr ⟨by rfl, rfl⟩) ?_; simp only [Act.put, tA, tB, tC, tD, tE, tF])
      (refine tk 20 undef rfl (Or.inr ⟨by rfl, rfl⟩) ?_; simp only [Act.put, tA, tB, tC, tD, tE, tF])
      (refine tk 21 undef rfl (Or.inr ⟨by rfl, rfl⟩) ?_; simp only [Act.put, tA, tB, tC, tD, tE, tF])
      (refine tk 22 undef rfl (Or.inr ⟨by rfl, rfl⟩) ?_; simp only [Act.put, tA, tB, tC, tD, tE, tF])
      (refine tk 23 ?_ rfl (Or.inl ⟨by rfl, ?_⟩) ?_; rotate_left; (focus (intro w h; (try dsimp only at h); go_simp; (try with_reducible rfl))); simp only [Act.put, tA, tB, tC, tD, tE, tF])
      (refine tk 24 ?_ rfl (Or.inl ⟨by rfl, ?_⟩) ?_; rotate_left; (focus (intro w h; (try dsimp only at h); go_simp; (try with_reducible rfl))); simp only [Act.put, tA, tB, tC, tD, tE, tF])
      (refine tk 25 undef rfl (Or.inr ⟨by rfl, rfl⟩) ?_; simp only [Act.put, tA, tB, tC, tD, tE, tF])
      (refine tk 26 undef rfl (Or.inr ⟨by rfl, rfl⟩) ?_; simp only [Act.put, tA, tB, tC, tD, tE, tF])
      (refine tk 27 undef rfl (Or.inr ⟨by rfl, rfl⟩) ?_; simp only [Act.put, tA, tB, tC, tD, tE, tF])
      (refine tk 28 undef rfl (Or.inr ⟨by rfl, rfl⟩) ?_; simp only [Act.put, tA, tB, tC, tD, tE, tF])
      (refine tk 29 undef rfl (Or.inr ⟨by rfl, rfl⟩) ?_; simp only [Act.put, tA, tB, tC, tD, tE, tF])
      (refine tk 30 undef rfl (Or.inr ⟨by rfl, rfl⟩) ?_; simp only [Act.put, tA, tB, tC, tD, tE, tF])
      (refine tk 31 undef rfl (Or.inr ⟨by rfl, rfl⟩) ?_; simp only [Act.put, tA, tB, tC, tD, tE, tF])
      (refine tk 32 undef rfl (Or.inr ⟨by rfl, rfl⟩) ?_; simp only [Act.put, tA, tB, tC, tD, tE, tF])
      (refine tk 33 undef rfl (Or.inr ⟨by rfl, rfl⟩) ?_; simp only [Act.put, tA, tB, tC, tD, tE, tF])
      (refine tk 34 undef rfl (Or.inr ⟨by rfl, rfl⟩) ?_; simp only [Act.put, tA, tB, tC, tD, tE, tF])
      (refine tk 35 undef rfl (Or.inr ⟨by rfl, rfl⟩) ?_; simp only [Act.put, tA, tB, tC, tD, tE, tF])
      (refine tk 36 undef rfl (Or.inr ⟨by rfl, rfl⟩) ?_; simp only [Act.put, tA, tB, tC, tD, tE, tF])
      (refine tk 37 undef rfl (Or.inr ⟨by rfl, rfl⟩) ?_; simp only [Act.put, tA, tB, tC, tD, tE, tF])
      (refine tk 38 undef rfl (Or.inr ⟨by rfl, rfl⟩) ?_; simp only [Act.put, tA, tB, tC, tD, tE, tF])
      (refine tk 39 ?_ rfl (Or.inl ⟨by rfl, ?_⟩) ?_; rotate_left; (focus (intro w h; (try dsimp only at h); go_simp; (try with_reducible rfl))); simp only [Act.put, tA, tB, tC, tD, tE, tF])
      refine wpAnyH_done (by kernel_rfl) ?_ _
      go_wp2
      go_meet
      exact ⟨true, rfl, ⟨fun h => (by cases h), fun h => by have h9 := h.1.1; rw [← HRT.out] at h9; cases h9⟩, undrew hb7⟩
     (refine tk 4 ?_ rfl (Or.inl ⟨by rfl, ?_⟩) ?_; rotate_left; (focus (intro w h; (try dsimp only at h); go_simp; (try with_reducible rfl))); simp only [Act.put, tA, tB, tC, tD, tE, tF])
     (refine tk 5 ?_ rfl (Or.inl ⟨by rfl, ?_⟩) ?_; rotate_left; (focus (intro w h; (try dsimp only at h); go_simp; (try with_reducible rfl))); simp only [Act.put, tA, tB, tC, tD, tE, tF])
     (refine tk 6 ?_ rfl (Or.inl ⟨by rfl, ?_⟩) ?_; rotate_left; (focus (intro w h; (try dsimp only at h); go_simp; (try with_reducible rfl))); simp only [Act.put, tA, tB, tC, tD, tE, tF])
     cases hst : (x.t.st != 1)
     rotate_left
     ·(refine tk 7 ?_ rfl (Or.inl ⟨by rfl, ?_⟩) ?_; rotate_left; (focus (intro w h; (try dsimp only at h); go_simp; (try with_reducible rfl))); simp only [Act.put, tA, tB, tC, tD, tE, tF])
      (refine tk 8 ?_ rfl (Or.inl ⟨by rfl, ?_⟩) ?_; rotate_left; (focus (intro w h; (try dsimp only at h); go_simp; (try with_reducible rfl))); simp only [Act.put, tA, tB, tC, tD, tE, tF])
      (refine tk 9 undef rfl (Or.inr ⟨by rfl, rfl⟩) ?_; simp only [Act.put, tA, tB, tC, tD, tE, tF])
      (refine tk 10 undef rfl (Or.inr ⟨by rfl, rfl⟩) ?_; simp only [Act.put, tA, tB, tC, tD, tE, tF])
      (refine tk 11 undef rfl (Or.inr ⟨by rfl, rfl⟩) ?_; simp only [Act.put, tA, tB, tC, tD, tE, tF])
      (refine tk 12 undef rfl (Or.inr ⟨by rfl, rfl⟩) ?_; simp only [Act.put, tA, tB, tC, tD, tE, tF])
      (refine tk 13 undef rfl (Or.inr ⟨by rfl, rfl⟩) ?_; simp only [Act.put, tA, tB, tC, tD, tE, tF])
      (refine tk 14 undef rfl (Or.inr ⟨by rfl, rfl⟩) ?_; simp only [Act.put, tA, tB, tC, tD, tE, tF])
      (refine tk 15 ?_ rfl (Or.inl ⟨by rfl, ?_⟩) ?_; rotate_left; (focus (intro w h; (try dsimp only at h); go_simp; (try with_reducible rfl))); simp only [Act.put, tA, tB, tC, tD, tE, tF])
      (refine tk 16 ?_ rfl (Or.inl ⟨by rfl, ?_⟩) ?_; rotate_left; (focus (intro w h; (try dsimp only at h); go_simp; (try with_reducible rfl))); simp only [Act.put, tA, tB, tC, tD, tE, tF])
      (refine tk 17 undef rfl (Or.inr ⟨by rfl, rfl⟩) ?_; simp only [Act.put, tA, tB, tC, tD, tE, tF])
      (refine tk 18 undef rfl (Or.inr ⟨by rfl, rfl⟩) ?_; simp only [Act.put, tA, tB, tC, tD, tE, tF])
      (refine tk 19 undef rfl (Or.inr ⟨by rfl, rfl⟩) ?_; simp only [Act.put, tA, tB, tC, tD, tE, tF])
      (refine tk 20 undef rfl (Or.inr ⟨by rfl, rfl⟩) ?_; simp only [Act.put, tA, tB, tC, tD, tE, tF])
      (refine tk 21 undef rfl (Or.inr ⟨by rfl, rfl⟩) ?_; simp only [Act.put, tA, tB, tC, tD, tE, tF])
      (refine tk 22 undef rfl (Or.inr ⟨by rfl, rfl⟩) ?_; simp only [Act.put, tA, tB, tC, tD, tE, tF])
      (refine tk 23 ?_ rfl (Or.inl ⟨by rfl, ?_⟩) ?_; rotate_left; (focus (intro w h; (try dsimp only at h); go_simp; (try with_reducible rfl))); simp only [Act.put, tA, tB, tC, tD, tE, tF])
      (refine tk 24 ?_ rfl (Or.inl ⟨by rfl, ?_⟩) ?_; rotate_left; (focus (intro w h; (try dsimp only at h); go_simp; (try with_reducible rfl))); simp only [Act.put, tA, tB, tC, tD, tE, tF])
      (refine tk 25 undef rfl (Or.inr ⟨by rfl, rfl⟩) ?_; simp only [Act.put, tA, tB, tC, tD, tE, tF])
      (refine tk 26 undef rfl (Or.inr ⟨by rfl, rfl⟩) ?_; simp only [Act.put, tA, tB, tC, tD, tE, tF])
      (refine tk 27 undef rfl (Or.inr ⟨by rfl, rfl⟩) ?_; simp only [Act.put, tA, tB, tC, tD, tE, tF])
      (refine tk 28 undef rfl (Or.inr ⟨by rfl, rfl⟩) ?_; simp only [Act.put, tA, tB, tC, tD, tE, tF])
      (refine tk 29 undef rfl (Or.inr ⟨by rfl, rfl⟩) ?_; simp only [Act.put, tA, tB, tC, tD, tE, tF])
      (refine tk 30 undef rfl (Or.inr ⟨by rfl, rfl⟩) ?_; simp only [Act.put, tA, tB, tC, tD, tE, tF])
      (refine tk 31 undef rfl (Or.inr ⟨by rfl, rfl⟩) ?_; simp only [Act.put, tA, tB, tC, tD, tE, tF])
      (refine tk 32 undef rfl (Or.inr ⟨by rfl, rfl⟩) ?_; simp only [Act.put, tA, tB, tC, tD, tE, tF])
      (refine tk 33 undef rfl (Or.inr ⟨by rfl, rfl⟩) ?_; simp only [Act.put, tA, tB, tC, tD, tE, tF])
      (refine tk 34 undef rfl (Or.inr ⟨by rfl, rfl⟩) ?_; simp only [Act.put, tA, tB, tC, tD, tE, tF])
      (refine tk 35 undef rfl (Or.inr ⟨by rfl, rfl⟩) ?_; simp only [Act.put, tA, tB, tC, tD, tE, tF])
      (refine tk 36 undef rfl (Or.inr ⟨by rfl, rfl⟩) ?_; simp only [Act.put, tA, tB, tC, tD, tE, tF])
      (refine tk 37 undef rfl (Or.inr ⟨by rfl, rfl⟩) ?_; simp only [Act.put, tA, tB, tC, tD, tE, tF])
      (refine tk 38 undef rfl (Or.inr ⟨by rfl, rfl⟩) ?_; simp only [Act.put, tA, tB, tC, tD, tE, tF])
      (refine tk 39 ?_ rfl (Or.inl ⟨by rfl, ?_⟩) ?_; rotate_left; (focus (intro w h; (try dsimp only at h); go_simp; (try with_reducible rfl))); simp only [Act.put, tA, tB, tC, tD, tE, tF])
      refine wpAnyH_done (by kernel_rfl) ?_ _
      go_wp2
      go_meet
      exact ⟨true, rfl, ⟨fun h => (by cases h), fun h => by have h9 := h.1.2.1; simp [h9] at hst⟩, undrew hb7⟩
     (refine tk 7 ?_ rfl (Or.inl ⟨by rfl, ?_⟩) ?_; rotate_left; (focus (intro w h; (try dsimp only at h); go_simp; (try with_reducible rfl))); simp only [Act.put, tA, tB, tC, tD, tE, tF])
     (refine tk 8 ?_ rfl (Or.inl ⟨by rfl, ?_⟩) ?_; rotate_left; (focus (intro w h; (try dsimp only at h); go_simp; (try with_reducible rfl))); simp only [Act.put, tA, tB, tC, tD, tE, tF])
     (refine tk 9 ?_ rfl (Or.inl ⟨by rfl, ?_⟩) ?_; rotate_left; (focus (intro w h; (try dsimp only at h); go_simp; (try with_reducible rfl))); simp only [Act.put, tA, tB, tC, tD, tE, tF])
     (refine tk 10 ?_ rfl (Or.inl ⟨by rfl, ?_⟩) ?_; rotate_left; (focus (intro w h; (try dsimp only at h); go_simp; (try with_reducible rfl))); simp only [Act.put, tA, tB, tC, tD, tE, tF])
     (refine tk 11 ?_ rfl (Or.inl ⟨by rfl, ?_⟩) ?_; rotate_left; (focus (intro w h; (try dsimp only at h); go_simp; (try with_reducible rfl))); simp only [Act.put, tA, tB, tC, tD, tE, tF])
     (refine tk 12 ?_ rfl (Or.inl ⟨by rfl, ?_⟩) ?_; rotate_left; (focus (intro w h; (try dsimp only at h); go_simp; (try with_reducible rfl))); simp only [Act.put, tA, tB, tC, tD, tE, tF])
     (refine tk 13 ?_ rfl (Or.inl ⟨by rfl, ?_⟩) ?_; rotate_left; (focus (intro w h; (try dsimp only at h); go_simp; (try with_reducible rfl))); simp only [Act.put, tA, tB, tC, tD, tE, tF])
     (refine tk 14 ?_ rfl (Or.inl ⟨by rfl, ?_⟩) ?_; rotate_left; (focus (intro w h; (try dsimp only at h); go_simp; (try with_reducible rfl))); simp only [Act.put, tA, tB, tC, tD, tE, tF])
     cases hid : decide (e.b.nx ≤ x.t.id)
     rotate_left
     ·(refine tk 15 ?_ rfl (Or.inl ⟨by rfl, ?_⟩) ?_; rotate_left; (focus (intro w h; (try dsimp only at h); go_simp; (try with_reducible rfl))); simp only [Act.put, tA, tB, tC, tD, tE, tF])
      (refine tk 16 ?_ rfl (Or.inl ⟨by rfl, ?_⟩) ?_; rotate_left; (focus (intro w h; (try dsimp only at h); go_simp; (try with_reducible rfl))); simp only [Act.put, tA, tB, tC, tD, tE, tF])
      (refine tk 17 undef rfl (Or.inr ⟨by rfl, rfl⟩) ?_; simp only [Act.put, tA, tB, tC, tD, tE, tF])
      (refine tk 18 undef rfl (Or.inr ⟨by rfl, rfl⟩) ?_; simp only [Act.put, tA, tB, tC, tD, tE, tF])
      (refine tk 19 undef rfl (Or.inr ⟨by rfl, rfl⟩) ?_; simp only [Act.put, tA, tB, tC, tD, tE, tF])
      (refine tk 20 undef rfl (Or.inr ⟨by rfl, rfl⟩) ?_; simp only [Act.put, tA, tB, tC, tD, tE, tF])
      (refine tk 21 undef rfl (Or.inr ⟨by rfl, rfl⟩) ?_; simp only [Act.put, tA, tB, tC, tD, tE, tF])
      (refine tk 22 undef rfl (Or.inr ⟨by rfl, rfl⟩) ?_; simp only [Act.put, tA, tB, tC, tD, tE, tF])
      (refine tk 23 ?_ rfl (Or.inl ⟨by rfl, ?_⟩) ?_; rotate_left; (focus (intro w h; (try dsimp only at h); go_simp; (try with_reducible rfl))); simp only [Act.put, tA, tB, tC, tD, tE, tF])
      (refine tk 24 ?_ rfl (Or.inl ⟨by rfl, ?_⟩) ?_; rotate_left; (focus (intro w h; (try dsimp only at h); go_simp; (try with_reducible rfl))); simp only [Act.put, tA, tB, tC, tD, tE, tF])
      (refine tk 25 undef rfl (Or.inr ⟨by rfl, rfl⟩) ?_; simp only [Act.put, tA, tB, tC, tD, tE, tF])
      (refine tk 26 undef rfl (Or.inr ⟨by rfl, rfl⟩) ?_; simp only [Act.put, tA, tB, tC, tD, tE, tF])
      (refine tk 27 undef rfl (Or.inr ⟨by rfl, rfl⟩) ?_; simp only [Act.put, tA, tB, tC, tD, tE, tF])
      (refine tk 28 undef rfl (Or.inr ⟨by rfl, rfl⟩) ?_; simp only [Act.put, tA, tB, tC, tD, tE, tF])
      (refine tk 29 undef rfl (Or.inr ⟨by rfl, rfl⟩) ?_; simp only [Act.put, tA, tB, tC, tD, tE, tF])
      (refine tk 30 undef rfl (Or.inr ⟨by rfl, rfl⟩) ?_; simp only [Act.put, tA, tB, tC, tD, tE, tF])
      (refine tk 31 undef rfl (Or.inr ⟨by rfl, rfl⟩) ?_; simp only [Act.put, tA, tB, tC, tD, tE, tF])
      (refine tk 32 undef rfl (Or.inr ⟨by rfl, rfl⟩) ?_; simp only [Act.put, tA, tB, tC, tD, tE, tF])
      (refine tk 33 undef rfl (Or.inr ⟨by rfl, rfl⟩) ?_; simp only [Act.put, tA, tB, tC, tD, tE, tF])
      (refine tk 34 undef rfl (Or.inr ⟨by rfl, rfl⟩) ?_; simp only [Act.put, tA, tB, tC, tD, tE, tF])
      (refine tk 35 undef rfl (Or.inr ⟨by rfl, rfl⟩) ?_; simp only [Act.put, tA, tB, tC, tD, tE, tF])
      (refine tk 36 undef rfl (Or.inr ⟨by rfl, rfl⟩) ?_; simp only [Act.put, tA, tB, tC, tD, tE, tF])
      (refine tk 37 undef rfl (Or.inr ⟨by rfl, rfl⟩) ?_; simp only [Act.put, tA, tB, tC, tD, tE, tF])
      (refine tk 38 undef rfl (Or.inr ⟨by rfl, rfl⟩) ?_; simp only [Act.put, tA, tB, tC, tD, tE, tF])
      (refine tk 39 ?_ rfl (Or.inl ⟨by rfl, ?_⟩) ?_; rotate_left; (focus (intro w h; (try dsimp only at h); go_simp; (try with_reducible rfl))); simp only [Act.put, tA, tB, tC, tD, tE, tF])
      refine wpAnyH_done (by kernel_rfl) ?_ _
      go_wp2
      go_meet
      exact ⟨true, rfl, ⟨fun h => (by cases h), fun h => by have h9 := h.1.2.2.1; have h8 : e.b.nx ≤ x.t.id := (by simpa using hid); omega⟩, undrew hb7⟩
     (refine tk 15 ?_ rfl (Or.inl ⟨by rfl, ?_⟩) ?_; rotate_left; (focus (intro w h; (try dsimp only at h); go_simp; (try with_reducible rfl))); simp only [Act.put, tA, tB, tC, tD, tE, tF])
     (refine tk 16 ?_ rfl (Or.inl ⟨by rfl, ?_⟩) ?_; rotate_left; (focus (intro w h; (try dsimp only at h); go_simp; (try with_reducible rfl))); simp only [Act.put, tA, tB, tC, tD, tE, tF])
     (refine tk 17 ?_ rfl (Or.inl ⟨by rfl, ?_⟩) ?_; rotate_left; (focus (intro w h; (try dsimp only at h); go_simp; (try with_reducible rfl))); simp only [Act.put, tA, tB, tC, tD, tE, tF])
     (refine tk 18 ?_ rfl (Or.inl ⟨by rfl, ?_⟩) ?_; rotate_left; (focus (intro w h; (try dsimp only at h); go_simp; (try with_reducible rfl))); simp only [Act.put, tA, tB, tC, tD, tE, tF])
     (refine tk 19 ?_ rfl (Or.inl ⟨by rfl, ?_⟩) ?_; rotate_left; (focus (intro w h; (try dsimp only at h); go_simp; (try with_reducible rfl))); simp only [Act.put, tA, tB, tC, tD, tE, tF])
     (refine tk 20 ?_ rfl (Or.inl ⟨by rfl, ?_⟩) ?_; rotate_left; (focus (intro w h; (try dsimp only at h); go_simp; (try with_reducible rfl))); simp only [Act.put, tA, tB, tC, tD, tE, tF])
     (refine tk 21 ?_ rfl (Or.inl ⟨by rfl, ?_⟩) ?_; rotate_left; (focus (intro w h; (try dsimp only at h); go_simp; (try with_reducible rfl))); simp only [Act.put, tA, tB, tC, tD, tE, tF])
     (refine tk 22 ?_ rfl (Or.inl ⟨by rfl, ?_⟩) ?_; rotate_left; (focus (intro w h; (try dsimp only at h); go_simp; (try with_reducible rfl))); simp only [Act.put, tA, tB, tC, tD, tE, tF])
     cases hsn : decide (e.b.cs < x.t.snap)
     rotate_left
     ·(refine tk 23 ?_ rfl (Or.inl ⟨by rfl, ?_⟩) ?_; rotate_left; (focus (intro w h; (try dsimp only at h); go_simp; (try with_reducible rfl))); simp only [Act.put, tA, tB, tC, tD, tE, tF])
      (refine tk 24 ?_ rfl (Or.inl ⟨by rfl, ?_⟩) ?_; rotate_left; (focus (intro w h; (try dsimp only at h); go_simp; (try with_reducible rfl))); simp only [Act.put, tA, tB, tC, tD, tE, tF])
      (refine tk 25 undef rfl (Or.inr ⟨by rfl, rfl⟩) ?_; simp only [Act.put, tA, tB, tC, tD, tE, tF])
      (refine tk 26 undef rfl (Or.inr ⟨by rfl, rfl⟩) ?_; simp only [Act.put, tA, tB, tC, tD, tE, tF])
      (refine tk 27 undef rfl (Or.inr ⟨by rfl, rfl⟩) ?_; simp only [Act.put, tA, tB, tC, tD, tE, tF])
      (refine tk 28 undef rfl (Or.inr ⟨by rfl, rfl⟩) ?_; simp only [Act.put, tA, tB, tC, tD, tE, tF])
      (refine tk 29 undef rfl (Or.inr ⟨by rfl, rfl⟩) ?_; simp only [Act.put, tA, tB, tC, tD, tE, tF])
      (refine tk 30 undef rfl (Or.inr ⟨by rfl, rfl⟩) ?_; simp only [Act.put, tA, tB, tC, tD, tE, tF])
      (refine tk 31 undef rfl (Or.inr ⟨by rfl, rfl⟩) ?_; simp only [Act.put, tA, tB, tC, tD, tE, tF])
      (refine tk 32 undef rfl (Or.inr ⟨by rfl, rfl⟩) ?_; simp only [Act.put, tA, tB, tC, tD, tE, tF])
      (refine tk 33 undef rfl (Or.inr ⟨by rfl, rfl⟩) ?_; simp only [Act.put, tA, tB, tC, tD, tE, tF])
      (refine tk 34 undef rfl (Or.inr ⟨by rfl, rfl⟩) ?_; simp only [Act.put, tA, tB, tC, tD, tE, tF])
      (refine tk 35 undef rfl (Or.inr ⟨by rfl, rfl⟩) ?_; simp only [Act.put, tA, tB, tC, tD, tE, tF])
      (refine tk 36 undef rfl (Or.inr ⟨by rfl, rfl⟩) ?_; simp only [Act.put, tA, tB, tC, tD, tE, tF])
      (refine tk 37 undef rfl (Or.inr ⟨by rfl, rfl⟩) ?_; simp only [Act.put, tA, tB, tC, tD, tE, tF])
      (refine tk 38 undef rfl (Or.inr ⟨by rfl, rfl⟩) ?_; simp only [Act.put, tA, tB, tC, tD, tE, tF])
      (refine tk 39 ?_ rfl (Or.inl ⟨by rfl, ?_⟩) ?_; rotate_left; (focus (intro w h; (try dsimp only at h); go_simp; (try with_reducible rfl))); simp only [Act.put, tA, tB, tC, tD, tE, tF])
      refine wpAnyH_done (by kernel_rfl) ?_ _
      go_wp2
      go_meet
      exact ⟨true, rfl, ⟨fun h => (by cases h), fun h => by have h9 := h.1.2.2.2; have h8 : e.b.cs < x.t.snap := (by simpa using hsn); omega⟩, undrew hb7⟩
     (refine tk 23 ?_ rfl (Or.inl ⟨by rfl, ?_⟩) ?_; rotate_left; (focus (intro w h; (try dsimp only at h); go_simp; (try with_reducible rfl))); simp only [Act.put, tA, tB, tC, tD, tE, tF])
     (refine tk 24 ?_ rfl (Or.inl ⟨by rfl, ?_⟩) ?_; rotate_left; (focus (intro w h; (try dsimp only at h); go_simp; (try with_reducible rfl))); simp only [Act.put, tA, tB, tC, tD, tE, tF])
     (refine tk 25 ?_ rfl (Or.inl ⟨by rfl, ?_⟩) ?_; rotate_left; (focus (intro w h; (try dsimp only at h); go_simp; (try with_reducible rfl))); simp only [Act.put, tA, tB, tC, tD, tE, tF])
     (refine tk 26 ?_ rfl (Or.inl ⟨by rfl, ?_⟩) ?_; rotate_left; (focus (intro w h; (try dsimp only at h); go_simp; (try with_reducible rfl))); simp only [Act.put, tA, tB, tC, tD, tE, tF])
     (refine tk 27 ?_ rfl (Or.inl ⟨by rfl, ?_⟩) ?_; rotate_left; (focus (intro w h; (try dsimp only at h); go_simp; (try with_reducible rfl))); simp only [Act.put, tA, tB, tC, tD, tE, tF])
     (refine tk 28 undef rfl (Or.inr ⟨by rfl, rfl⟩) ?_; simp only [Act.put, tA, tB, tC, tD, tE, tF])
     (refine tk 29 undef rfl (Or.inr ⟨by rfl, rfl⟩) ?_; simp only [Act.put, tA, tB, tC, tD, tE, tF])
     (refine tk 30 undef rfl (Or.inr ⟨by rfl, rfl⟩) ?_; simp only [Act.put, tA, tB, tC, tD, tE, tF])
     (refine tk 31 undef rfl (Or.inr ⟨by rfl, rfl⟩) ?_; simp only [Act.put, tA, tB, tC, tD, tE, tF])
     (refine tk 32 undef rfl (Or.inr ⟨by rfl, rfl⟩) ?_; simp only [Act.put, tA, tB, tC, tD, tE, tF])
     (refine tk 33 undef rfl (Or.inr ⟨by rfl, rfl⟩) ?_; simp only [Act.put, tA, tB, tC, tD, tE, tF])
     (refine tk 34 undef rfl (Or.inr ⟨by rfl, rfl⟩) ?_; simp only [Act.put, tA, tB, tC, tD, tE, tF])
     (refine tk 35 undef rfl (Or.inr ⟨by rfl, rfl⟩) ?_; simp only [Act.put, tA, tB, tC, tD, tE, tF])
     (refine tk 36 undef rfl (Or.inr ⟨by rfl, rfl⟩) ?_; simp only [Act.put, tA, tB, tC, tD, tE, tF])
     (refine tk 37 undef rfl (Or.inr ⟨by rfl, rfl⟩) ?_; simp only [Act.put, tA, tB, tC, tD, tE, tF])
     (refine tk 38 ?_ rfl (Or.inl ⟨by rfl, ?_⟩) ?_; rotate_left; (focus (intro w h; (try dsimp only at h); go_simp; (try with_reducible rfl))); simp only [Act.put, tA, tB, tC, tD, tE, tF])
     (refine tk 39 ?_ rfl (Or.inl ⟨by rfl, ?_⟩) ?_; rotate_left; (focus (intro w h; (try dsimp only at h); go_simp; (try with_reducible rfl))); simp only [Act.put, tA, tB, tC, tD, tE, tF])
     refine wpAnyH_done (by kernel_rfl) ?_ _
     go_wp2
     go_meet
     exact ⟨false, rfl, ⟨fun _ => ⟨⟨HRT.out.symm, by simpa using hst, by have h8 : ¬ e.b.nx ≤ x.t.id := (by simpa using hid); omega, by have h8 : ¬ e.b.cs < x.t.snap := (by simpa using hsn); omega⟩, by rw [HPR.out]; intro h9; omega⟩, fun _ => rfl⟩, undrew hb7⟩
   case rest =>
   obtain ⟨cn, rfl, hcn, HBC⟩ := hcut
   have HCN := hide hcn
   clear hcn
   have HBx : Hid (Below w.heap.size w wc) := HB6.out.trans (HBC.out.mono HB6.out.size)
   cases cn
   rotate_left
   ·have HR : Hid (false = seB e) := HNk.out fun h => by have h9 := HCN.out.out.2 ⟨h.1, h.2.1⟩; cases h9
    go_wp2
    go_ret
    exact ⟨ret_bool HR.out, HBx.out⟩
   have HTT := hide (HCN.out.out.1 rfl)
   clear HCN a3 a4 a5 t0 t1 t2 t3 t4 t5 t6 t7 HPR
   obtain ⟨wz, hwz⟩ : ∃ wz, wz = wc := ⟨_, rfl⟩
   subst hwz
   have BAz : Hid (Bx wz w.heap.size [.slice e.b.va e.b.vs.length e.b.vc, .slice e.b.pa e.b.ps.length e.b.pc, .slice e.b.qa e.b.qs.length e.b.qc, .int .i64 e.b.cs, .int .i64 e.b.nx, .slice e.oa e.os.length e.oc]) := BA6.out.below HBC.out
   have BTz : Hid (Bx wz g6 [.int .i64 x.t.id, .int .i64 x.t.st, .int .i64 x.t.snap, .int .i64 x.t.cs, .slice x.ra x.t.rs.length x.rc, .slice x.wa x.t.ws.length x.wc, .bool x.t.out, .string x.t.nm]) := BT6.out.below HBC.out
   have HRz : Hid (EnRows wz e) := HR6.out.below HBC.out
   clear BA6 BT6 HR6 HB6 HBC CT hblW hg6 hwl
   go_wp2
   go_loopw [5] (fun t wy => ∃ i : Nat, i ≤ e.b.ps.length ∧ t = .int .i64 i ∧ Hid (∀ j (hj : j < e.b.ps.length), j < i → e.b.ps[j].t.id ≠ x.t.id) ∧ Hid (Below wz.heap.size wz wy)) (fun t _ => e.b.ps.length - (intOf t).toNat)
   case atStart => exact ⟨0, Nat.zero_le _, rfl, (fun j hj h => by omega), belowRefl _⟩
   case round =>
    obtain ⟨ip, hip, rfl, HUp, HByp⟩ := hrel
    by_cases hlp : ip < e.b.ps.length
    ·have hl' : (ip : Int) < (e.b.ps.length : Int) := by omega
     have hl0 : (0 : Int) ≤ (ip : Int) := by omega
     obtain ⟨b7, o7, hadr7, hbl7, hc7, -⟩ := (HRz.out.below HByp.out).b.p.cls ip hlp
     have r0 := hc7.c0
     have u0 := (BTz.out.below HByp.out).c0
     have u1 := (BAz.out.below HByp.out).c1
     rw [hadr7] at u1
     clear hc7 hbl7
     cases hq : (e.b.ps[ip].t.id == x.t.id)
     ·have HU2 : Hid (∀ j (hj : j < e.b.ps.length), j < ip + 1 → e.b.ps[j].t.id ≠ x.t.id) := fun j hj h => by
       by_cases e9 : j = ip
       ·subst e9; simpa using hq
       ·exact HUp.out j hj (by omega)
      go_wp2
      go_quiet (fail)
      go_wp2
      go_roundw
      case rel => exact ⟨ip + 1, by omega, by go_num, HU2, below_drewN HByp.out _⟩
      case measure => simp [intOf]; omega
     ·have HR : Hid (false = seB e) := HNk.out fun h => h.2.2.1 ip hlp (by simpa using hq)
      go_wp2
      go_quiet (fail)
      go_wp2
      go_ret
      exact ⟨ret_bool HR.out, below_drewN (HBx.out.trans (HByp.out.mono HBx.out.size)) _⟩
    ·have hdp : ¬ (ip : Int) < (e.b.ps.length : Int) := by omega
     have HAp : Hid (∀ k (hk : k < e.b.ps.length), e.b.ps[k].t.id ≠ x.t.id) := fun k hk => HUp.out k hk (by omega)
     have u1 := (BAz.out.below HByp.out).c1
     clear HUp
     go_wp2
     go_loopw [6] (fun t wy => ∃ i : Nat, i ≤ e.b.qs.length ∧ t = .int .i64 i ∧ Hid (∀ j (hj : j < e.b.qs.length), j < i → e.b.qs[j].t.id ≠ x.t.id) ∧ Hid (Below wz.heap.size wz wy)) (fun t _ => e.b.qs.length - (intOf t).toNat)
     case atStart => exact ⟨0, Nat.zero_le _, rfl, (fun j hj h => by omega), HByp⟩
     case round =>
      obtain ⟨iq, hiq, rfl, HUq, HByq⟩ := hrel
      by_cases hlq : iq < e.b.qs.length
      ·have hl' : (iq : Int) < (e.b.qs.length : Int) := by omega
       have hl0 : (0 : Int) ≤ (iq : Int) := by omega
       obtain ⟨b7, o7, hadr7, hbl7, hc7, -⟩ := (HRz.out.below HByq.out).b.q.cls iq hlq
       have r0 := hc7.c0
       have u0 := (BTz.out.below HByq.out).c0
       have u2 := (BAz.out.below HByq.out).c2
       rw [hadr7] at u2
       clear hc7 hbl7
       cases hq : (e.b.qs[iq].t.id == x.t.id)
       ·have HU2 : Hid (∀ j (hj : j < e.b.qs.length), j < iq + 1 → e.b.qs[j].t.id ≠ x.t.id) := fun j hj h => by
         by_cases e9 : j = iq
         ·subst e9; simpa using hq
         ·exact HUq.out j hj (by omega)
        go_wp2
        go_quiet (fail)
        go_wp2
        go_roundw
        case rel => exact ⟨iq + 1, by omega, by go_num, HU2, below_drewN HByq.out _⟩
        case measure => simp [intOf]; omega
       ·have HR : Hid (false = seB e) := HNk.out fun h => h.2.2.2 iq hlq (by simpa using hq)
        go_wp2
        go_quiet (fail)
        go_wp2
        go_ret
        exact ⟨ret_bool HR.out, below_drewN (HBx.out.trans (HByq.out.mono HBx.out.size)) _⟩
      ·have hdq : ¬ (iq : Int) < (e.b.qs.length : Int) := by omega
       have HAq : Hid (∀ k (hk : k < e.b.qs.length), e.b.qs[k].t.id ≠ x.t.id) := fun k hk => HUq.out k hk (by omega)
       have u2 := (BAz.out.below HByq.out).c2
       clear HUq
       go_wp2
       go_roundw
       case rel => exact ⟨k + 1, by omega, by go_num, HGd.out ⟨HTT.out.1, HTT.out.2, HAp.out, HAq.out⟩, HBx.out.trans (HByq.out.mono HBx.out.size), BAz.out.below HByq.out⟩
       case measure => simp [intOf]; omega
  ·have hd : ¬ (k : Int) < (e.os.length : Int) := by omega
   have HR : Hid (true = seB e) := HYes.out fun i hi => HG.out i hi (by omega)
   clear HG
   go_wp2
   go_ret
   exact ⟨ret_bool HR.out, HB.out⟩

end Go.Proofs.YtjeicgibddfifaaGreat

/- DoubtRight by the document. -/
import Derived.Test.YtmijppfppigjcaaGreatPd01
import Derived.Test.YtmijppfppigjcaaGreatPd37
import Derived.Test.YtmijppfppigjcaaGreatPd34
import Derived.Test.YtmijppfppigjcaaGreatPd35
namespace Go.Proofs.YtmijppfppigjcaaGreat
open Go.RowKit
open KM
open VM
attribute [local go_sem ↓] Go.wp_at_zero Go.wp_at_succ

theorem alloc_cur {n : Nat} {w0 wc : World} (h : Below n w0 wc) (hn : n ≤ wc.heap.size) (cs : List Value) (T : TypeId) : ∃ (wn : World) (p : Nat), wn = wc.alloc (.cells cs.toArray T) ∧ p = wc.heap.size ∧ Bx wn p cs ∧ Below wc.heap.size wc wn ∧ Below n w0 wn :=
 ⟨_, _, rfl, rfl, Bx.new wc cs T, (belowRefl wc).alloc (Nat.le_refl _) _, h.alloc hn _⟩

set_option maxRecDepth 100000 in
set_option maxHeartbeats 4000000 in
theorem sdoubt (x : Wd) (hf : WdFit x) (lo hi : Nat) (w : World) (hp : EnLie w lo hi x.s.e) :
  Calls Tryz.prog 5 #[.agg #[.slice x.s.e.b.va x.s.e.b.vs.length x.s.e.b.vc, .slice x.s.e.b.pa x.s.e.b.ps.length x.s.e.b.pc, .slice x.s.e.b.qa x.s.e.b.qs.length x.s.e.b.qc, .int .i64 x.s.e.b.cs, .int .i64 x.s.e.b.nx, .slice x.s.e.oa x.s.e.os.length x.s.e.oc, .slice x.s.d.sa x.s.d.ss.length x.s.d.sc, .slice x.s.d.pa x.s.d.ps.length x.s.d.pc, .slice x.pa x.ps.length x.pc, .slice x.ca x.cs.length x.cc, .slice x.da x.ds.length x.dc]] w fun e w' => e = .returned (.bool true) ∧ Below w.heap.size w w' := by
 have HE : Hid (EnLie w lo hi x.s.e) := hp
 have HF : Hid (EnFit x.s.e) := hf.s.e
 have hql := hf.s.e.b.ql
 have BX : Hid (Bx (w.alloc (.cells #[.slice x.s.e.b.va x.s.e.b.vs.length x.s.e.b.vc, .slice x.s.e.b.pa x.s.e.b.ps.length x.s.e.b.pc, .slice x.s.e.b.qa x.s.e.b.qs.length x.s.e.b.qc, .int .i64 x.s.e.b.cs, .int .i64 x.s.e.b.nx, .slice x.s.e.oa x.s.e.os.length x.s.e.oc, .slice x.s.d.sa x.s.d.ss.length x.s.d.sc, .slice x.s.d.pa x.s.d.ps.length x.s.d.pc, .slice x.pa x.ps.length x.pc, .slice x.ca x.cs.length x.cc, .slice x.da x.ds.length x.dc] 51)) w.heap.size [.slice x.s.e.b.va x.s.e.b.vs.length x.s.e.b.vc, .slice x.s.e.b.pa x.s.e.b.ps.length x.s.e.b.pc, .slice x.s.e.b.qa x.s.e.b.qs.length x.s.e.b.qc, .int .i64 x.s.e.b.cs, .int .i64 x.s.e.b.nx, .slice x.s.e.oa x.s.e.os.length x.s.e.oc, .slice x.s.d.sa x.s.d.ss.length x.s.d.sc, .slice x.s.d.pa x.s.d.ps.length x.s.d.pc, .slice x.pa x.ps.length x.pc, .slice x.ca x.cs.length x.cc, .slice x.da x.ds.length x.dc]) := Bx.new w [.slice x.s.e.b.va x.s.e.b.vs.length x.s.e.b.vc, .slice x.s.e.b.pa x.s.e.b.ps.length x.s.e.b.pc, .slice x.s.e.b.qa x.s.e.b.qs.length x.s.e.b.qc, .int .i64 x.s.e.b.cs, .int .i64 x.s.e.b.nx, .slice x.s.e.oa x.s.e.os.length x.s.e.oc, .slice x.s.d.sa x.s.d.ss.length x.s.d.sc, .slice x.s.d.pa x.s.d.ps.length x.s.d.pc, .slice x.pa x.ps.length x.pc, .slice x.ca x.cs.length x.cc, .slice x.da x.ds.length x.dc] 51
 have HB : Hid (Below w.heap.size w (w.alloc (.cells #[.slice x.s.e.b.va x.s.e.b.vs.length x.s.e.b.vc, .slice x.s.e.b.pa x.s.e.b.ps.length x.s.e.b.pc, .slice x.s.e.b.qa x.s.e.b.qs.length x.s.e.b.qc, .int .i64 x.s.e.b.cs, .int .i64 x.s.e.b.nx, .slice x.s.e.oa x.s.e.os.length x.s.e.oc, .slice x.s.d.sa x.s.d.ss.length x.s.d.sc, .slice x.s.d.pa x.s.d.ps.length x.s.d.pc, .slice x.pa x.ps.length x.pc, .slice x.ca x.cs.length x.cc, .slice x.da x.ds.length x.dc] 51))) := (belowRefl w).alloc (Nat.le_refl _) _
 clear hp hf
 go_enter Tryz.func5, Tryz.ntmps5
 go_upto_region 1 with fail
 generalize (w.alloc (.cells #[.slice x.s.e.b.va x.s.e.b.vs.length x.s.e.b.vc, .slice x.s.e.b.pa x.s.e.b.ps.length x.s.e.b.pc, .slice x.s.e.b.qa x.s.e.b.qs.length x.s.e.b.qc, .int .i64 x.s.e.b.cs, .int .i64 x.s.e.b.nx, .slice x.s.e.oa x.s.e.os.length x.s.e.oc, .slice x.s.d.sa x.s.d.ss.length x.s.d.sc, .slice x.s.d.pa x.s.d.ps.length x.s.d.pc, .slice x.pa x.ps.length x.pc, .slice x.ca x.cs.length x.cc, .slice x.da x.ds.length x.dc] 51)) = w0 at *
 go_wp2
 go_loopw [3] (fun t wr => ∃ k : Nat, k ≤ x.s.e.b.qs.length ∧ t = .int .i64 k ∧ Hid (Below w0.heap.size w0 wr)) (fun t _ => x.s.e.b.qs.length - (intOf t).toNat)
 case atStart => exact ⟨0, Nat.zero_le _, rfl, belowRefl w0⟩
 case round =>
  obtain ⟨k, hk, rfl, HR⟩ := hrel
  have q2 := (BX.out.below HR.out).c2
  by_cases hlt : k < x.s.e.b.qs.length
  ·have hlt' : (k : Int) < (x.s.e.b.qs.length : Int) := by omega
   have h0 : (0 : Int) ≤ (k : Int) := by omega
   obtain ⟨bl, ol, hqa, hbl, hcl, -⟩ := HE.out.rows.b.q.cls k hlt
   have hin : x.s.e.b.qs[k].t.nm ∈ nms x.s.e.b.qs := List.mem_map.2 ⟨_, List.getElem_mem hlt, rfl⟩
   obtain ⟨y, hy⟩ : ∃ y, y = x.s.e.b.qs[k] := ⟨_, rfl⟩
   rw [← hy] at hcl hin
   have HC : Hid (Cls w bl (ol + k * 8) y) := hcl
   have HQA : Hid (x.s.e.b.qa = some ⟨bl, ol, none⟩) := hqa
   have CF : Hid (∀ W, Below w0.heap.size w0 W → Calls Tryz.prog 13 #[.agg #[.slice x.s.e.b.va x.s.e.b.vs.length x.s.e.b.vc, .slice x.s.e.b.pa x.s.e.b.ps.length x.s.e.b.pc, .slice (some ⟨bl, ol, none⟩) x.s.e.b.qs.length x.s.e.b.qc, .int .i64 x.s.e.b.cs, .int .i64 x.s.e.b.nx, .slice x.s.e.oa x.s.e.os.length x.s.e.oc], .string y.t.nm, .bool true] W fun ex w' => AnsF ex ∧ Below W.heap.size W w') := fun W h => by
    have c := sfinishA x.s.e HF.out y.t.nm hin lo hi W (HE.out.below (HB.out.trans (h.mono HB.out.size)))
    rw [HQA.out] at c
    exact c
   have HS : Hid (∀ W, Below w0.heap.size w0 W → W.cell? ⟨w.heap.size, 0, none⟩ = some (.slice x.s.e.b.va x.s.e.b.vs.length x.s.e.b.vc) ∧ W.cell? ⟨w.heap.size, 1, none⟩ = some (.slice x.s.e.b.pa x.s.e.b.ps.length x.s.e.b.pc) ∧ W.cell? ⟨w.heap.size, 2, none⟩ = some (.slice (some ⟨bl, ol, none⟩) x.s.e.b.qs.length x.s.e.b.qc) ∧ W.cell? ⟨w.heap.size, 3, none⟩ = some (.int .i64 x.s.e.b.cs) ∧ W.cell? ⟨w.heap.size, 4, none⟩ = some (.int .i64 x.s.e.b.nx) ∧ W.cell? ⟨w.heap.size, 5, none⟩ = some (.slice x.s.e.oa x.s.e.os.length x.s.e.oc) ∧ W.cell? ⟨bl, ol + k * 8 + 7, none⟩ = some (.string y.t.nm)) := fun W h => by
    have hb := BX.out.below h
    rw [HQA.out] at hb
    have hc := HC.out.low (HB.out.trans (h.mono HB.out.size)) hbl
    exact ⟨hb.at' 0 (by simp), hb.at' 1 (by simp), hb.at' 2 (by simp), hb.at' 3 (by simp), hb.at' 4 (by simp), hb.at' 5 (by simp), hc.c7⟩
   clear hcl hin hy hqa
   go_upto_region 4 with fail
   clear q2
   have HBc : Hid (Below w0.heap.size w0 wr.drew) := HR.out.drew
   refine wp_region_held_drew (S := fun w' => w'.cell? ⟨w.heap.size, 0, none⟩ = some (.slice x.s.e.b.va x.s.e.b.vs.length x.s.e.b.vc) ∧ w'.cell? ⟨w.heap.size, 1, none⟩ = some (.slice x.s.e.b.pa x.s.e.b.ps.length x.s.e.b.pc) ∧ w'.cell? ⟨w.heap.size, 2, none⟩ = some (.slice (some ⟨bl, ol, none⟩) x.s.e.b.qs.length x.s.e.b.qc) ∧ w'.cell? ⟨w.heap.size, 3, none⟩ = some (.int .i64 x.s.e.b.cs) ∧ w'.cell? ⟨w.heap.size, 4, none⟩ = some (.int .i64 x.s.e.b.nx) ∧ w'.cell? ⟨w.heap.size, 5, none⟩ = some (.slice x.s.e.oa x.s.e.os.length x.s.e.oc) ∧ w'.cell? ⟨bl, ol + k * 8 + 7, none⟩ = some (.string y.t.nm)) (by kernel_rfl) (HS.out _ HBc.out) (fun hHeld => ?_)
   generalize wr.drew = wc at *
   (refine ti 0 ?_; simp only [Act.put, tA, tB, tD, tE, tF])
   (refine ti 1 ?_; simp only [Act.put, tA, tB, tC, tD, tE, tF])
   (refine ti 2 ?_; simp only [Act.put, tA, tB, tC, tD, tE, tF])
   (refine ti 3 ?_; simp only [Act.put, tA, tB, tC, tD, tE, tF])
   (refine ti 4 ?_; simp only [Act.put, tA, tB, tC, tD, tE, tF])
   (refine ti 5 ?_; simp only [Act.put, tA, tB, tC, tD, tE, tF])
   (refine ti 6 ?_; simp only [Act.put, tA, tB, tC, tD, tE, tF])
   (refine ti 7 ?_; simp only [Act.put, tA, tB, tC, tD, tE, tF])
   (refine ti 8 ?_; simp only [Act.put, tA, tB, tC, tD, tE, tF])
   (refine ti 9 ?_; simp only [Act.put, tA, tB, tC, tD, tE, tF])
   (refine ti 10 ?_; simp only [Act.put, tA, tB, tC, tD, tE, tF])
   (refine ti 11 ?_; simp only [Act.put, tA, tB, tC, tD, tE, tF])
   refine wpAnyH_ready (rs := [12, 17, 18]) (by kernel_rfl) (by simp) ?_
   refine AllReadyH.cons rfl (fun K hK => ?_) (AllReadyH.cons rfl (fun K hK => ?_) (AllReadyH.cons rfl (fun K hK => ?_) AllReadyH.nil))
   focus
    go_simp
    go_wp2_with fail
    refine (CF.out _ HBc.out).mono ?_
    rintro ex we ⟨⟨a0, a1, k_, rfl, hk_, l0, l1, h0_, h1_⟩, hb⟩
    replace HBc := hide (HBc.out.trans (hb.mono HBc.out.size))
    try replace B4 := hide (B4.out.below hb)
    try replace B5 := hide (B5.out.below hb)
    have HK := hide hk_
    have L0 := hide l0
    have L1 := hide l1
    have O0 := hide h0_
    have O1 := hide h1_
    clear hb hk_ l0 l1 h0_ h1_
    go_wp2_with fail
    refine hK.out _ _ (HS.out _ HBc.out) (fun _ => ?_)
    clear hK K
    (refine ti 13 ?_; simp only [Act.put, tA, tB, tC, tD, tE, tF])
    (refine ti 14 ?_; simp only [Act.put, tA, tB, tC, tD, tE, tF])
    (refine ti 15 ?_; simp only [Act.put, tA, tB, tC, tD, tE, tF])
    (refine ti 16 ?_; simp only [Act.put, tA, tB, tC, tD, tE, tF])
    refine wpAnyH_ready (rs := [17, 18]) (by kernel_rfl) (by simp) ?_
    refine AllReadyH.cons rfl (fun K hK => ?_) (AllReadyH.cons rfl (fun K hK => ?_) AllReadyH.nil)
    focus
     go_simp
     obtain ⟨wn, p4, e1, e2, b_, hb, hbc⟩ := alloc_cur HBc.out HBc.out.size [.slice none 0 0, .slice none 0 0, .slice none 0 0, .int .i64 0, .int .i64 0, .slice none 0 0] 44
     rw [← e1, ← e2]
     have B4 := hide b_
     try have hne : p4 ≠ p5 := by have := B5.out.lt; omega
     try replace B5 := hide (B5.out.below hb)
     have np4 : w0.heap.size ≤ p4 := by rw [e2]; exact HBc.out.size
     replace HBc := hide hbc
     clear b_ hb hbc e1 e2
     refine hK.out _ _ (HS.out _ HBc.out) (fun _ => ?_)
     clear hK K
     refine wpAnyH_ready (rs := [18]) (by kernel_rfl) (by simp) ?_
     refine AllReadyH.cons rfl (fun K hK => ?_) AllReadyH.nil
     go_simp
     obtain ⟨wn, p5, e1, e2, b_, hb, hbc⟩ := alloc_cur HBc.out HBc.out.size [.int .i64 0, .int .i64 0, .int .i64 0, .int .i64 0, .int .i64 0, .slice none 0 0, .slice none 0 0, .bool false, .string ⟨#[]⟩, .string ⟨#[]⟩, .bool false, .slice none 0 0, .slice none 0 0, .slice none 0 0, .int .i64 0, .int .i64 0] 64
     rw [← e1, ← e2]
     have B5 := hide b_
     try have hne : p4 ≠ p5 := by have := B4.out.lt; omega
     try replace B4 := hide (B4.out.below hb)
     have np5 : w0.heap.size ≤ p5 := by rw [e2]; exact HBc.out.size
     replace HBc := hide hbc
     clear b_ hb hbc e1 e2
     refine hK.out _ _ (HS.out _ HBc.out) (fun _ => ?_)
     clear hK K
    rotate_left
    focus
     go_simp
     obtain ⟨wn, p5, e1, e2, b_, hb, hbc⟩ := alloc_cur HBc.out HBc.out.size [.int .i64 0, .int .i64 0, .int .i64 0, .int .i64 0, .int .i64 0, .slice none 0 0, .slice none 0 0, .bool false, .string ⟨#[]⟩, .string ⟨#[]⟩, .bool false, .slice none 0 0, .slice none 0 0, .slice none 0 0, .int .i64 0, .int .i64 0] 64
     rw [← e1, ← e2]
     have B5 := hide b_
     try have hne : p4 ≠ p5 := by have := B4.out.lt; omega
     try replace B4 := hide (B4.out.below hb)
     have np5 : w0.heap.size ≤ p5 := by rw [e2]; exact HBc.out.size
     replace HBc := hide hbc
     clear b_ hb hbc e1 e2
     refine hK.out _ _ (HS.out _ HBc.out) (fun _ => ?_)
     clear hK K
     refine wpAnyH_ready (rs := [17]) (by kernel_rfl) (by simp) ?_
     refine AllReadyH.cons rfl (fun K hK => ?_) AllReadyH.nil
     go_simp
     obtain ⟨wn, p4, e1, e2, b_, hb, hbc⟩ := alloc_cur HBc.out HBc.out.size [.slice none 0 0, .slice none 0 0, .slice none 0 0, .int .i64 0, .int .i64 0, .slice none 0 0] 44
     rw [← e1, ← e2]
     have B4 := hide b_
     try have hne : p4 ≠ p5 := by have := B5.out.lt; omega
     try replace B5 := hide (B5.out.below hb)
     have np4 : w0.heap.size ≤ p4 := by rw [e2]; exact HBc.out.size
     replace HBc := hide hbc
     clear b_ hb hbc e1 e2
     refine hK.out _ _ (HS.out _ HBc.out) (fun _ => ?_)
     clear hK K
    rotate_left
   rotate_left 2
   focus
    go_simp
    obtain ⟨wn, p4, e1, e2, b_, hb, hbc⟩ := alloc_cur HBc.out HBc.out.size [.slice none 0 0, .slice none 0 0, .slice none 0 0, .int .i64 0, .int .i64 0, .slice none 0 0] 44
    rw [← e1, ← e2]
    have B4 := hide b_
    try have hne : p4 ≠ p5 := by have := B5.out.lt; omega
    try replace B5 := hide (B5.out.below hb)
    have np4 : w0.heap.size ≤ p4 := by rw [e2]; exact HBc.out.size
    replace HBc := hide hbc
    clear b_ hb hbc e1 e2
    refine hK.out _ _ (HS.out _ HBc.out) (fun _ => ?_)
    clear hK K
    refine wpAnyH_ready (rs := [12, 18]) (by kernel_rfl) (by simp) ?_
    refine AllReadyH.cons rfl (fun K hK => ?_) (AllReadyH.cons rfl (fun K hK => ?_) AllReadyH.nil)
    focus
     go_simp
     go_wp2_with fail
     refine (CF.out _ HBc.out).mono ?_
     rintro ex we ⟨⟨a0, a1, k_, rfl, hk_, l0, l1, h0_, h1_⟩, hb⟩
     replace HBc := hide (HBc.out.trans (hb.mono HBc.out.size))
     try replace B4 := hide (B4.out.below hb)
     try replace B5 := hide (B5.out.below hb)
     have HK := hide hk_
     have L0 := hide l0
     have L1 := hide l1
     have O0 := hide h0_
     have O1 := hide h1_
     clear hb hk_ l0 l1 h0_ h1_
     go_wp2_with fail
     refine hK.out _ _ (HS.out _ HBc.out) (fun _ => ?_)
     clear hK K
     (refine ti 13 ?_; simp only [Act.put, tA, tB, tC, tD, tE, tF])
     (refine ti 14 ?_; simp only [Act.put, tA, tB, tC, tD, tE, tF])
     (refine ti 15 ?_; simp only [Act.put, tA, tB, tC, tD, tE, tF])
     (refine ti 16 ?_; simp only [Act.put, tA, tB, tC, tD, tE, tF])
     refine wpAnyH_ready (rs := [18]) (by kernel_rfl) (by simp) ?_
     refine AllReadyH.cons rfl (fun K hK => ?_) AllReadyH.nil
     go_simp
     obtain ⟨wn, p5, e1, e2, b_, hb, hbc⟩ := alloc_cur HBc.out HBc.out.size [.int .i64 0, .int .i64 0, .int .i64 0, .int .i64 0, .int .i64 0, .slice none 0 0, .slice none 0 0, .bool false, .string ⟨#[]⟩, .string ⟨#[]⟩, .bool false, .slice none 0 0, .slice none 0 0, .slice none 0 0, .int .i64 0, .int .i64 0] 64
     rw [← e1, ← e2]
     have B5 := hide b_
     try have hne : p4 ≠ p5 := by have := B4.out.lt; omega
     try replace B4 := hide (B4.out.below hb)
     have np5 : w0.heap.size ≤ p5 := by rw [e2]; exact HBc.out.size
     replace HBc := hide hbc
     clear b_ hb hbc e1 e2
     refine hK.out _ _ (HS.out _ HBc.out) (fun _ => ?_)
     clear hK K
    rotate_left
    focus
     go_simp
     obtain ⟨wn, p5, e1, e2, b_, hb, hbc⟩ := alloc_cur HBc.out HBc.out.size [.int .i64 0, .int .i64 0, .int .i64 0, .int .i64 0, .int .i64 0, .slice none 0 0, .slice none 0 0, .bool false, .string ⟨#[]⟩, .string ⟨#[]⟩, .bool false, .slice none 0 0, .slice none 0 0, .slice none 0 0, .int .i64 0, .int .i64 0] 64
     rw [← e1, ← e2]
     have B5 := hide b_
     try have hne : p4 ≠ p5 := by have := B4.out.lt; omega
     try replace B4 := hide (B4.out.below hb)
     have np5 : w0.heap.size ≤ p5 := by rw [e2]; exact HBc.out.size
     replace HBc := hide hbc
     clear b_ hb hbc e1 e2
     refine hK.out _ _ (HS.out _ HBc.out) (fun _ => ?_)
     clear hK K
     refine wpAnyH_ready (rs := [12]) (by kernel_rfl) (by simp) ?_
     refine AllReadyH.cons rfl (fun K hK => ?_) AllReadyH.nil
     go_simp
     go_wp2_with fail
     refine (CF.out _ HBc.out).mono ?_
     rintro ex we ⟨⟨a0, a1, k_, rfl, hk_, l0, l1, h0_, h1_⟩, hb⟩
     replace HBc := hide (HBc.out.trans (hb.mono HBc.out.size))
     try replace B4 := hide (B4.out.below hb)
     try replace B5 := hide (B5.out.below hb)
     have HK := hide hk_
     have L0 := hide l0
     have L1 := hide l1
     have O0 := hide h0_
     have O1 := hide h1_
     clear hb hk_ l0 l1 h0_ h1_
     go_wp2_with fail
     refine hK.out _ _ (HS.out _ HBc.out) (fun _ => ?_)
     clear hK K
     (refine ti 13 ?_; simp only [Act.put, tA, tB, tC, tD, tE, tF])
     (refine ti 14 ?_; simp only [Act.put, tA, tB, tC, tD, tE, tF])
     (refine ti 15 ?_; simp only [Act.put, tA, tB, tC, tD, tE, tF])
     (refine ti 16 ?_; simp only [Act.put, tA, tB, tC, tD, tE, tF])
    rotate_left
   rotate_left 2
   focus
    go_simp
    obtain ⟨wn, p5, e1, e2, b_, hb, hbc⟩ := alloc_cur HBc.out HBc.out.size [.int .i64 0, .int .i64 0, .int .i64 0, .int .i64 0, .int .i64 0, .slice none 0 0, .slice none 0 0, .bool false, .string ⟨#[]⟩, .string ⟨#[]⟩, .bool false, .slice none 0 0, .slice none 0 0, .slice none 0 0, .int .i64 0, .int .i64 0] 64
    rw [← e1, ← e2]
    have B5 := hide b_
    try have hne : p4 ≠ p5 := by have := B4.out.lt; omega
    try replace B4 := hide (B4.out.below hb)
    have np5 : w0.heap.size ≤ p5 := by rw [e2]; exact HBc.out.size
    replace HBc := hide hbc
    clear b_ hb hbc e1 e2
    refine hK.out _ _ (HS.out _ HBc.out) (fun _ => ?_)
    clear hK K
    refine wpAnyH_ready (rs := [12, 17]) (by kernel_rfl) (by simp) ?_
    refine AllReadyH.cons rfl (fun K hK => ?_) (AllReadyH.cons rfl (fun K hK => ?_) AllReadyH.nil)
    focus
     go_simp
     go_wp2_with fail
     refine (CF.out _ HBc.out).mono ?_
     rintro ex we ⟨⟨a0, a1, k_, rfl, hk_, l0, l1, h0_, h1_⟩, hb⟩
     replace HBc := hide (HBc.out.trans (hb.mono HBc.out.size))
     try replace B4 := hide (B4.out.below hb)
     try replace B5 := hide (B5.out.below hb)
     have HK := hide hk_
     have L0 := hide l0
     have L1 := hide l1
     have O0 := hide h0_
     have O1 := hide h1_
     clear hb hk_ l0 l1 h0_ h1_
     go_wp2_with fail
     refine hK.out _ _ (HS.out _ HBc.out) (fun _ => ?_)
     clear hK K
     (refine ti 13 ?_; simp only [Act.put, tA, tB, tC, tD, tE, tF])
     (refine ti 14 ?_; simp only [Act.put, tA, tB, tC, tD, tE, tF])
     (refine ti 15 ?_; simp only [Act.put, tA, tB, tC, tD, tE, tF])
     (refine ti 16 ?_; simp only [Act.put, tA, tB, tC, tD, tE, tF])
     refine wpAnyH_ready (rs := [17]) (by kernel_rfl) (by simp) ?_
     refine AllReadyH.cons rfl (fun K hK => ?_) AllReadyH.nil
     go_simp
     obtain ⟨wn, p4, e1, e2, b_, hb, hbc⟩ := alloc_cur HBc.out HBc.out.size [.slice none 0 0, .slice none 0 0, .slice none 0 0, .int .i64 0, .int .i64 0, .slice none 0 0] 44
     rw [← e1, ← e2]
     have B4 := hide b_
     try have hne : p4 ≠ p5 := by have := B5.out.lt; omega
     try replace B5 := hide (B5.out.below hb)
     have np4 : w0.heap.size ≤ p4 := by rw [e2]; exact HBc.out.size
     replace HBc := hide hbc
     clear b_ hb hbc e1 e2
     refine hK.out _ _ (HS.out _ HBc.out) (fun _ => ?_)
     clear hK K
    rotate_left
    focus
     go_simp
     obtain ⟨wn, p4, e1, e2, b_, hb, hbc⟩ := alloc_cur HBc.out HBc.out.size [.slice none 0 0, .slice none 0 0, .slice none 0 0, .int .i64 0, .int .i64 0, .slice none 0 0] 44
     rw [← e1, ← e2]
     have B4 := hide b_
     try have hne : p4 ≠ p5 := by have := B5.out.lt; omega
     try replace B5 := hide (B5.out.below hb)
     have np4 : w0.heap.size ≤ p4 := by rw [e2]; exact HBc.out.size
     replace HBc := hide hbc
     clear b_ hb hbc e1 e2
     refine hK.out _ _ (HS.out _ HBc.out) (fun _ => ?_)
     clear hK K
     refine wpAnyH_ready (rs := [12]) (by kernel_rfl) (by simp) ?_
     refine AllReadyH.cons rfl (fun K hK => ?_) AllReadyH.nil
     go_simp
     go_wp2_with fail
     refine (CF.out _ HBc.out).mono ?_
     rintro ex we ⟨⟨a0, a1, k_, rfl, hk_, l0, l1, h0_, h1_⟩, hb⟩
     replace HBc := hide (HBc.out.trans (hb.mono HBc.out.size))
     try replace B4 := hide (B4.out.below hb)
     try replace B5 := hide (B5.out.below hb)
     have HK := hide hk_
     have L0 := hide l0
     have L1 := hide l1
     have O0 := hide h0_
     have O1 := hide h1_
     clear hb hk_ l0 l1 h0_ h1_
     go_wp2_with fail
     refine hK.out _ _ (HS.out _ HBc.out) (fun _ => ?_)
     clear hK K
     (refine ti 13 ?_; simp only [Act.put, tA, tB, tC, tD, tE, tF])
     (refine ti 14 ?_; simp only [Act.put, tA, tB, tC, tD, tE, tF])
     (refine ti 15 ?_; simp only [Act.put, tA, tB, tC, tD, tE, tF])
     (refine ti 16 ?_; simp only [Act.put, tA, tB, tC, tD, tE, tF])
    rotate_left
   all_goals
    refine wpAnyH_ready (rs := [19]) (by kernel_rfl) (by simp) ?_
    refine AllReadyH.cons rfl (fun K hK => ?_) AllReadyH.nil
    refine stepStoreN a0.toArray rfl 44 _ _ rfl (by rw [List.size_toArray, L0.out]; kernel_rfl) (by kernel_rfl) (by kernel_rfl) B4.out (by rw [List.size_toArray, L0.out]; rfl) (all_oneCell_toArray O0.out) ?_
    intro wf bf zf _
    replace B5 := hide (B5.out.kn (kn_zn zf) (by intro hm; exact hne (List.mem_singleton.1 hm).symm))
    replace HBc : Hid (Below w0.heap.size w0 wf) := HBc.out.trans (zf.below np4 HBc.out.size)
    refine hK.out _ _ (HS.out _ HBc.out) (fun _ => ?_)
    clear hK K
    clear bf zf B4
    refine wpAnyH_ready (rs := [20]) (by kernel_rfl) (by simp) ?_
    refine AllReadyH.cons rfl (fun K hK => ?_) AllReadyH.nil
    refine stepStoreN a1.toArray rfl 64 _ _ rfl (by rw [List.size_toArray, L1.out]; kernel_rfl) (by kernel_rfl) (by kernel_rfl) B5.out (by rw [List.size_toArray, L1.out]; rfl) (all_oneCell_toArray O1.out) ?_
    intro wg bg zg _
    replace HBc : Hid (Below w0.heap.size w0 wg) := HBc.out.trans (zg.below np5 HBc.out.size)
    refine hK.out _ _ (HS.out _ HBc.out) (fun _ => ?_)
    clear hK K
    clear bg zg B5
    (refine ti 21 ?_; simp only [Act.put, tA, tB, tC, tD, tE, tF])
    refine wpAnyH_done (by kernel_rfl) ?_ _
    have hk_ := HK.out
    clear HK
    rcases hk_ with rfl | rfl
    ·go_wp2
     go_roundw
     case rel => exact ⟨k + 1, by omega, by go_num, HBc⟩
     case measure => simp [intOf]; omega
    ·go_wp2
     go_roundw
     case rel => exact ⟨k + 1, by omega, by go_num, HBc⟩
     case measure => simp [intOf]; omega
  ·have hd : ¬ (k : Int) < (x.s.e.b.qs.length : Int) := by omega
   go_wp2
   go_ret
   exact ⟨rfl, HB.out.trans (HR.out.mono HB.out.size)⟩

end Go.Proofs.YtmijppfppigjcaaGreat

namespace Go.Proofs.YtmijppfppigjcaaGreat
open Go.RowKit
open KM
open VM
attribute [local go_sem ↓] Go.wp_at_zero Go.wp_at_succ

set_option maxRecDepth 100000 in
set_option maxHeartbeats 4000000 in
theorem law3 (x : Wd) (w : World) (hpe : WdArg w x) :
  Calls Tryz.prog 3 #[.agg #[.slice x.s.e.b.va x.s.e.b.vs.length x.s.e.b.vc, .slice x.s.e.b.pa x.s.e.b.ps.length x.s.e.b.pc, .slice x.s.e.b.qa x.s.e.b.qs.length x.s.e.b.qc, .int .i64 x.s.e.b.cs, .int .i64 x.s.e.b.nx, .slice x.s.e.oa x.s.e.os.length x.s.e.oc, .slice x.s.d.sa x.s.d.ss.length x.s.d.sc, .slice x.s.d.pa x.s.d.ps.length x.s.d.pc, .slice x.pa x.ps.length x.pc, .slice x.ca x.cs.length x.cc, .slice x.da x.ds.length x.dc]] w fun e w' => e = .returned (.bool true) ∧ Below w.heap.size w w' := by
 have HP : Hid (WdArg w x) := hpe
 clear hpe
 have BX : Hid (Bx (w.alloc (.cells #[.slice x.s.e.b.va x.s.e.b.vs.length x.s.e.b.vc, .slice x.s.e.b.pa x.s.e.b.ps.length x.s.e.b.pc, .slice x.s.e.b.qa x.s.e.b.qs.length x.s.e.b.qc, .int .i64 x.s.e.b.cs, .int .i64 x.s.e.b.nx, .slice x.s.e.oa x.s.e.os.length x.s.e.oc, .slice x.s.d.sa x.s.d.ss.length x.s.d.sc, .slice x.s.d.pa x.s.d.ps.length x.s.d.pc, .slice x.pa x.ps.length x.pc, .slice x.ca x.cs.length x.cc, .slice x.da x.ds.length x.dc] 36)) w.heap.size [.slice x.s.e.b.va x.s.e.b.vs.length x.s.e.b.vc, .slice x.s.e.b.pa x.s.e.b.ps.length x.s.e.b.pc, .slice x.s.e.b.qa x.s.e.b.qs.length x.s.e.b.qc, .int .i64 x.s.e.b.cs, .int .i64 x.s.e.b.nx, .slice x.s.e.oa x.s.e.os.length x.s.e.oc, .slice x.s.d.sa x.s.d.ss.length x.s.d.sc, .slice x.s.d.pa x.s.d.ps.length x.s.d.pc, .slice x.pa x.ps.length x.pc, .slice x.ca x.cs.length x.cc, .slice x.da x.ds.length x.dc]) := Bx.new w [.slice x.s.e.b.va x.s.e.b.vs.length x.s.e.b.vc, .slice x.s.e.b.pa x.s.e.b.ps.length x.s.e.b.pc, .slice x.s.e.b.qa x.s.e.b.qs.length x.s.e.b.qc, .int .i64 x.s.e.b.cs, .int .i64 x.s.e.b.nx, .slice x.s.e.oa x.s.e.os.length x.s.e.oc, .slice x.s.d.sa x.s.d.ss.length x.s.d.sc, .slice x.s.d.pa x.s.d.ps.length x.s.d.pc, .slice x.pa x.ps.length x.pc, .slice x.ca x.cs.length x.cc, .slice x.da x.ds.length x.dc] 36
 have HB : Hid (Below w.heap.size w (w.alloc (.cells #[.slice x.s.e.b.va x.s.e.b.vs.length x.s.e.b.vc, .slice x.s.e.b.pa x.s.e.b.ps.length x.s.e.b.pc, .slice x.s.e.b.qa x.s.e.b.qs.length x.s.e.b.qc, .int .i64 x.s.e.b.cs, .int .i64 x.s.e.b.nx, .slice x.s.e.oa x.s.e.os.length x.s.e.oc, .slice x.s.d.sa x.s.d.ss.length x.s.d.sc, .slice x.s.d.pa x.s.d.ps.length x.s.d.pc, .slice x.pa x.ps.length x.pc, .slice x.ca x.cs.length x.cc, .slice x.da x.ds.length x.dc] 36))) := (belowRefl w).alloc (Nat.le_refl _) _
 have CT := hide (fun (hf : WdFit x) (W : World) (h : Below w.heap.size w W) => toWd x hf W (HP.out.rows.below h))
 go_enter Tryz.func3, Tryz.ntmps3
 go_upto_region 2 with fail
 generalize (w.alloc (.cells #[.slice x.s.e.b.va x.s.e.b.vs.length x.s.e.b.vc, .slice x.s.e.b.pa x.s.e.b.ps.length x.s.e.b.pc, .slice x.s.e.b.qa x.s.e.b.qs.length x.s.e.b.qc, .int .i64 x.s.e.b.cs, .int .i64 x.s.e.b.nx, .slice x.s.e.oa x.s.e.os.length x.s.e.oc, .slice x.s.d.sa x.s.d.ss.length x.s.d.sc, .slice x.s.d.pa x.s.d.ps.length x.s.d.pc, .slice x.pa x.ps.length x.pc, .slice x.ca x.cs.length x.cc, .slice x.da x.ds.length x.dc] 36)) = w0 at *
 have p0 := BX.out.c0
 have p1 := BX.out.c1
 have p2 := BX.out.c2
 have p3 := BX.out.c3
 have p4 := BX.out.c4
 have p5 := BX.out.c5
 have p6 := BX.out.c6
 have p7 := BX.out.c7
 have p8 := BX.out.at11.1
 have p9 := BX.out.at11.2.1
 have p10 := BX.out.at11.2.2
 go_wp2_with fail
 refine (szWd x _ (HP.out.below HB.out)).mono ?_
 rintro e w1 ⟨hb, r, rfl, hr⟩
 have HR := hide hr
 replace HB : Hid (Below w.heap.size w w1) := HB.out.trans (hb.mono HB.out.size)
 replace BX : Hid (Bx w1 w.heap.size [.slice x.s.e.b.va x.s.e.b.vs.length x.s.e.b.vc, .slice x.s.e.b.pa x.s.e.b.ps.length x.s.e.b.pc, .slice x.s.e.b.qa x.s.e.b.qs.length x.s.e.b.qc, .int .i64 x.s.e.b.cs, .int .i64 x.s.e.b.nx, .slice x.s.e.oa x.s.e.os.length x.s.e.oc, .slice x.s.d.sa x.s.d.ss.length x.s.d.sc, .slice x.s.d.pa x.s.d.ps.length x.s.d.pc, .slice x.pa x.ps.length x.pc, .slice x.ca x.cs.length x.cc, .slice x.da x.ds.length x.dc]) := BX.out.below hb
 clear hb hr
 clear p0 p1 p2 p3 p4 p5 p6 p7 p8 p9 p10
 by_cases hn : r < 0
 ·go_wp2
  go_ret
  exact ⟨rfl, HB.out⟩
 have HF : Hid (WdFit x) := HR.out (by omega)
 have p0 := BX.out.c0
 have p1 := BX.out.c1
 have p2 := BX.out.c2
 have p3 := BX.out.c3
 have p4 := BX.out.c4
 have p5 := BX.out.c5
 have p6 := BX.out.c6
 have p7 := BX.out.c7
 have p8 := BX.out.at11.1
 have p9 := BX.out.at11.2.1
 have p10 := BX.out.at11.2.2
 go_wp2_with fail
 refine (CT.out HF.out _ HB.out).mono ?_
 rintro e w2 ⟨c, rfl, hsm, hrw, ⟨lo_, hi_, hel⟩, hb⟩
 have HEL := hide hel
 clear hel hrw
 have HS := hide hsm
 replace HB : Hid (Below w.heap.size w w2) := HB.out.trans (hb.mono HB.out.size)
 replace BX : Hid (Bx w2 w.heap.size [.slice x.s.e.b.va x.s.e.b.vs.length x.s.e.b.vc, .slice x.s.e.b.pa x.s.e.b.ps.length x.s.e.b.pc, .slice x.s.e.b.qa x.s.e.b.qs.length x.s.e.b.qc, .int .i64 x.s.e.b.cs, .int .i64 x.s.e.b.nx, .slice x.s.e.oa x.s.e.os.length x.s.e.oc, .slice x.s.d.sa x.s.d.ss.length x.s.d.sc, .slice x.s.d.pa x.s.d.ps.length x.s.d.pc, .slice x.pa x.ps.length x.pc, .slice x.ca x.cs.length x.cc, .slice x.da x.ds.length x.dc]) := BX.out.below hb
 clear hb hsm
 clear p0 p1 p2 p3 p4 p5 p6 p7 p8 p9 p10
 go_wp2_with fail
 refine (sdoubt c (HS.out.fit HF.out) lo_ hi_ _ HEL.out).mono ?_
 rintro e w3 ⟨rfl, hb⟩
 replace HB : Hid (Below w.heap.size w w3) := HB.out.trans (hb.mono HB.out.size)
 replace BX : Hid (Bx w3 w.heap.size [.slice x.s.e.b.va x.s.e.b.vs.length x.s.e.b.vc, .slice x.s.e.b.pa x.s.e.b.ps.length x.s.e.b.pc, .slice x.s.e.b.qa x.s.e.b.qs.length x.s.e.b.qc, .int .i64 x.s.e.b.cs, .int .i64 x.s.e.b.nx, .slice x.s.e.oa x.s.e.os.length x.s.e.oc, .slice x.s.d.sa x.s.d.ss.length x.s.d.sc, .slice x.s.d.pa x.s.d.ps.length x.s.d.pc, .slice x.pa x.ps.length x.pc, .slice x.ca x.cs.length x.cc, .slice x.da x.ds.length x.dc]) := BX.out.below hb
 clear hb HS HEL
 have p0 := BX.out.c0
 have p1 := BX.out.c1
 have p2 := BX.out.c2
 have p3 := BX.out.c3
 have p4 := BX.out.c4
 have p5 := BX.out.c5
 have p6 := BX.out.c6
 have p7 := BX.out.c7
 have p8 := BX.out.at11.1
 have p9 := BX.out.at11.2.1
 have p10 := BX.out.at11.2.2
 go_wp2_with fail
 refine (CT.out HF.out _ HB.out).mono ?_
 rintro e w4 ⟨k, rfl, hsm, hrw, -, hb⟩
 have HS := hide hsm
 have RK := hide hrw
 replace HB : Hid (Below w.heap.size w w4) := HB.out.trans (hb.mono HB.out.size)
 replace BX : Hid (Bx w4 w.heap.size [.slice x.s.e.b.va x.s.e.b.vs.length x.s.e.b.vc, .slice x.s.e.b.pa x.s.e.b.ps.length x.s.e.b.pc, .slice x.s.e.b.qa x.s.e.b.qs.length x.s.e.b.qc, .int .i64 x.s.e.b.cs, .int .i64 x.s.e.b.nx, .slice x.s.e.oa x.s.e.os.length x.s.e.oc, .slice x.s.d.sa x.s.d.ss.length x.s.d.sc, .slice x.s.d.pa x.s.d.ps.length x.s.d.pc, .slice x.pa x.ps.length x.pc, .slice x.ca x.cs.length x.cc, .slice x.da x.ds.length x.dc]) := BX.out.below hb
 clear hb hsm hrw
 clear p0 p1 p2 p3 p4 p5 p6 p7 p8 p9 p10
 have BK : Hid (Bx (w4.alloc (.cells #[.slice k.s.e.b.va k.s.e.b.vs.length k.s.e.b.vc, .slice k.s.e.b.pa k.s.e.b.ps.length k.s.e.b.pc, .slice k.s.e.b.qa k.s.e.b.qs.length k.s.e.b.qc, .int .i64 k.s.e.b.cs, .int .i64 k.s.e.b.nx, .slice k.s.e.oa k.s.e.os.length k.s.e.oc, .slice k.s.d.sa k.s.d.ss.length k.s.d.sc, .slice k.s.d.pa k.s.d.ps.length k.s.d.pc, .slice k.pa k.ps.length k.pc, .slice k.ca k.cs.length k.cc, .slice k.da k.ds.length k.dc] 51)) w4.heap.size [.slice k.s.e.b.va k.s.e.b.vs.length k.s.e.b.vc, .slice k.s.e.b.pa k.s.e.b.ps.length k.s.e.b.pc, .slice k.s.e.b.qa k.s.e.b.qs.length k.s.e.b.qc, .int .i64 k.s.e.b.cs, .int .i64 k.s.e.b.nx, .slice k.s.e.oa k.s.e.os.length k.s.e.oc, .slice k.s.d.sa k.s.d.ss.length k.s.d.sc, .slice k.s.d.pa k.s.d.ps.length k.s.d.pc, .slice k.pa k.ps.length k.pc, .slice k.ca k.cs.length k.cc, .slice k.da k.ds.length k.dc]) := Bx.new w4 [.slice k.s.e.b.va k.s.e.b.vs.length k.s.e.b.vc, .slice k.s.e.b.pa k.s.e.b.ps.length k.s.e.b.pc, .slice k.s.e.b.qa k.s.e.b.qs.length k.s.e.b.qc, .int .i64 k.s.e.b.cs, .int .i64 k.s.e.b.nx, .slice k.s.e.oa k.s.e.os.length k.s.e.oc, .slice k.s.d.sa k.s.d.ss.length k.s.d.sc, .slice k.s.d.pa k.s.d.ps.length k.s.d.pc, .slice k.pa k.ps.length k.pc, .slice k.ca k.cs.length k.cc, .slice k.da k.ds.length k.dc] 51
 have hba : Below w4.heap.size w4 (w4.alloc (.cells #[.slice k.s.e.b.va k.s.e.b.vs.length k.s.e.b.vc, .slice k.s.e.b.pa k.s.e.b.ps.length k.s.e.b.pc, .slice k.s.e.b.qa k.s.e.b.qs.length k.s.e.b.qc, .int .i64 k.s.e.b.cs, .int .i64 k.s.e.b.nx, .slice k.s.e.oa k.s.e.os.length k.s.e.oc, .slice k.s.d.sa k.s.d.ss.length k.s.d.sc, .slice k.s.d.pa k.s.d.ps.length k.s.d.pc, .slice k.pa k.ps.length k.pc, .slice k.ca k.cs.length k.cc, .slice k.da k.ds.length k.dc] 51)) := (belowRefl w4).alloc (Nat.le_refl _) _
 replace HB : Hid (Below w.heap.size w (w4.alloc (.cells #[.slice k.s.e.b.va k.s.e.b.vs.length k.s.e.b.vc, .slice k.s.e.b.pa k.s.e.b.ps.length k.s.e.b.pc, .slice k.s.e.b.qa k.s.e.b.qs.length k.s.e.b.qc, .int .i64 k.s.e.b.cs, .int .i64 k.s.e.b.nx, .slice k.s.e.oa k.s.e.os.length k.s.e.oc, .slice k.s.d.sa k.s.d.ss.length k.s.d.sc, .slice k.s.d.pa k.s.d.ps.length k.s.d.pc, .slice k.pa k.ps.length k.pc, .slice k.ca k.cs.length k.cc, .slice k.da k.ds.length k.dc] 51))) := HB.out.trans (hba.mono HB.out.size)
 replace BX : Hid (Bx (w4.alloc (.cells #[.slice k.s.e.b.va k.s.e.b.vs.length k.s.e.b.vc, .slice k.s.e.b.pa k.s.e.b.ps.length k.s.e.b.pc, .slice k.s.e.b.qa k.s.e.b.qs.length k.s.e.b.qc, .int .i64 k.s.e.b.cs, .int .i64 k.s.e.b.nx, .slice k.s.e.oa k.s.e.os.length k.s.e.oc, .slice k.s.d.sa k.s.d.ss.length k.s.d.sc, .slice k.s.d.pa k.s.d.ps.length k.s.d.pc, .slice k.pa k.ps.length k.pc, .slice k.ca k.cs.length k.cc, .slice k.da k.ds.length k.dc] 51)) w.heap.size [.slice x.s.e.b.va x.s.e.b.vs.length x.s.e.b.vc, .slice x.s.e.b.pa x.s.e.b.ps.length x.s.e.b.pc, .slice x.s.e.b.qa x.s.e.b.qs.length x.s.e.b.qc, .int .i64 x.s.e.b.cs, .int .i64 x.s.e.b.nx, .slice x.s.e.oa x.s.e.os.length x.s.e.oc, .slice x.s.d.sa x.s.d.ss.length x.s.d.sc, .slice x.s.d.pa x.s.d.ps.length x.s.d.pc, .slice x.pa x.ps.length x.pc, .slice x.ca x.cs.length x.cc, .slice x.da x.ds.length x.dc]) := BX.out.below hba
 replace RK : Hid (WdRows (w4.alloc (.cells #[.slice k.s.e.b.va k.s.e.b.vs.length k.s.e.b.vc, .slice k.s.e.b.pa k.s.e.b.ps.length k.s.e.b.pc, .slice k.s.e.b.qa k.s.e.b.qs.length k.s.e.b.qc, .int .i64 k.s.e.b.cs, .int .i64 k.s.e.b.nx, .slice k.s.e.oa k.s.e.os.length k.s.e.oc, .slice k.s.d.sa k.s.d.ss.length k.s.d.sc, .slice k.s.d.pa k.s.d.ps.length k.s.d.pc, .slice k.pa k.ps.length k.pc, .slice k.ca k.cs.length k.cc, .slice k.da k.ds.length k.dc] 51)) k) := RK.out.below hba
 clear hba
 go_upto_region 7 with fail
 generalize (w4.alloc (.cells #[.slice k.s.e.b.va k.s.e.b.vs.length k.s.e.b.vc, .slice k.s.e.b.pa k.s.e.b.ps.length k.s.e.b.pc, .slice k.s.e.b.qa k.s.e.b.qs.length k.s.e.b.qc, .int .i64 k.s.e.b.cs, .int .i64 k.s.e.b.nx, .slice k.s.e.oa k.s.e.os.length k.s.e.oc, .slice k.s.d.sa k.s.d.ss.length k.s.d.sc, .slice k.s.d.pa k.s.d.ps.length k.s.d.pc, .slice k.pa k.ps.length k.pc, .slice k.ca k.cs.length k.cc, .slice k.da k.ds.length k.dc] 51)) = w5 at *
 have q0 := BK.out.c0
 have q1 := BK.out.c1
 have q2 := BK.out.c2
 have q3 := BK.out.c3
 have q4 := BK.out.c4
 have q5 := BK.out.c5
 have q6 := BK.out.c6
 have q7 := BK.out.c7
 have q8 := BK.out.at11.1
 have q9 := BK.out.at11.2.1
 have q10 := BK.out.at11.2.2
 go_wp2_with fail
 refine (idoubt k (HS.out.fit HF.out) _ RK.out).mono ?_
 rintro e w6 ⟨rfl, hb⟩
 replace HB : Hid (Below w.heap.size w w6) := HB.out.trans (hb.mono HB.out.size)
 replace BX : Hid (Bx w6 w.heap.size [.slice x.s.e.b.va x.s.e.b.vs.length x.s.e.b.vc, .slice x.s.e.b.pa x.s.e.b.ps.length x.s.e.b.pc, .slice x.s.e.b.qa x.s.e.b.qs.length x.s.e.b.qc, .int .i64 x.s.e.b.cs, .int .i64 x.s.e.b.nx, .slice x.s.e.oa x.s.e.os.length x.s.e.oc, .slice x.s.d.sa x.s.d.ss.length x.s.d.sc, .slice x.s.d.pa x.s.d.ps.length x.s.d.pc, .slice x.pa x.ps.length x.pc, .slice x.ca x.cs.length x.cc, .slice x.da x.ds.length x.dc]) := BX.out.below hb
 replace BK : Hid (Bx w6 w4.heap.size [.slice k.s.e.b.va k.s.e.b.vs.length k.s.e.b.vc, .slice k.s.e.b.pa k.s.e.b.ps.length k.s.e.b.pc, .slice k.s.e.b.qa k.s.e.b.qs.length k.s.e.b.qc, .int .i64 k.s.e.b.cs, .int .i64 k.s.e.b.nx, .slice k.s.e.oa k.s.e.os.length k.s.e.oc, .slice k.s.d.sa k.s.d.ss.length k.s.d.sc, .slice k.s.d.pa k.s.d.ps.length k.s.d.pc, .slice k.pa k.ps.length k.pc, .slice k.ca k.cs.length k.cc, .slice k.da k.ds.length k.dc]) := BK.out.below hb
 replace RK : Hid (WdRows w6 k) := RK.out.below hb
 clear hb
 clear q0 q1 q2 q3 q4 q5 q6 q7 q8 q9 q10
 go_upto_region 10 with fail
 refine wp_region_held_drew (S := fun w' => w'.cell? ⟨w4.heap.size, 0, none⟩ = some (.slice k.s.e.b.va k.s.e.b.vs.length k.s.e.b.vc) ∧ w'.cell? ⟨w4.heap.size, 1, none⟩ = some (.slice k.s.e.b.pa k.s.e.b.ps.length k.s.e.b.pc) ∧ w'.cell? ⟨w4.heap.size, 2, none⟩ = some (.slice k.s.e.b.qa k.s.e.b.qs.length k.s.e.b.qc) ∧ w'.cell? ⟨w4.heap.size, 3, none⟩ = some (.int .i64 k.s.e.b.cs) ∧ w'.cell? ⟨w4.heap.size, 4, none⟩ = some (.int .i64 k.s.e.b.nx) ∧ w'.cell? ⟨w4.heap.size, 5, none⟩ = some (.slice k.s.e.oa k.s.e.os.length k.s.e.oc) ∧ w'.cell? ⟨w4.heap.size, 6, none⟩ = some (.slice k.s.d.sa k.s.d.ss.length k.s.d.sc) ∧ w'.cell? ⟨w4.heap.size, 7, none⟩ = some (.slice k.s.d.pa k.s.d.ps.length k.s.d.pc) ∧ w'.cell? ⟨w4.heap.size, 8, none⟩ = some (.slice k.pa k.ps.length k.pc) ∧ w'.cell? ⟨w4.heap.size, 9, none⟩ = some (.slice k.ca k.cs.length k.cc) ∧ w'.cell? ⟨w4.heap.size, 10, none⟩ = some (.slice k.da k.ds.length k.dc) ∧ w'.cell? ⟨w.heap.size, 0, none⟩ = some (.slice x.s.e.b.va x.s.e.b.vs.length x.s.e.b.vc) ∧ w'.cell? ⟨w.heap.size, 1, none⟩ = some (.slice x.s.e.b.pa x.s.e.b.ps.length x.s.e.b.pc) ∧ w'.cell? ⟨w.heap.size, 2, none⟩ = some (.slice x.s.e.b.qa x.s.e.b.qs.length x.s.e.b.qc) ∧ w'.cell? ⟨w.heap.size, 3, none⟩ = some (.int .i64 x.s.e.b.cs) ∧ w'.cell? ⟨w.heap.size, 4, none⟩ = some (.int .i64 x.s.e.b.nx) ∧ w'.cell? ⟨w.heap.size, 5, none⟩ = some (.slice x.s.e.oa x.s.e.os.length x.s.e.oc) ∧ w'.cell? ⟨w.heap.size, 6, none⟩ = some (.slice x.s.d.sa x.s.d.ss.length x.s.d.sc) ∧ w'.cell? ⟨w.heap.size, 7, none⟩ = some (.slice x.s.d.pa x.s.d.ps.length x.s.d.pc) ∧ w'.cell? ⟨w.heap.size, 8, none⟩ = some (.slice x.pa x.ps.length x.pc) ∧ w'.cell? ⟨w.heap.size, 9, none⟩ = some (.slice x.ca x.cs.length x.cc) ∧ w'.cell? ⟨w.heap.size, 10, none⟩ = some (.slice x.da x.ds.length x.dc)) (by kernel_rfl) ⟨BK.out.c0, BK.out.c1, BK.out.c2, BK.out.c3, BK.out.c4, BK.out.c5, BK.out.c6, BK.out.c7, BK.out.at11.1, BK.out.at11.2.1, BK.out.at11.2.2, BX.out.c0, BX.out.c1, BX.out.c2, BX.out.c3, BX.out.c4, BX.out.c5, BX.out.c6, BX.out.c7, BX.out.at11.1, BX.out.at11.2.1, BX.out.at11.2.2⟩ (fun hHeld => ?_)
 (refine ti 0 ?_; simp only [Act.put, tA, tB, tD, tE, tF])
 (refine ti 1 ?_; simp only [Act.put, tA, tB, tC, tD, tE, tF])
 refine wpAnyH_ready (rs := [2]) (by kernel_rfl) (by simp) ?_
 refine AllReadyH.cons rfl (fun K hK => ?_) AllReadyH.nil
 go_simp
 go_wp2_with fail
 refine (CT.out HF.out _ (HB.out.trans ((belowRefl w6).drew.mono HB.out.size))).mono ?_
 rintro e w7 ⟨j, rfl, hsm, hrw, -, hb⟩
 have hbu := undrew hb
 have HJ := hide hsm
 have RJ := hide hrw
 replace HB : Hid (Below w.heap.size w w7) := HB.out.trans (hbu.mono HB.out.size)
 replace BX : Hid (Bx w7 w.heap.size [.slice x.s.e.b.va x.s.e.b.vs.length x.s.e.b.vc, .slice x.s.e.b.pa x.s.e.b.ps.length x.s.e.b.pc, .slice x.s.e.b.qa x.s.e.b.qs.length x.s.e.b.qc, .int .i64 x.s.e.b.cs, .int .i64 x.s.e.b.nx, .slice x.s.e.oa x.s.e.os.length x.s.e.oc, .slice x.s.d.sa x.s.d.ss.length x.s.d.sc, .slice x.s.d.pa x.s.d.ps.length x.s.d.pc, .slice x.pa x.ps.length x.pc, .slice x.ca x.cs.length x.cc, .slice x.da x.ds.length x.dc]) := BX.out.below hbu
 replace BK : Hid (Bx w7 w4.heap.size [.slice k.s.e.b.va k.s.e.b.vs.length k.s.e.b.vc, .slice k.s.e.b.pa k.s.e.b.ps.length k.s.e.b.pc, .slice k.s.e.b.qa k.s.e.b.qs.length k.s.e.b.qc, .int .i64 k.s.e.b.cs, .int .i64 k.s.e.b.nx, .slice k.s.e.oa k.s.e.os.length k.s.e.oc, .slice k.s.d.sa k.s.d.ss.length k.s.d.sc, .slice k.s.d.pa k.s.d.ps.length k.s.d.pc, .slice k.pa k.ps.length k.pc, .slice k.ca k.cs.length k.cc, .slice k.da k.ds.length k.dc]) := BK.out.below hbu
 replace RK : Hid (WdRows w7 k) := RK.out.below hbu
 go_wp2_with fail
 refine hK.out _ _ ⟨BK.out.c0, BK.out.c1, BK.out.c2, BK.out.c3, BK.out.c4, BK.out.c5, BK.out.c6, BK.out.c7, BK.out.at11.1, BK.out.at11.2.1, BK.out.at11.2.2, BX.out.c0, BX.out.c1, BX.out.c2, BX.out.c3, BX.out.c4, BX.out.c5, BX.out.c6, BX.out.c7, BX.out.at11.1, BX.out.at11.2.1, BX.out.at11.2.2⟩ (fun hHeld7 => ?_)
 clear hK K hb hbu hsm hrw
 refine wpAnyH_ready (rs := [3]) (by kernel_rfl) (by simp) ?_
 refine AllReadyH.cons rfl (fun K hK => ?_) AllReadyH.nil
 go_simp
 go_wp2_with fail
 refine (eqWd k j (HS.out.symm.trans HJ.out) (HS.out.fit HF.out) _ RK.out RJ.out).mono ?_
 rintro e w8 ⟨rfl, hb⟩
 replace HB : Hid (Below w.heap.size w w8) := HB.out.trans (hb.mono HB.out.size)
 replace BX : Hid (Bx w8 w.heap.size [.slice x.s.e.b.va x.s.e.b.vs.length x.s.e.b.vc, .slice x.s.e.b.pa x.s.e.b.ps.length x.s.e.b.pc, .slice x.s.e.b.qa x.s.e.b.qs.length x.s.e.b.qc, .int .i64 x.s.e.b.cs, .int .i64 x.s.e.b.nx, .slice x.s.e.oa x.s.e.os.length x.s.e.oc, .slice x.s.d.sa x.s.d.ss.length x.s.d.sc, .slice x.s.d.pa x.s.d.ps.length x.s.d.pc, .slice x.pa x.ps.length x.pc, .slice x.ca x.cs.length x.cc, .slice x.da x.ds.length x.dc]) := BX.out.below hb
 replace BK : Hid (Bx w8 w4.heap.size [.slice k.s.e.b.va k.s.e.b.vs.length k.s.e.b.vc, .slice k.s.e.b.pa k.s.e.b.ps.length k.s.e.b.pc, .slice k.s.e.b.qa k.s.e.b.qs.length k.s.e.b.qc, .int .i64 k.s.e.b.cs, .int .i64 k.s.e.b.nx, .slice k.s.e.oa k.s.e.os.length k.s.e.oc, .slice k.s.d.sa k.s.d.ss.length k.s.d.sc, .slice k.s.d.pa k.s.d.ps.length k.s.d.pc, .slice k.pa k.ps.length k.pc, .slice k.ca k.cs.length k.cc, .slice k.da k.ds.length k.dc]) := BK.out.below hb
 replace RK : Hid (WdRows w8 k) := RK.out.below hb
 go_wp2_with fail
 refine hK.out _ _ ⟨BK.out.c0, BK.out.c1, BK.out.c2, BK.out.c3, BK.out.c4, BK.out.c5, BK.out.c6, BK.out.c7, BK.out.at11.1, BK.out.at11.2.1, BK.out.at11.2.2, BX.out.c0, BX.out.c1, BX.out.c2, BX.out.c3, BX.out.c4, BX.out.c5, BX.out.c6, BX.out.c7, BX.out.at11.1, BX.out.at11.2.1, BX.out.at11.2.2⟩ (fun hHeld8 => ?_)
 clear hK K hb
 (refine ti 4 ?_; simp only [Act.put, tA, tB, tC, tD, tE, tF])
 refine wpAnyH_done (by kernel_rfl) ?_ _
 go_wp2
 go_ret
 exact ⟨rfl, HB.out⟩
end Go.Proofs.YtmijppfppigjcaaGreat

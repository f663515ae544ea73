/- What countOf and versions do. -/
import Derived.Test.YtbajpnbodhhmjaaGreatPs01
import Derived.Test.YtbajpnbodhhmjaaGreatPs12
import Derived.Test.YtbajpnbodhhmjaaGreatPs10
import Derived.Test.YtbajpnbodhhmjaaGreatPs02
import Derived.Test.YtbajpnbodhhmjaaGreatPs11
import Derived.LaidEqlPtr
import Derived.Sort.Row
namespace Go.Proofs.YtbajpnbodhhmjaaGreat
open Go.RowKit
open KM
open VM
attribute [local go_sem ↓] Go.wp_at_zero Go.wp_at_succ

set_option maxRecDepth 100000 in
set_option maxHeartbeats 4000000 in
theorem vers47 (base c : Nat) (r : Nd) (ns : List Nd) (hn : ns.length ≤ 100000000) (hf : ∀ n ∈ ns, n.2.1.size ≤ 281474976710656 ∧ n.2.2.1.size ≤ 281474976710656) (w : World) (hc : Chn w base c (r :: ns)) :
  Calls Tryz.prog 82 #[.pointer (some ⟨c, 0, none⟩)] w fun e w' => ∃ a1 c1, e = .returned (.slice a1 (ns.map (·.2)).length c1) ∧ GOwn encV 69 w' w.heap.size (.slice a1 (ns.map (·.2)).length c1) (ns.map (·.2)) ∧ Below w.heap.size w w' := by
 have HF : Hid (∀ n ∈ ns, n.2.1.size ≤ 281474976710656 ∧ n.2.2.1.size ≤ 281474976710656) := hf
 clear hf
 have HC : Hid (Chn w base c (r :: ns)) := hc
 have b0 := hc.bx.c0
 have r4 := (Chn.at' (A := []) hc).c4
 simp only [ptq_cons] at b0
 clear hc
 obtain ⟨u0, hu0⟩ : ∃ u, u = ptq ns none := ⟨_, rfl⟩
 rw [← hu0] at r4
 have HU : Hid (u0 = ptq ns none) := hu0
 clear hu0
 go_enter Tryz.func82, Tryz.ntmps82
 go_wp2
 clear b0 r4
 go_loopg [3, 4] ns.length (fun g v t wr => ∃ A B : List Nd, Hid (ns = A ++ B) ∧ Hid (B.length = g) ∧ t = .pointer (ptq B none) ∧ Hid (GOwn encV 69 wr w.heap.size v (A.map (·.2))) ∧ Hid (Below w.heap.size w wr))
 case atStart => exact ⟨[], ns, rfl, rfl, by rw [HU.out], GOwn.nil _ _, belowRefl w⟩
 case round =>
  obtain ⟨A, B, HE, HG, h8, HO, HB⟩ := hrel
  cases B with
  | nil =>
   rw [ptq_nil] at h8
   have ho := HO.out
   rw [show A = ns by rw [HE.out, List.append_nil]] at ho
   obtain ⟨a1, c1, rfl, _⟩ := ho.row
   have HO1 := hide ho
   clear ho HO
   subst h8
   go_wp2
   go_ret
   exact ⟨a1, c1, rfl, HO1.out, HB.out⟩
  | cons n B =>
   rw [ptq_cons] at h8
   have hx := seg_at (HC.out.below HB.out) HE.out
   have n0 := hx.c0
   have n1 := hx.c1
   have n2 := hx.c2
   have n3 := hx.c3
   have HX : Hid (Bx wr n.1 (ndc n.2 (ptq B none))) := hx
   clear hx
   have HLt : Hid (n.1 < w.heap.size) := HC.out.lt n.1 (by rw [HE.out]; simp)
   obtain ⟨q, hq⟩ : ∃ q, q = ptq B none := ⟨_, rfl⟩
   rw [← hq] at HX
   have HQ : Hid (Value.pointer q = .pointer (ptq B none)) := by show _ = _; rw [hq]
   clear hq
   have HE2 : Hid (ns = (A ++ [n]) ++ B) := by show _ = _; rw [HE.out]; simp
   have HG2 : Hid (B.length < gk) := by show _ < _; rw [← HG.out]; simp
   have hl : (A.map (·.2)).length ≤ 100000000 := by
    rw [List.length_map]
    have h := congrArg List.length HE.out
    rw [List.length_append] at h
    omega
   have HZ : Hid (n.2.1.size ≤ 281474976710656 ∧ n.2.2.1.size ≤ 281474976710656) := HF.out n (by rw [HE.out]; simp)
   have HOb : Hid (∀ g, u3.ownBlock = some g → g < wr.heap.size) := fun g hg => (World.ownsRow.lt HO.out g hg).2
   have D1 : Hid (∀ w, Calls Tryz.prog 28 #[.string n.2.1] w fun e w' => e = .returned (.string n.2.1) ∧ Below w.heap.size w w') := fun w => clone49 _ HZ.out.1 w
   have D2 : Hid (∀ w, Calls Tryz.prog 28 #[.string n.2.2.1] w fun e w' => e = .returned (.string n.2.2.1) ∧ Below w.heap.size w w') := fun w => clone49 _ HZ.out.2 w
   have Y0 : Hid (Bx (wr.alloc (.cells #[.string n.2.1, .string n.2.2.1, .bool n.2.2.2.1, .int .i64 n.2.2.2.2] 69)) wr.heap.size [.string n.2.1, .string n.2.2.1, .bool n.2.2.2.1, .int .i64 n.2.2.2.2]) := Bx.new wr [.string n.2.1, .string n.2.2.1, .bool n.2.2.2.1, .int .i64 n.2.2.2.2] 69
   have O0 := hide (HO.out.alloc (.cells #[.string n.2.1, .string n.2.2.1, .bool n.2.2.2.1, .int .i64 n.2.2.2.2] 69))
   have B0 : Hid (Below w.heap.size w (wr.alloc (.cells #[.string n.2.1, .string n.2.2.1, .bool n.2.2.2.1, .int .i64 n.2.2.2.2] 69))) := HB.out.alloc HB.out.size _
   subst h8
   go_wp2
   clear n0 n1 n2 n3
   generalize (wr.alloc (.cells #[.string n.2.1, .string n.2.2.1, .bool n.2.2.2.1, .int .i64 n.2.2.2.2] 69)) = V0 at *
   refine wp_region_held_drew (S := fun w' => w'.cell? ⟨wr.heap.size, 0, none⟩ = some (.string n.2.1) ∧ w'.cell? ⟨wr.heap.size, 1, none⟩ = some (.string n.2.2.1) ∧ w'.cell? ⟨wr.heap.size, 2, none⟩ = some (.bool n.2.2.2.1) ∧ w'.cell? ⟨wr.heap.size, 3, none⟩ = some (.int .i64 n.2.2.2.2)) (by kernel_rfl) ⟨Y0.out.c0, Y0.out.c1, Y0.out.c2, Y0.out.c3⟩ (fun hHeld => ?_)
   (refine tk 0 ?_ rfl (Or.inl ⟨by rfl, ?_⟩) ?_; rotate_left; (focus (intro w h; (try dsimp only at h); go_simp; (try with_reducible rfl))); simp only [Act.put, tA, tB, tD, tE, tF])
   (refine tk 1 ?_ rfl (Or.inl ⟨by rfl, ?_⟩) ?_; rotate_left; (focus (intro w h; (try dsimp only at h); go_simp; (try with_reducible rfl))); simp only [Act.put, tA, tB, tC, tD, tE, tF])
   (refine tk 2 ?_ rfl (Or.inl ⟨by rfl, ?_⟩) ?_; rotate_left; (focus (intro w h; (try dsimp only at h); go_simp; (try with_reducible rfl))); simp only [Act.put, tA, tB, tC, tD, tE, tF])
   (refine tk 4 ?_ rfl (Or.inl ⟨by rfl, ?_⟩) ?_; rotate_left; (focus (intro w h; (try dsimp only at h); go_simp; (try with_reducible rfl))); simp only [Act.put, tA, tB, tC, tD, tE, tF])
   (refine tk 5 ?_ rfl (Or.inl ⟨by rfl, ?_⟩) ?_; rotate_left; (focus (intro w h; (try dsimp only at h); go_simp; (try with_reducible rfl))); simp only [Act.put, tA, tB, tC, tD, tE, tF])
   (refine tk 7 ?_ rfl (Or.inl ⟨by rfl, ?_⟩) ?_; rotate_left; (focus (intro w h; (try dsimp only at h); go_simp; (try with_reducible rfl))); simp only [Act.put, tA, tB, tC, tD, tE, tF])
   (refine tk 8 ?_ rfl (Or.inl ⟨by rfl, ?_⟩) ?_; rotate_left; (focus (intro w h; (try dsimp only at h); go_simp; (try with_reducible rfl))); simp only [Act.put, tA, tB, tC, tD, tE, tF])
   (refine tk 9 ?_ rfl (Or.inl ⟨by rfl, ?_⟩) ?_; rotate_left; (focus (intro w h; (try dsimp only at h); go_simp; (try with_reducible rfl))); simp only [Act.put, tA, tB, tC, tD, tE, tF])
   (refine tk 10 ?_ rfl (Or.inl ⟨by rfl, ?_⟩) ?_; rotate_left; (focus (intro w h; (try dsimp only at h); go_simp; (try with_reducible rfl))); simp only [Act.put, tA, tB, tC, tD, tE, tF])
   refine wpAnyH_ready (rs := [3]) (by kernel_rfl) (by simp) ?_
   refine AllReadyH.cons rfl (fun K hK => ?_) AllReadyH.nil
   go_simp
   go_wp2_with fail
   refine (D1.out _).mono ?_
   rintro e w1 ⟨rfl, hb1⟩
   have Y1 : Hid (Bx w1 wr.heap.size [.string n.2.1, .string n.2.2.1, .bool n.2.2.2.1, .int .i64 n.2.2.2.2]) := Y0.out.below (undrew hb1)
   have O1 := hide (O0.out.below (undrew hb1))
   have B1 : Hid (Below w.heap.size w w1) := B0.out.trans (((undrew hb1)).mono B0.out.size)
   clear hb1
   go_wp2_with fail
   refine hK.out _ _ ⟨Y1.out.c0, Y1.out.c1, Y1.out.c2, Y1.out.c3⟩ (fun hHeld1 => ?_)
   clear hK K
   refine wpAnyH_ready (rs := [6]) (by kernel_rfl) (by simp) ?_
   refine AllReadyH.cons rfl (fun K hK => ?_) AllReadyH.nil
   go_simp
   go_wp2_with fail
   refine (D2.out _).mono ?_
   rintro e w2 ⟨rfl, hb2⟩
   have Y2 : Hid (Bx w2 wr.heap.size [.string n.2.1, .string n.2.2.1, .bool n.2.2.2.1, .int .i64 n.2.2.2.2]) := Y1.out.below hb2
   have O2 := hide (O1.out.below hb2)
   have B2 : Hid (Below w.heap.size w w2) := B1.out.trans ((hb2).mono B1.out.size)
   clear hb2
   go_wp2_with fail
   refine hK.out _ _ ⟨Y2.out.c0, Y2.out.c1, Y2.out.c2, Y2.out.c3⟩ (fun hHeld2 => ?_)
   clear hK K
   (refine tk 11 ?_ rfl (Or.inl ⟨by rfl, ?_⟩) ?_; rotate_left; (focus (intro w h; (try dsimp only at h); go_simp; (try with_reducible rfl))); simp only [Act.put, tA, tB, tC, tD, tE, tF])
   refine wpAnyH_ready (rs := [12]) (by kernel_rfl) (by simp) ?_
   refine AllReadyH.cons rfl (fun K hK => ?_) AllReadyH.nil
   go_simp
   have Y3 : Hid (Bx (w2.alloc (.cells #[.string n.2.1, .string n.2.2.1, .bool n.2.2.2.1, .int .i64 n.2.2.2.2] 69)) wr.heap.size [.string n.2.1, .string n.2.2.1, .bool n.2.2.2.1, .int .i64 n.2.2.2.2]) := Y2.out.alloc _
   go_wp2_with fail
   refine hK.out _ _ ⟨Y3.out.c0, Y3.out.c1, Y3.out.c2, Y3.out.c3⟩ (fun hHeld3 => ?_)
   clear hK K
   refine wpAnyH_ready (rs := [13]) (by kernel_rfl) (by simp) ?_
   refine AllReadyH.cons rfl (fun K hK => ?_) AllReadyH.nil
   refine stepAppKV (by rfl) _ _ (by rfl) n.2 (by rfl) (O2.out.alloc _) (by rfl) (heapAllocNew w2 [.string n.2.1, .string n.2.2.1, .bool n.2.2.2.1, .int .i64 n.2.2.2.2] 69) hl (Nat.le_trans B2.out.size (by rw [World.size_alloc]; omega)) ?_
   intro v4 w4 ho4 hb4 hg4
   have O4 : Hid (GOwn encV 69 w4 w.heap.size v4 ((A ++ [n]).map (·.2))) := by
    show GOwn _ _ _ _ _ _
    rw [List.map_append]; exact ho4
   have B4 : Hid (Below w.heap.size w w4) := (B2.out.alloc B2.out.size _).trans hb4
   have Y4 : Hid (Bx w4 wr.heap.size [.string n.2.1, .string n.2.2.1, .bool n.2.2.2.1, .int .i64 n.2.2.2.2]) := bx_marked Y3.out hg4 (fun e => by have := HOb.out _ e; omega)
   clear ho4 hb4 hg4
   go_wp2_with fail
   refine hK.out _ _ ⟨Y4.out.c0, Y4.out.c1, Y4.out.c2, Y4.out.c3⟩ (fun hHeld4 => ?_)
   clear hK K
   (refine tk 14 ?_ rfl (Or.inl ⟨by rfl, ?_⟩) ?_; rotate_left; (focus (intro w h; (try dsimp only at h); go_simp; (try with_reducible rfl))); simp only [Act.put, tA, tB, tC, tD, tE, tF])
   refine wpAnyH_done (by kernel_rfl) ?_ _
   have n4 : w4.cell? ⟨n.1, 4, none⟩ = some (.pointer q) := (B4.out.cell (p := ⟨n.1, 4, none⟩) HLt.out).trans ((HB.out.cell (p := ⟨n.1, 4, none⟩) HLt.out).symm.trans HX.out.c4)
   go_wp2
   go_roundg B.length
   case measure => exact HG2.out
   case rel => exact ⟨A ++ [n], B, HE2, rfl, HQ.out, O4, B4⟩
end Go.Proofs.YtbajpnbodhhmjaaGreat

namespace Go.Proofs.YtbajpnbodhhmjaaGreat
open Go.RowKit
open KM
open VM
attribute [local go_sem ↓] Go.wp_at_zero Go.wp_at_succ

end Go.Proofs.YtbajpnbodhhmjaaGreat

namespace Go.Proofs.YtbajpnbodhhmjaaGreat
open Go.RowKit
open KM
open VM
attribute [local go_sem ↓] Go.wp_at_zero Go.wp_at_succ

end Go.Proofs.YtbajpnbodhhmjaaGreat

/- What ScanAt does, on both sides. -/
import Derived.Test.YtbajpnbodhhmjaaPq16
import Derived.Test.YtbajpnbodhhmjaaPq02
import Derived.Test.YtbajpnbodhhmjaaPq03
import Derived.Test.YtbajpnbodhhmjaaPq10
import Derived.Test.YtbajpnbodhhmjaaPq11
import Derived.Test.YtbajpnbodhhmjaaPq12
import Derived.Test.YtbajpnbodhhmjaaPq13
import Derived.LaidEqlPtr
import Derived.Sort.Row
namespace Go.Proofs.Ytbajpnbodhhmjaa
open Go.RowKit
open KM
open VM
attribute [local go_sem ↓] Go.wp_at_zero Go.wp_at_succ

set_option maxRecDepth 100000 in
set_option maxHeartbeats 2000000 in
theorem iscan (vs : List Vr) (a : Option Addr) (c : Nat) (rg : Rg) (s : Int) (hn : vs.length ≤ 100000000) (hf : VFit vs) (w : World) (hp : GRow encV w a vs) :
    Calls Try.prog 33 #[.slice a vs.length c, .agg #[.string rg.1, .string rg.2], .int .i64 s] w fun e w' => ∃ a1 c1, e = .returned (.slice a1 (scanB vs rg s).length c1) ∧ GOwn encR 66 w' w.heap.size (.slice a1 (scanB vs rg s).length c1) (scanB vs rg s) ∧ Below w.heap.size w w' := by
  have HP : Hid (GRow encV w a vs) := hp
  have HF : Hid (VFit vs) := hf
  clear hp hf
  have X0 : Hid (Bx (w.alloc (.cells #[.string rg.1, .string rg.2] 56)) w.heap.size [.string rg.1, .string rg.2]) := Bx.new w [.string rg.1, .string rg.2] 56
  have HB0 : Hid (Below w.heap.size w (w.alloc (.cells #[.string rg.1, .string rg.2] 56))) := (belowRefl w).alloc (Nat.le_refl _) _
  have HS0 : Hid ((w.alloc (.cells #[.string rg.1, .string rg.2] 56)).heap.size = w.heap.size + 1) := World.size_alloc _ _
  go_enter Try.func33, Try.ntmps33
  go_wp2
  generalize (w.alloc (.cells #[.string rg.1, .string rg.2] 56)) = W at *
  refine wp_region_held_drew (S := fun w' => w'.cell? ⟨w.heap.size, 0, none⟩ = some (.string rg.1) ∧ w'.cell? ⟨w.heap.size, 1, none⟩ = some (.string rg.2)) (by kernel_rfl) ⟨X0.out.c0, X0.out.c1⟩ (fun hHeld => ?_)
  (refine wpAnyH_take (i := 0) (v := ?_) rfl (by kernel_rfl) (by kernel_rfl) (by kernel_rfl) (fun _ _ _ h => h) (Or.inl ⟨by rfl, ?_⟩) (by assumption) ?_; rotate_left; (focus (intro w hSw; (try dsimp only at hSw); go_simp; (try with_reducible rfl); done)); simp only [Act.put, List.getElem_toArray, List.getElem_cons_zero, List.setIfInBounds_toArray, List.set_cons_zero, List.set_cons_succ])
  (refine wpAnyH_take (i := 2) (v := ?_) rfl (by kernel_rfl) (by kernel_rfl) (by kernel_rfl) (fun _ _ _ h => h) (Or.inl ⟨by rfl, ?_⟩) (by assumption) ?_; rotate_left; (focus (intro w hSw; (try dsimp only at hSw); go_simp; (try with_reducible rfl); done)); simp only [Act.put, List.getElem_toArray, List.getElem_cons_zero, List.getElem_cons_succ, List.setIfInBounds_toArray, List.set_cons_zero, List.set_cons_succ])
  (refine wpAnyH_take (i := 3) (v := ?_) rfl (by kernel_rfl) (by kernel_rfl) (by kernel_rfl) (fun _ _ _ h => h) (Or.inl ⟨by rfl, ?_⟩) (by assumption) ?_; rotate_left; (focus (intro w hSw; (try dsimp only at hSw); go_simp; (try with_reducible rfl); done)); simp only [Act.put, List.getElem_toArray, List.getElem_cons_zero, List.getElem_cons_succ, List.setIfInBounds_toArray, List.set_cons_zero, List.set_cons_succ])
  refine wpAnyH_ready (rs := [1]) (by kernel_rfl) (by simp) ?_
  refine AllReadyH.cons rfl (fun K hK => ?_) AllReadyH.nil
  go_simp
  go_wp2_with fail
  refine (chain45 vs a c hn _ (HP.out.below HB0.out.drew)).mono ?_
  rintro e w1 ⟨rfl, ⟨r, ns, hc, hv⟩, hb1⟩
  have HC : Hid (Chn w1 W.heap.size (W.heap.size + 1) ((r, zV) :: ns)) := hc
  have HV : Hid (ns.map (·.2) = vs) := hv
  have X1 : Hid (Bx w1 w.heap.size [.string rg.1, .string rg.2]) := X0.out.below (undrew hb1)
  have HB1 : Hid (Below w.heap.size w w1) := HB0.out.trans ((undrew hb1).mono HB0.out.size)
  clear hc hv hb1
  go_wp2_with fail
  refine hK.out _ _ ⟨X1.out.c0, X1.out.c1⟩ (fun hHeld2 => ?_)
  clear hK K
  refine wpAnyH_ready (rs := [4]) (by kernel_rfl) (by simp) ?_
  refine AllReadyH.cons rfl (fun K hK => ?_) AllReadyH.nil
  go_simp
  have hnl : ns.length ≤ 100000000 := by rw [← List.length_map (f := fun x : Nd => x.2), HV.out]; exact hn
  go_wp2_with fail
  refine (scan56 W.heap.size (W.heap.size + 1) (r, zV) ns vs rg s hnl HV.out HF.out _ HC.out).mono ?_
  rintro e w2 ⟨a1, c1, rfl, ho, hb2⟩
  have HO : Hid (GOwn encR 66 w2 w.heap.size (.slice a1 (scanB vs rg s).length c1) (scanB vs rg s)) := ho.mono HB1.out.size
  have X2 : Hid (Bx w2 w.heap.size [.string rg.1, .string rg.2]) := X1.out.below hb2
  have HB2 : Hid (Below w.heap.size w w2) := HB1.out.trans (hb2.mono HB1.out.size)
  clear ho hb2
  go_wp2_with fail
  refine hK.out _ _ ⟨X2.out.c0, X2.out.c1⟩ (fun hHeld3 => ?_)
  clear hK K
  (refine wpAnyH_take (i := 5) (v := ?_) rfl (by kernel_rfl) (by kernel_rfl) (by kernel_rfl) (fun _ _ _ h => h) (Or.inl ⟨by rfl, ?_⟩) (by assumption) ?_; rotate_left; (focus (intro w hSw; (try dsimp only at hSw); go_simp; (try with_reducible rfl); done)); simp only [Act.put, List.getElem_toArray, List.getElem_cons_zero, List.getElem_cons_succ, List.setIfInBounds_toArray, List.set_cons_zero, List.set_cons_succ])
  refine wpAnyH_done (by kernel_rfl) ?_ _
  go_wp2
  go_ret
  exact ⟨a1, c1, rfl, HO.out, HB2.out⟩

structure KI (vs : List Vr) (rg : Rg) (i : Nat) (ks : List ByteArray) : Prop where
  up : ks.Pairwise (fun a b => lt a b = true)
  mem : ∀ x, x ∈ ks ↔ x ∈ (vs.take i).map (·.1) ∧ inB rg x = true
  len : ks.length ≤ i
theorem KI.no {vs : List Vr} {rg : Rg} {i : Nat} {ks : List ByteArray} (h : KI vs rg i ks) (hi : i < vs.length) (hn : inB rg vs[i].1 = false) : KI vs rg (i + 1) ks := by
  refine ⟨h.up, fun x => ?_, by have := h.len; omega⟩
  rw [h.mem, List.take_succ_eq_append_getElem hi, List.map_append, List.mem_append]
  constructor
  · exact fun ⟨h1, h2⟩ => ⟨Or.inl h1, h2⟩
  · rintro ⟨h1 | h1, h2⟩
    · exact ⟨h1, h2⟩
    · rw [List.map_singleton, List.mem_singleton] at h1
      rw [h1, hn] at h2; cases h2
end Go.Proofs.Ytbajpnbodhhmjaa

namespace Go.Proofs.Ytbajpnbodhhmjaa
open Go.RowKit
open KM
open VM
attribute [local go_sem ↓] Go.wp_at_zero Go.wp_at_succ

def leV (v : Vr) (a : Vr) : Bool := lt a.1 v.1 || (decide (a.1 = v.1) && decide (a.2.2.2 ≤ v.2.2.2))
def insV (l : List Vr) (v : Vr) : List Vr := l.takeWhile (leV v) ++ v :: l.dropWhile (leV v)
def verOf (cs : Int) (x : Wt) : Vr := (x.1, x.2.1, x.2.2, cs)
def putV (l : List Vr) (ws : List Wt) (cs : Int) : List Vr := ws.foldl (fun acc x => insV acc (verOf cs x)) l
theorem putV_snoc (l : List Vr) (ws : List Wt) (cs : Int) (i : Nat) (h : i < ws.length) : putV l (ws.take (i + 1)) cs = insV (putV l (ws.take i) cs) (verOf cs ws[i]) := by
  unfold putV
  rw [List.take_succ_eq_append_getElem h, List.foldl_append]; rfl
theorem ins_len (l : List Vr) (v : Vr) : (insV l v).length = l.length + 1 := by
  unfold insV
  have h := congrArg List.length (List.takeWhile_append_dropWhile (p := leV v) (l := l))
  rw [List.length_append] at h
  rw [List.length_append, List.length_cons]
  omega
theorem put_len (l : List Vr) (cs : Int) : ∀ ws : List Wt, (putV l ws cs).length = l.length + ws.length := by
  intro ws
  induction ws generalizing l with
  | nil => rfl
  | cons x ws ih =>
    show (putV (insV l (verOf cs x)) ws cs).length = _
    rw [ih, ins_len, List.length_cons]; omega
end Go.Proofs.Ytbajpnbodhhmjaa

namespace Go.Proofs.Ytbajpnbodhhmjaa
namespace VM
open KM
end VM
end Go.Proofs.Ytbajpnbodhhmjaa

namespace Go.Proofs.Ytbajpnbodhhmjaa
open Go.RowKit
open KM
open VM
attribute [local go_sem ↓] Go.wp_at_zero Go.wp_at_succ

set_option maxRecDepth 100000 in
set_option maxHeartbeats 4000000 in
theorem vers47 (base c : Nat) (r : Nd) (ns : List Nd) (hn : ns.length ≤ 100000000) (hf : ∀ n ∈ ns, n.2.1.size ≤ 281474976710656 ∧ n.2.2.1.size ≤ 281474976710656) (w : World) (hc : Chn w base c (r :: ns)) :
    Calls Try.prog 46 #[.pointer (some ⟨c, 0, none⟩)] w fun e w' => ∃ a1 c1, e = .returned (.slice a1 (ns.map (·.2)).length c1) ∧ GOwn encV 86 w' w.heap.size (.slice a1 (ns.map (·.2)).length c1) (ns.map (·.2)) ∧ Below w.heap.size w w' := by
  have HF : Hid (∀ n ∈ ns, n.2.1.size ≤ 281474976710656 ∧ n.2.2.1.size ≤ 281474976710656) := hf
  clear hf
  have HC : Hid (Chn w base c (r :: ns)) := hc
  have b0 := hc.bx.c0
  have r4 := (Chn.at' (A := []) hc).c4
  simp only [ptq_cons] at b0
  clear hc
  obtain ⟨u0, hu0⟩ : ∃ u, u = ptq ns none := ⟨_, rfl⟩
  rw [← hu0] at r4
  have HU : Hid (u0 = ptq ns none) := hu0
  clear hu0
  go_enter Try.func46, Try.ntmps46
  go_wp2
  clear b0 r4
  go_loopg [3, 4] ns.length (fun g v t wr => ∃ A B : List Nd, Hid (ns = A ++ B) ∧ Hid (B.length = g) ∧ t = .pointer (ptq B none) ∧ Hid (GOwn encV 86 wr w.heap.size v (A.map (·.2))) ∧ Hid (Below w.heap.size w wr))
  case atStart => exact ⟨[], ns, rfl, rfl, by rw [HU.out], GOwn.nil _ _, belowRefl w⟩
  case round =>
    obtain ⟨A, B, HE, HG, h8, HO, HB⟩ := hrel
    cases B with
    | nil =>
      rw [ptq_nil] at h8
      have ho := HO.out
      rw [show A = ns by rw [HE.out, List.append_nil]] at ho
      obtain ⟨a1, c1, rfl, _⟩ := ho.row
      have HO1 := hide ho
      clear ho HO
      subst h8
      go_wp2
      go_ret
      exact ⟨a1, c1, rfl, HO1.out, HB.out⟩
    | cons n B =>
      rw [ptq_cons] at h8
      have hx := seg_at (HC.out.below HB.out) HE.out
      have n0 := hx.c0
      have n1 := hx.c1
      have n2 := hx.c2
      have n3 := hx.c3
      have HX : Hid (Bx wr n.1 (ndc n.2 (ptq B none))) := hx
      clear hx
      have HLt : Hid (n.1 < w.heap.size) := HC.out.lt n.1 (by rw [HE.out]; simp)
      obtain ⟨q, hq⟩ : ∃ q, q = ptq B none := ⟨_, rfl⟩
      rw [← hq] at HX
      have HQ : Hid (Value.pointer q = .pointer (ptq B none)) := by show _ = _; rw [hq]
      clear hq
      have HE2 : Hid (ns = (A ++ [n]) ++ B) := by show _ = _; rw [HE.out]; simp
      have HG2 : Hid (B.length < gk) := by show _ < _; rw [← HG.out]; simp
      have hl : (A.map (·.2)).length ≤ 100000000 := by
        rw [List.length_map]
        have h := congrArg List.length HE.out
        rw [List.length_append] at h
        omega
      have HZ : Hid (n.2.1.size ≤ 281474976710656 ∧ n.2.2.1.size ≤ 281474976710656) := HF.out n (by rw [HE.out]; simp)
      have HOb : Hid (∀ g, u3.ownBlock = some g → g < wr.heap.size) := fun g hg => (World.ownsRow.lt HO.out g hg).2
      have D1 : Hid (∀ w, Calls Try.prog 38 #[.string n.2.1] w fun e w' => e = .returned (.string n.2.1) ∧ Below w.heap.size w w') := fun w => clone49 _ HZ.out.1 w
      have D2 : Hid (∀ w, Calls Try.prog 38 #[.string n.2.2.1] w fun e w' => e = .returned (.string n.2.2.1) ∧ Below w.heap.size w w') := fun w => clone49 _ HZ.out.2 w
      have Y0 : Hid (Bx (wr.alloc (.cells #[.string n.2.1, .string n.2.2.1, .bool n.2.2.2.1, .int .i64 n.2.2.2.2] 86)) wr.heap.size [.string n.2.1, .string n.2.2.1, .bool n.2.2.2.1, .int .i64 n.2.2.2.2]) := Bx.new wr [.string n.2.1, .string n.2.2.1, .bool n.2.2.2.1, .int .i64 n.2.2.2.2] 86
      have O0 := hide (HO.out.alloc (.cells #[.string n.2.1, .string n.2.2.1, .bool n.2.2.2.1, .int .i64 n.2.2.2.2] 86))
      have B0 : Hid (Below w.heap.size w (wr.alloc (.cells #[.string n.2.1, .string n.2.2.1, .bool n.2.2.2.1, .int .i64 n.2.2.2.2] 86))) := HB.out.alloc HB.out.size _
      subst h8
      go_wp2
      clear n0 n1 n2 n3
      generalize (wr.alloc (.cells #[.string n.2.1, .string n.2.2.1, .bool n.2.2.2.1, .int .i64 n.2.2.2.2] 86)) = V0 at *
      refine wp_region_held_drew (S := fun w' => w'.cell? ⟨wr.heap.size, 0, none⟩ = some (.string n.2.1) ∧ w'.cell? ⟨wr.heap.size, 1, none⟩ = some (.string n.2.2.1) ∧ w'.cell? ⟨wr.heap.size, 2, none⟩ = some (.bool n.2.2.2.1) ∧ w'.cell? ⟨wr.heap.size, 3, none⟩ = some (.int .i64 n.2.2.2.2)) (by kernel_rfl) ⟨Y0.out.c0, Y0.out.c1, Y0.out.c2, Y0.out.c3⟩ (fun hHeld => ?_)
      (refine wpAnyH_take (i := 0) (v := ?_) rfl (by kernel_rfl) (by kernel_rfl) (by kernel_rfl) (fun _ _ _ h => h) (Or.inl ⟨by rfl, ?_⟩) (by assumption) ?_; rotate_left; (focus (intro w hSw; (try dsimp only at hSw); go_simp; (try with_reducible rfl); done)); simp only [Act.put, List.getElem_toArray, List.getElem_cons_zero, List.setIfInBounds_toArray, List.set_cons_zero, List.set_cons_succ])
      (refine wpAnyH_take (i := 1) (v := ?_) rfl (by kernel_rfl) (by kernel_rfl) (by kernel_rfl) (fun _ _ _ h => h) (Or.inl ⟨by rfl, ?_⟩) (by assumption) ?_; rotate_left; (focus (intro w hSw; (try dsimp only at hSw); go_simp; (try with_reducible rfl); done)); simp only [Act.put, List.getElem_toArray, List.getElem_cons_zero, List.getElem_cons_succ, List.setIfInBounds_toArray, List.set_cons_zero, List.set_cons_succ])
      (refine wpAnyH_take (i := 2) (v := ?_) rfl (by kernel_rfl) (by kernel_rfl) (by kernel_rfl) (fun _ _ _ h => h) (Or.inl ⟨by rfl, ?_⟩) (by assumption) ?_; rotate_left; (focus (intro w hSw; (try dsimp only at hSw); go_simp; (try with_reducible rfl); done)); simp only [Act.put, List.getElem_toArray, List.getElem_cons_zero, List.getElem_cons_succ, List.setIfInBounds_toArray, List.set_cons_zero, List.set_cons_succ])
      (refine wpAnyH_take (i := 4) (v := ?_) rfl (by kernel_rfl) (by kernel_rfl) (by kernel_rfl) (fun _ _ _ h => h) (Or.inl ⟨by rfl, ?_⟩) (by assumption) ?_; rotate_left; (focus (intro w hSw; (try dsimp only at hSw); go_simp; (try with_reducible rfl); done)); simp only [Act.put, List.getElem_toArray, List.getElem_cons_zero, List.getElem_cons_succ, List.setIfInBounds_toArray, List.set_cons_zero, List.set_cons_succ])
      (refine wpAnyH_take (i := 5) (v := ?_) rfl (by kernel_rfl) (by kernel_rfl) (by kernel_rfl) (fun _ _ _ h => h) (Or.inl ⟨by rfl, ?_⟩) (by assumption) ?_; rotate_left; (focus (intro w hSw; (try dsimp only at hSw); go_simp; (try with_reducible rfl); done)); simp only [Act.put, List.getElem_toArray, List.getElem_cons_zero, List.getElem_cons_succ, List.setIfInBounds_toArray, List.set_cons_zero, List.set_cons_succ])
      (refine wpAnyH_take (i := 7) (v := ?_) rfl (by kernel_rfl) (by kernel_rfl) (by kernel_rfl) (fun _ _ _ h => h) (Or.inl ⟨by rfl, ?_⟩) (by assumption) ?_; rotate_left; (focus (intro w hSw; (try dsimp only at hSw); go_simp; (try with_reducible rfl); done)); simp only [Act.put, List.getElem_toArray, List.getElem_cons_zero, List.getElem_cons_succ, List.setIfInBounds_toArray, List.set_cons_zero, List.set_cons_succ])
      (refine wpAnyH_take (i := 8) (v := ?_) rfl (by kernel_rfl) (by kernel_rfl) (by kernel_rfl) (fun _ _ _ h => h) (Or.inl ⟨by rfl, ?_⟩) (by assumption) ?_; rotate_left; (focus (intro w hSw; (try dsimp only at hSw); go_simp; (try with_reducible rfl); done)); simp only [Act.put, List.getElem_toArray, List.getElem_cons_zero, List.getElem_cons_succ, List.setIfInBounds_toArray, List.set_cons_zero, List.set_cons_succ])
      (refine wpAnyH_take (i := 9) (v := ?_) rfl (by kernel_rfl) (by kernel_rfl) (by kernel_rfl) (fun _ _ _ h => h) (Or.inl ⟨by rfl, ?_⟩) (by assumption) ?_; rotate_left; (focus (intro w hSw; (try dsimp only at hSw); go_simp; (try with_reducible rfl); done)); simp only [Act.put, List.getElem_toArray, List.getElem_cons_zero, List.getElem_cons_succ, List.setIfInBounds_toArray, List.set_cons_zero, List.set_cons_succ])
      (refine wpAnyH_take (i := 10) (v := ?_) rfl (by kernel_rfl) (by kernel_rfl) (by kernel_rfl) (fun _ _ _ h => h) (Or.inl ⟨by rfl, ?_⟩) (by assumption) ?_; rotate_left; (focus (intro w hSw; (try dsimp only at hSw); go_simp; (try with_reducible rfl); done)); simp only [Act.put, List.getElem_toArray, List.getElem_cons_zero, List.getElem_cons_succ, List.setIfInBounds_toArray, List.set_cons_zero, List.set_cons_succ])
      refine wpAnyH_ready (rs := [3]) (by kernel_rfl) (by simp) ?_
      refine AllReadyH.cons rfl (fun K hK => ?_) AllReadyH.nil
      go_simp
      go_wp2_with fail
      refine (D1.out _).mono ?_
      rintro e w1 ⟨rfl, hb1⟩
      have Y1 : Hid (Bx w1 wr.heap.size [.string n.2.1, .string n.2.2.1, .bool n.2.2.2.1, .int .i64 n.2.2.2.2]) := Y0.out.below (undrew hb1)
      have O1 := hide (O0.out.below (undrew hb1))
      have B1 : Hid (Below w.heap.size w w1) := B0.out.trans (((undrew hb1)).mono B0.out.size)
      clear hb1
      go_wp2_with fail
      refine hK.out _ _ ⟨Y1.out.c0, Y1.out.c1, Y1.out.c2, Y1.out.c3⟩ (fun hHeld1 => ?_)
      clear hK K
      refine wpAnyH_ready (rs := [6]) (by kernel_rfl) (by simp) ?_
      refine AllReadyH.cons rfl (fun K hK => ?_) AllReadyH.nil
      go_simp
      go_wp2_with fail
      refine (D2.out _).mono ?_
      rintro e w2 ⟨rfl, hb2⟩
      have Y2 : Hid (Bx w2 wr.heap.size [.string n.2.1, .string n.2.2.1, .bool n.2.2.2.1, .int .i64 n.2.2.2.2]) := Y1.out.below hb2
      have O2 := hide (O1.out.below hb2)
      have B2 : Hid (Below w.heap.size w w2) := B1.out.trans ((hb2).mono B1.out.size)
      clear hb2
      go_wp2_with fail
      refine hK.out _ _ ⟨Y2.out.c0, Y2.out.c1, Y2.out.c2, Y2.out.c3⟩ (fun hHeld2 => ?_)
      clear hK K
      (refine wpAnyH_take (i := 11) (v := ?_) rfl (by kernel_rfl) (by kernel_rfl) (by kernel_rfl) (fun _ _ _ h => h) (Or.inl ⟨by rfl, ?_⟩) (by assumption) ?_; rotate_left; (focus (intro w hSw; (try dsimp only at hSw); go_simp; (try with_reducible rfl); done)); simp only [Act.put, List.getElem_toArray, List.getElem_cons_zero, List.getElem_cons_succ, List.setIfInBounds_toArray, List.set_cons_zero, List.set_cons_succ])
      refine wpAnyH_ready (rs := [12]) (by kernel_rfl) (by simp) ?_
      refine AllReadyH.cons rfl (fun K hK => ?_) AllReadyH.nil
      go_simp
      have Y3 : Hid (Bx (w2.alloc (.cells #[.string n.2.1, .string n.2.2.1, .bool n.2.2.2.1, .int .i64 n.2.2.2.2] 86)) wr.heap.size [.string n.2.1, .string n.2.2.1, .bool n.2.2.2.1, .int .i64 n.2.2.2.2]) := Y2.out.alloc _
      go_wp2_with fail
      refine hK.out _ _ ⟨Y3.out.c0, Y3.out.c1, Y3.out.c2, Y3.out.c3⟩ (fun hHeld3 => ?_)
      clear hK K
      refine wpAnyH_ready (rs := [13]) (by kernel_rfl) (by simp) ?_
      refine AllReadyH.cons rfl (fun K hK => ?_) AllReadyH.nil
      refine stepAppKV (by rfl) _ _ (by rfl) n.2 (by rfl) (O2.out.alloc _) (by rfl) (heapAllocNew w2 [.string n.2.1, .string n.2.2.1, .bool n.2.2.2.1, .int .i64 n.2.2.2.2] 86) hl (Nat.le_trans B2.out.size (by rw [World.size_alloc]; omega)) ?_
      intro v4 w4 ho4 hb4 hg4
      have O4 : Hid (GOwn encV 86 w4 w.heap.size v4 ((A ++ [n]).map (·.2))) := by
        show GOwn _ _ _ _ _ _
        rw [List.map_append]; exact ho4
      have B4 : Hid (Below w.heap.size w w4) := (B2.out.alloc B2.out.size _).trans hb4
      have Y4 : Hid (Bx w4 wr.heap.size [.string n.2.1, .string n.2.2.1, .bool n.2.2.2.1, .int .i64 n.2.2.2.2]) := bx_marked Y3.out hg4 (fun e => by have := HOb.out _ e; omega)
      clear ho4 hb4 hg4
      go_wp2_with fail
      refine hK.out _ _ ⟨Y4.out.c0, Y4.out.c1, Y4.out.c2, Y4.out.c3⟩ (fun hHeld4 => ?_)
      clear hK K
      (refine wpAnyH_take (i := 14) (v := ?_) rfl (by kernel_rfl) (by kernel_rfl) (by kernel_rfl) (fun _ _ _ h => h) (Or.inl ⟨by rfl, ?_⟩) (by assumption) ?_; rotate_left; (focus (intro w hSw; (try dsimp only at hSw); go_simp; (try with_reducible rfl); done)); simp only [Act.put, List.getElem_toArray, List.getElem_cons_zero, List.getElem_cons_succ, List.setIfInBounds_toArray, List.set_cons_zero, List.set_cons_succ])
      refine wpAnyH_done (by kernel_rfl) ?_ _
      have n4 : w4.cell? ⟨n.1, 4, none⟩ = some (.pointer q) := (B4.out.cell (p := ⟨n.1, 4, none⟩) HLt.out).trans ((HB.out.cell (p := ⟨n.1, 4, none⟩) HLt.out).symm.trans HX.out.c4)
      go_wp2
      go_roundg B.length
      case measure => exact HG2.out
      case rel => exact ⟨A ++ [n], B, HE2, rfl, HQ.out, O4, B4⟩
end Go.Proofs.Ytbajpnbodhhmjaa

namespace Go.Proofs.Ytbajpnbodhhmjaa
open Go.RowKit
open KM
open VM
attribute [local go_sem ↓] Go.wp_at_zero Go.wp_at_succ

end Go.Proofs.Ytbajpnbodhhmjaa

namespace Go.Proofs.Ytbajpnbodhhmjaa
open Go.RowKit
open KM
open VM
attribute [local go_sem ↓] Go.wp_at_zero Go.wp_at_succ

end Go.Proofs.Ytbajpnbodhhmjaa

/- What put and impl.PutVersions do where none is alike. -/
import Derived.Test.YtbajpnbodhhmjaaGreatPs01
import Derived.Test.YtbajpnbodhhmjaaGreatPs12
import Derived.Test.YtbajpnbodhhmjaaGreatPs13
namespace Go.Proofs.YtbajpnbodhhmjaaGreat
open Go.RowKit
open KM
open VM
attribute [local go_sem ↓] Go.wp_at_zero Go.wp_at_succ

theorem asc_le {a v : Vr} (h : ¬ (a.1 = v.1 ∧ a.2.2.2 = v.2.2.2)) : asc a v = leV v a := by
 unfold asc leV
 by_cases e : a.1 = v.1
 ·have h2 : a.2.2.2 ≠ v.2.2.2 := fun x => h ⟨e, x⟩
  have h3 : decide (a.2.2.2 < v.2.2.2) = decide (a.2.2.2 ≤ v.2.2.2) := by
   by_cases h4 : a.2.2.2 < v.2.2.2
   ·rw [decide_eq_true h4, decide_eq_true (by omega)]
   ·rw [decide_eq_false h4, decide_eq_false (by omega)]
  simp [e, h3]
 ·simp [e]
theorem insV_cut {l1 l2 : List Vr} {v : Vr} (h1 : ∀ x ∈ l1, leV v x = true) (h2 : ∀ x, l2.head? = some x → leV v x = false) : l1 ++ v :: l2 = insV (l1 ++ l2) v := by
 unfold insV
 rw [List.takeWhile_append_of_pos h1, List.dropWhile_append_of_pos h1]
 cases l2 with
 | nil => simp
 | cons x l2 => simp [h2 x rfl]
theorem chn_put {w : World} {base c : Nat} {A B : List Nd} {m : Nd} (h : Chn w base c (A ++ m :: B)) (v : Vr) (hb : base ≤ w.heap.size) :
  Chn ((w.alloc (.cells #[.string v.1, .string v.2.1, .bool v.2.2.1, .int .i64 v.2.2.2, .pointer (ptq B none)] 121)).setCell ⟨m.1, 4, none⟩ (.pointer (some ⟨w.heap.size, 0, none⟩))) base c (A ++ m :: (w.heap.size, v) :: B) := by
 have h1 := h.below ((belowRefl w).alloc (Nat.le_refl _) (.cells #[.string v.1, .string v.2.1, .bool v.2.2.1, .int .i64 v.2.2.2, .pointer (ptq B none)] 121))
 have h2 := Bx.new w (ndc v (ptq B none)) 121
 have hB := ((seg_app A (m :: B) none).1 h1.seg).2.2
 refine h1.next (C := (w.heap.size, v) :: B) ⟨h2, hB⟩ ?_ (fun n hn => ?_)
 ·have hnd := h.nd
  have hlt := h.lt
  have hn : w.heap.size ∉ c :: (A ++ m :: B).map (·.1) := fun hm => by have := hlt _ hm; omega
  have hp : List.Perm (c :: (A ++ m :: (w.heap.size, v) :: B).map (·.1)) (w.heap.size :: c :: (A ++ m :: B).map (·.1)) := by
   refine List.Perm.trans (List.Perm.cons c ?_) (List.Perm.swap _ _ _)
   simp only [List.map_append, List.map_cons]
   refine List.Perm.trans (List.Perm.append_left _ (List.Perm.swap _ _ _)) ?_
   exact List.perm_middle
  exact (List.Perm.nodup_iff hp).2 (List.nodup_cons.2 ⟨hn, hnd⟩)
 ·rcases List.mem_cons.1 hn with rfl | hn
  ·exact hb
  ·exact h.lo n.1 (List.mem_cons_of_mem _ (List.mem_map.2 ⟨n, by simp [hn], rfl⟩))

set_option maxRecDepth 100000 in
set_option maxHeartbeats 4000000 in
theorem put46 (v : Vr) (base c : Nat) (r : Nd) (ns : List Nd) (w : World) (hc : Chn w base c (r :: ns)) (hb : base ≤ w.heap.size) (hno : ∀ n ∈ ns, ¬ (n.2.1 = v.1 ∧ n.2.2.2.2 = v.2.2.2)) :
  Calls Tryz.prog 81 #[.pointer (some ⟨c, 0, none⟩), .agg #[.string v.1, .string v.2.1, .bool v.2.2.1, .int .i64 v.2.2.2]] w fun e w' => e = .returned (.tuple #[]) ∧ (∃ n2 : List Nd, Chn w' base c (r :: n2) ∧ n2.map (·.2) = insV (ns.map (·.2)) v) ∧ Below base w w' := by
 have HNo : Hid (∀ n ∈ ns, ¬ (n.2.1 = v.1 ∧ n.2.2.2.2 = v.2.2.2)) := hno
 have HBa : Hid (base ≤ w.heap.size) := hb
 have XV : Hid (Bx (w.alloc (.cells #[.string v.1, .string v.2.1, .bool v.2.2.1, .int .i64 v.2.2.2] 69)) w.heap.size [.string v.1, .string v.2.1, .bool v.2.2.1, .int .i64 v.2.2.2]) := Bx.new w [.string v.1, .string v.2.1, .bool v.2.2.1, .int .i64 v.2.2.2] 69
 have HB0 : Hid (Below w.heap.size w (w.alloc (.cells #[.string v.1, .string v.2.1, .bool v.2.2.1, .int .i64 v.2.2.2] 69))) := (belowRefl w).alloc (Nat.le_refl _) _
 have HC : Hid (Chn (w.alloc (.cells #[.string v.1, .string v.2.1, .bool v.2.2.1, .int .i64 v.2.2.2] 69)) base c (r :: ns)) := hc.below HB0.out
 have HNv : Hid (∀ x ∈ c :: (r :: ns).map (·.1), x ≠ w.heap.size) := fun x hx => by have := hc.lt x hx; omega
 clear hc hno hb
 go_enter Tryz.func81, Tryz.ntmps81
 have b0 := HC.out.bx.c0
 have r4 := (Chn.at' (A := []) HC.out).c4
 simp only [ptq_cons] at b0
 obtain ⟨u0, hu0⟩ : ∃ u, u = ptq ns none := ⟨_, rfl⟩
 rw [← hu0] at r4
 have HU : Hid (u0 = ptq ns none) := hu0
 clear hu0
 go_wp2
 clear b0 r4
 generalize (w.alloc (.cells #[.string v.1, .string v.2.1, .bool v.2.2.1, .int .i64 v.2.2.2] 69)) = W at *
 go_loopg [4] ns.length (fun g t wr => ∃ A B : List Nd, Hid (ns = A ++ B) ∧ Hid (B.length = g) ∧ t = .pointer (ptq B none) ∧ Hid (Below W.heap.size W wr))
 case atStart => exact ⟨[], ns, rfl, rfl, by rw [HU.out], belowRefl W⟩
 case round =>
  obtain ⟨A, B, HE, HG, h8, HB⟩ := hrel
  cases B with
  | cons n B =>
   rw [ptq_cons] at h8
   have X : Hid (Bx wr n.1 (ndc n.2 (ptq B none))) := seg_at (HC.out.below HB.out) HE.out
   have XVr : Hid (Bx wr w.heap.size [.string v.1, .string v.2.1, .bool v.2.2.1, .int .i64 v.2.2.2]) := XV.out.below HB.out
   have HE2 : Hid (ns = (A ++ [n]) ++ B) := by show _ = _; rw [HE.out]; simp
   have HG2 : Hid (B.length < gk) := by show _ < _; rw [← HG.out]; simp
   obtain ⟨q, hq⟩ : ∃ q, q = ptq B none := ⟨_, rfl⟩
   rw [← hq] at X
   have HQ : Hid (Value.pointer q = .pointer (ptq B none)) := by show _ = _; rw [hq]
   clear hq
   have hcv : cmpV n.2 v ≠ 0 := fun h => HNo.out n (by rw [HE.out]; simp) ((cmpV_eq n.2 v).1 h)
   have D : Hid (∀ w, Calls Tryz.prog 86 #[.agg #[.string n.2.1, .string n.2.2.1, .bool n.2.2.2.1, .int .i64 n.2.2.2.2], .agg #[.string v.1, .string v.2.1, .bool v.2.2.1, .int .i64 v.2.2.2]] w fun e w' => e = .returned (.int .i64 (cmpV n.2 v)) ∧ Below w.heap.size w w') := fun w => cmp55 n.2 v w
   generalize cmpV n.2 v = cv at hcv D
   have hcv2 : (cv == 0) = false := by simpa using hcv
   have n0 := X.out.c0
   have n1 := X.out.c1
   have n2 := X.out.c2
   have n3 := X.out.c3
   have x0 := XVr.out.c0
   have x1 := XVr.out.c1
   have x2 := XVr.out.c2
   have x3 := XVr.out.c3
   subst h8
   go_wp2
   refine wp_region_held_drew (S := fun w' => w'.cell? ⟨n.1, 0, none⟩ = some (.string n.2.1) ∧ w'.cell? ⟨n.1, 1, none⟩ = some (.string n.2.2.1) ∧ w'.cell? ⟨n.1, 2, none⟩ = some (.bool n.2.2.2.1) ∧ w'.cell? ⟨n.1, 3, none⟩ = some (.int .i64 n.2.2.2.2) ∧ w'.cell? ⟨w.heap.size, 0, none⟩ = some (.string v.1) ∧ w'.cell? ⟨w.heap.size, 1, none⟩ = some (.string v.2.1) ∧ w'.cell? ⟨w.heap.size, 2, none⟩ = some (.bool v.2.2.1) ∧ w'.cell? ⟨w.heap.size, 3, none⟩ = some (.int .i64 v.2.2.2)) (by kernel_rfl) ⟨n0, n1, n2, n3, x0, x1, x2, x3⟩ (fun hHeld => ?_)
   (refine tk 0 ?_ rfl (Or.inl ⟨by rfl, ?_⟩) ?_; rotate_left; (focus (intro w h; (try dsimp only at h); go_simp; (try with_reducible rfl))); simp only [Act.put, tA, tB, tD, tE, tF])
   (refine tk 1 ?_ rfl (Or.inl ⟨by rfl, ?_⟩) ?_; rotate_left; (focus (intro w h; (try dsimp only at h); go_simp; (try with_reducible rfl))); simp only [Act.put, tA, tB, tC, tD, tE, tF])
   (refine tk 2 ?_ rfl (Or.inl ⟨by rfl, ?_⟩) ?_; rotate_left; (focus (intro w h; (try dsimp only at h); go_simp; (try with_reducible rfl))); simp only [Act.put, tA, tB, tC, tD, tE, tF])
   (refine tk 3 ?_ rfl (Or.inl ⟨by rfl, ?_⟩) ?_; rotate_left; (focus (intro w h; (try dsimp only at h); go_simp; (try with_reducible rfl))); simp only [Act.put, tA, tB, tC, tD, tE, tF])
   (refine tk 4 ?_ rfl (Or.inl ⟨by rfl, ?_⟩) ?_; rotate_left; (focus (intro w h; (try dsimp only at h); go_simp; (try with_reducible rfl))); simp only [Act.put, tA, tB, tC, tD, tE, tF])
   refine wpAnyH_ready (rs := [5]) (by kernel_rfl) (by simp) ?_
   refine AllReadyH.cons rfl (fun K hK => ?_) AllReadyH.nil
   go_simp
   go_wp2_with fail
   refine (D.out _).mono ?_
   rintro e w2 ⟨rfl, hb2⟩
   have X2 := X.out.below (undrew hb2)
   have V2 := XVr.out.below (undrew hb2)
   go_wp2_with fail
   refine hK.out _ _ ⟨X2.c0, X2.c1, X2.c2, X2.c3, V2.c0, V2.c1, V2.c2, V2.c3⟩ (fun hHeld2 => ?_)
   clear hK K
   (refine tk 6 ?_ rfl (Or.inl ⟨by rfl, ?_⟩) ?_; rotate_left; (focus (intro w h; (try dsimp only at h); go_simp; (try with_reducible rfl))); simp only [Act.put, tA, tB, tC, tD, tE, tF])
   refine wpAnyH_done (by kernel_rfl) ?_ _
   have HB2 : Hid (Below W.heap.size W w2) := HB.out.trans ((undrew hb2).mono HB.out.size)
   have n4 := X2.c4
   go_wp2
   go_roundg B.length
   case measure => exact HG2.out
   case rel => exact ⟨A ++ [n], B, HE2, rfl, HQ.out, HB2⟩
  | nil =>
   rw [ptq_nil] at h8
   subst h8
   have b0 := (HC.out.below HB.out).bx.c0
   simp only [ptq_cons] at b0
   go_wp2
   clear b0 HG HE A
   go_loopg [5] ns.length (fun g t wr => ∃ (A0 : List Nd) (m : Nd) (B A : List Nd), t = .pointer (some ⟨m.1, 0, none⟩) ∧ Hid (B.length = g) ∧ Hid (r :: A = A0 ++ [m]) ∧ Hid (ns = A ++ B) ∧ Hid (∀ x ∈ A, asc x.2 v = true) ∧ Hid (Below W.heap.size W wr))
   case atStart => exact ⟨[], r, ns, [], rfl, rfl, rfl, rfl, (fun x hx => by cases hx), HB⟩
   case round =>
    clear HB
    obtain ⟨A0, m, B, A, rfl, HG, HE, HN, HA, HB⟩ := hrel
    have HCr : Hid (Chn wr base c (A0 ++ m :: B)) := by
     show Chn _ _ _ _
     have h := HC.out.below HB.out
     rw [HN.out] at h
     have e : A0 ++ m :: B = r :: (A ++ B) := by
      have : A0 ++ m :: B = (A0 ++ [m]) ++ B := by simp
      rw [this, ← HE.out]; rfl
     rw [e]; exact h
    have XM : Hid (Bx wr m.1 (ndc m.2 (ptq B none))) := HCr.out.at'
    have XVr : Hid (Bx wr w.heap.size [.string v.1, .string v.2.1, .bool v.2.2.1, .int .i64 v.2.2.2]) := XV.out.below HB.out
    have x0 := XVr.out.c0
    have x1 := XVr.out.c1
    have x2 := XVr.out.c2
    have x3 := XVr.out.c3
    have m4 := XM.out.c4
    cases B with
    | nil =>
     rw [ptq_nil] at m4
     have HStop : Hid (∀ x, ([] : List Nd).head? = some x → asc x.2 v = false) := fun x hx => by cases hx
     go_wp2
     refine wp_region_held_drew (S := fun w' => w'.cell? ⟨m.1, 4, none⟩ = some (.pointer none)) (by kernel_rfl) m4 (fun hHeld => ?_)
     (refine tk 0 ?_ rfl (Or.inl ⟨by rfl, ?_⟩) ?_; rotate_left; (focus (intro w h; (try dsimp only at h); go_simp; (try with_reducible rfl))); simp only [Act.put, tA, tB, tD, tE, tF])
     (refine tk 1 ?_ rfl (Or.inl ⟨by rfl, ?_⟩) ?_; rotate_left; (focus (intro w h; (try dsimp only at h); go_simp; (try with_reducible rfl))); simp only [Act.put, tA, tB, tC, tD, tE, tF])
     (refine tk 2 ?_ rfl (Or.inl ⟨by rfl, ?_⟩) ?_; rotate_left; (focus (intro w h; (try dsimp only at h); go_simp; (try with_reducible rfl))); simp only [Act.put, tA, tB, tC, tD, tE, tF])
     (refine tk 3 ?_ rfl (Or.inl ⟨by rfl, ?_⟩) ?_; rotate_left; (focus (intro w h; (try dsimp only at h); go_simp; (try with_reducible rfl))); simp only [Act.put, tA, tB, tC, tD, tE, tF])
     (refine tk 4 ?_ rfl (Or.inl ⟨by rfl, ?_⟩) ?_; rotate_left; (focus (intro w h; (try dsimp only at h); go_simp; (try with_reducible rfl))); simp only [Act.put, tA, tB, tC, tD, tE, tF])
     (refine tk 5 ?_ rfl (Or.inl ⟨by rfl, ?_⟩) ?_; rotate_left; (focus (intro w h; (try dsimp only at h); go_simp; (try with_reducible rfl))); simp only [Act.put, tA, tB, tC, tD, tE, tF])
     (refine tk 6 undef rfl (Or.inr ⟨by rfl, rfl⟩) ?_; simp only [Act.put, tA, tB, tC, tD, tE, tF])
     (refine tk 7 undef rfl (Or.inr ⟨by rfl, rfl⟩) ?_; simp only [Act.put, tA, tB, tC, tD, tE, tF])
     (refine tk 8 undef rfl (Or.inr ⟨by rfl, rfl⟩) ?_; simp only [Act.put, tA, tB, tC, tD, tE, tF])
     (refine tk 9 undef rfl (Or.inr ⟨by rfl, rfl⟩) ?_; simp only [Act.put, tA, tB, tC, tD, tE, tF])
     (refine tk 10 undef rfl (Or.inr ⟨by rfl, rfl⟩) ?_; simp only [Act.put, tA, tB, tC, tD, tE, tF])
     (refine tk 11 undef rfl (Or.inr ⟨by rfl, rfl⟩) ?_; simp only [Act.put, tA, tB, tC, tD, tE, tF])
     (refine tk 12 undef rfl (Or.inr ⟨by rfl, rfl⟩) ?_; simp only [Act.put, tA, tB, tC, tD, tE, tF])
     (refine tk 13 undef rfl (Or.inr ⟨by rfl, rfl⟩) ?_; simp only [Act.put, tA, tB, tC, tD, tE, tF])
     (refine tk 14 undef rfl (Or.inr ⟨by rfl, rfl⟩) ?_; simp only [Act.put, tA, tB, tC, tD, tE, tF])
     (refine tk 15 undef rfl (Or.inr ⟨by rfl, rfl⟩) ?_; simp only [Act.put, tA, tB, tC, tD, tE, tF])
     (refine tk 16 ?_ rfl (Or.inl ⟨by rfl, ?_⟩) ?_; rotate_left; (focus (intro w h; (try dsimp only at h); go_simp; (try with_reducible rfl))); simp only [Act.put, tA, tB, tC, tD, tE, tF])
     refine wpAnyH_done (by kernel_rfl) ?_ _
     have HB9 : Hid (Below W.heap.size W wr.drew) := HB.out.drew
     have HC9 : Hid (Chn wr.drew base c (A0 ++ m :: [])) := HCr.out.below (belowRefl _).drew
     clear x0 x1 x2 x3 m4 XM XVr HCr
     generalize wr.drew = W9 at *
     have HM9 : Hid (Bx W9 m.1 (ndc m.2 (ptq ([] : List Nd) none))) := HC9.out.at'
     have HV9 : Hid (Bx W9 w.heap.size [.string v.1, .string v.2.1, .bool v.2.2.1, .int .i64 v.2.2.2]) := XV.out.below HB9.out
     have HmV : Hid (m.1 ≠ w.heap.size) := HNv.out m.1 (by
      have h1 : m ∈ r :: A := by rw [HE.out]; simp
      rcases List.mem_cons.1 h1 with h2 | h2
      ·rw [h2]; simp
      ·exact List.mem_cons_of_mem _ (List.mem_cons_of_mem _ (List.mem_map.2 ⟨m, by rw [HN.out]; simp [h2], rfl⟩)))
     have HbW : Hid (base ≤ W9.heap.size) := Nat.le_trans HBa.out (Nat.le_trans HB0.out.size HB9.out.size)
     have HmL : Hid (base ≤ m.1) := HC9.out.lo m.1 (by simp)
     have HR : Hid (insV (ns.map (·.2)) v = A.map (·.2) ++ v :: ([] : List Nd).map (·.2)) := by
      show _ = _
      rw [HN.out, List.map_append]
      refine (insV_cut (fun x hx => ?_) (fun x hx => ?_)).symm
      ·obtain ⟨y, hy, rfl⟩ := List.mem_map.1 hx
       rw [← asc_le (HNo.out y (by rw [HN.out]; simp [hy]))]
       exact HA.out y hy
      ·rw [List.head?_map] at hx
       cases hh : ([] : List Nd).head? with
       | none => rw [hh] at hx; cases hx
       | some y =>
        rw [hh] at hx; cases hx
        rw [← asc_le (HNo.out y (by rw [HN.out]; exact List.mem_append_right _ (List.mem_of_head? hh)))]
        exact HStop.out y hh
     have mlt0 := HM9.out.lt
     have HP : Hid (Chn ((W9.setCell ⟨m.1, 4, none⟩ (.pointer (some ⟨W9.heap.size, 0, none⟩))).alloc (.cells #[.string v.1, .string v.2.1, .bool v.2.2.1, .int .i64 v.2.2.2, .pointer none] 121)) base c (A0 ++ m :: (W9.heap.size, v) :: ([] : List Nd))) := by
      have h := chn_put HC9.out v HbW.out
      rw [World.setCell_alloc_past _ _ _ _ mlt0] at h
      exact h
     clear mlt0
     have m4 := HM9.out.c4
     have mf := HM9.out.fz
     have mlt := HM9.out.lt
     have x0 := HV9.out.c0
     have x1 := HV9.out.c1
     have x2 := HV9.out.c2
     have x3 := HV9.out.c3
     go_wp2
     refine wp_region_held_drew (S := fun w' => w'.cell? ⟨w.heap.size, 0, none⟩ = some (.string v.1) ∧ w'.cell? ⟨w.heap.size, 1, none⟩ = some (.string v.2.1) ∧ w'.cell? ⟨w.heap.size, 2, none⟩ = some (.bool v.2.2.1) ∧ w'.cell? ⟨w.heap.size, 3, none⟩ = some (.int .i64 v.2.2.2)) (by kernel_rfl) ⟨x0, x1, x2, x3⟩ (fun hHeld => ?_)
     (refine tk 0 ?_ rfl (Or.inl ⟨by rfl, ?_⟩) ?_; rotate_left; (focus (intro w h; (try dsimp only at h); go_simp; (try with_reducible rfl))); simp only [Act.put, tA, tB, tD, tE, tF])
     (refine tk 1 ?_ rfl (Or.inl ⟨by rfl, ?_⟩) ?_; rotate_left; (focus (intro w h; (try dsimp only at h); go_simp; (try with_reducible rfl))); simp only [Act.put, tA, tB, tC, tD, tE, tF])
     (refine tk 2 ?_ rfl (Or.inl ⟨by rfl, ?_⟩) ?_; rotate_left; (focus (intro w h; (try dsimp only at h); go_simp; (try with_reducible rfl))); simp only [Act.put, tA, tB, tC, tD, tE, tF])
     (refine tk 3 ?_ rfl (Or.inl ⟨by rfl, ?_⟩) ?_; rotate_left; (focus (intro w h; (try dsimp only at h); go_simp; (try with_reducible rfl))); simp only [Act.put, tA, tB, tC, tD, tE, tF])
     (refine tk 4 ?_ rfl (Or.inl ⟨by rfl, ?_⟩) ?_; rotate_left; (focus (intro w h; (try dsimp only at h); go_simp; (try with_reducible rfl))); simp only [Act.put, tA, tB, tC, tD, tE, tF])
     refine wpAnyH_ready (rs := [5]) (by kernel_rfl) (by simp) ?_
     refine AllReadyH.cons rfl (fun K hK => ?_) AllReadyH.nil
     go_simp
     refine hK.out _ _ ⟨x0, x1, x2, x3⟩ (fun hHeld3 => ?_)
     clear hK K
     (refine tk 6 ?_ rfl (Or.inl ⟨by rfl, ?_⟩) ?_; rotate_left; (focus (intro w h; (try dsimp only at h); go_simp; (try with_reducible rfl))); simp only [Act.put, tA, tB, tC, tD, tE, tF])
     refine wpAnyH_ready (rs := [7]) (by kernel_rfl) (by simp) ?_
     refine AllReadyH.cons rfl (fun K hK => ?_) AllReadyH.nil
     go_simp
     have V3 := (HV9.out.alloc (.cells #[.string v.1, .string v.2.1, .bool v.2.2.1, .int .i64 v.2.2.2, .pointer none] 121)).drew
     refine hK.out _ _ ⟨V3.c0, V3.c1, V3.c2, V3.c3⟩ (fun hHeld4 => ?_)
     clear hK K
     (refine tk 8 ?_ rfl (Or.inl ⟨by rfl, ?_⟩) ?_; rotate_left; (focus (intro w h; (try dsimp only at h); go_simp; (try with_reducible rfl))); simp only [Act.put, tA, tB, tC, tD, tE, tF])
     (refine tk 9 ?_ rfl (Or.inl ⟨by rfl, ?_⟩) ?_; rotate_left; (focus (intro w h; (try dsimp only at h); go_simp; (try with_reducible rfl))); simp only [Act.put, tA, tB, tC, tD, tE, tF])
     refine wpAnyH_ready (rs := [10]) (by kernel_rfl) (by simp) ?_
     refine AllReadyH.cons rfl (fun K hK => ?_) AllReadyH.nil
     go_simp
     have V4 := ((HV9.out.setO (p := ⟨m.1, 4, none⟩) HmV.out (.pointer (some ⟨W9.heap.size, 0, none⟩))).alloc (.cells #[.string v.1, .string v.2.1, .bool v.2.2.1, .int .i64 v.2.2.2, .pointer none] 121)).drew
     refine hK.out _ _ ⟨V4.c0, V4.c1, V4.c2, V4.c3⟩ (fun hHeld5 => ?_)
     clear hK K
     refine wpAnyH_done (by kernel_rfl) ?_ _
     have HFc : Hid (∃ n2 : List Nd, Chn ((W9.setCell ⟨m.1, 4, none⟩ (.pointer (some ⟨W9.heap.size, 0, none⟩))).alloc (.cells #[.string v.1, .string v.2.1, .bool v.2.2.1, .int .i64 v.2.2.2, .pointer none] 121)).drew base c (r :: n2) ∧ n2.map (·.2) = insV (ns.map (·.2)) v) := by
      refine ⟨A ++ (W9.heap.size, v) :: ([] : List Nd), ?_, ?_⟩
      ·have e : r :: (A ++ (W9.heap.size, v) :: ([] : List Nd)) = A0 ++ m :: (W9.heap.size, v) :: ([] : List Nd) := by
        have : A0 ++ m :: (W9.heap.size, v) :: ([] : List Nd) = (A0 ++ [m]) ++ (W9.heap.size, v) :: ([] : List Nd) := by simp
        rw [this, ← HE.out]; rfl
       rw [e]
       exact HP.out.below (belowRefl _).drew
      ·rw [HR.out]; simp
     have HFb : Hid (Below base w ((W9.setCell ⟨m.1, 4, none⟩ (.pointer (some ⟨W9.heap.size, 0, none⟩))).alloc (.cells #[.string v.1, .string v.2.1, .bool v.2.2.1, .int .i64 v.2.2.2, .pointer none] 121)).drew) := by
      have h1 : Below base w W9 := ((HB0.out.trans (HB9.out.mono HB0.out.size)).mono HBa.out)
      exact ((h1.setCell HmL.out _).alloc (by simpa [World.setCell] using HbW.out) _).drew
     go_wp2
     go_end0
     exact ⟨rfl, HFc.out, HFb.out⟩
    | cons n B =>
     rw [ptq_cons] at m4
     have X : Hid (Bx wr n.1 (ndc n.2 (ptq B none))) := ((seg_app A0 (m :: n :: B) none).1 HCr.out.seg).2.2.1
     have D : Hid (∀ w, Calls Tryz.prog 86 #[.agg #[.string n.2.1, .string n.2.2.1, .bool n.2.2.2.1, .int .i64 n.2.2.2.2], .agg #[.string v.1, .string v.2.1, .bool v.2.2.1, .int .i64 v.2.2.2]] w fun e w' => e = .returned (.int .i64 (cmpV n.2 v)) ∧ Below w.heap.size w w') := fun w => cmp55 n.2 v w
     have HG2 : Hid (B.length < gk) := by show _ < _; rw [← HG.out]; simp
     have n0 := X.out.c0
     have n1 := X.out.c1
     have n2 := X.out.c2
     have n3 := X.out.c3
     cases hl : asc n.2 v
     ·have hcv : decide (cmpV n.2 v < 0) = false := by have := mt (cmpV_neg n.2 v).1 (by rw [hl]; simp); simp; omega
      have HStop : Hid (∀ x, (n :: B).head? = some x → asc x.2 v = false) := fun x hx => by cases hx; exact hl
      generalize cmpV n.2 v = cv at hcv D
      clear hl
      go_wp2
      refine wp_region_held_drew (S := fun w' => w'.cell? ⟨m.1, 4, none⟩ = some (.pointer (some ⟨n.1, 0, none⟩)) ∧ w'.cell? ⟨n.1, 0, none⟩ = some (.string n.2.1) ∧ w'.cell? ⟨n.1, 1, none⟩ = some (.string n.2.2.1) ∧ w'.cell? ⟨n.1, 2, none⟩ = some (.bool n.2.2.2.1) ∧ w'.cell? ⟨n.1, 3, none⟩ = some (.int .i64 n.2.2.2.2) ∧ w'.cell? ⟨w.heap.size, 0, none⟩ = some (.string v.1) ∧ w'.cell? ⟨w.heap.size, 1, none⟩ = some (.string v.2.1) ∧ w'.cell? ⟨w.heap.size, 2, none⟩ = some (.bool v.2.2.1) ∧ w'.cell? ⟨w.heap.size, 3, none⟩ = some (.int .i64 v.2.2.2)) (by kernel_rfl) ⟨m4, n0, n1, n2, n3, x0, x1, x2, x3⟩ (fun hHeld => ?_)
      (refine tk 0 ?_ rfl (Or.inl ⟨by rfl, ?_⟩) ?_; rotate_left; (focus (intro w h; (try dsimp only at h); go_simp; (try with_reducible rfl))); simp only [Act.put, tA, tB, tD, tE, tF])
      (refine tk 1 ?_ rfl (Or.inl ⟨by rfl, ?_⟩) ?_; rotate_left; (focus (intro w h; (try dsimp only at h); go_simp; (try with_reducible rfl))); simp only [Act.put, tA, tB, tC, tD, tE, tF])
      (refine tk 2 ?_ rfl (Or.inl ⟨by rfl, ?_⟩) ?_; rotate_left; (focus (intro w h; (try dsimp only at h); go_simp; (try with_reducible rfl))); simp only [Act.put, tA, tB, tC, tD, tE, tF])
      (refine tk 3 ?_ rfl (Or.inl ⟨by rfl, ?_⟩) ?_; rotate_left; (focus (intro w h; (try dsimp only at h); go_simp; (try with_reducible rfl))); simp only [Act.put, tA, tB, tC, tD, tE, tF])
      (refine tk 4 ?_ rfl (Or.inl ⟨by rfl, ?_⟩) ?_; rotate_left; (focus (intro w h; (try dsimp only at h); go_simp; (try with_reducible rfl))); simp only [Act.put, tA, tB, tC, tD, tE, tF])
      (refine tk 5 ?_ rfl (Or.inl ⟨by rfl, ?_⟩) ?_; rotate_left; (focus (intro w h; (try dsimp only at h); go_simp; (try with_reducible rfl))); simp only [Act.put, tA, tB, tC, tD, tE, tF])
      (refine tk 6 ?_ rfl (Or.inl ⟨by rfl, ?_⟩) ?_; rotate_left; (focus (intro w h; (try dsimp only at h); go_simp; (try with_reducible rfl))); simp only [Act.put, tA, tB, tC, tD, tE, tF])
      (refine tk 7 ?_ rfl (Or.inl ⟨by rfl, ?_⟩) ?_; rotate_left; (focus (intro w h; (try dsimp only at h); go_simp; (try with_reducible rfl))); simp only [Act.put, tA, tB, tC, tD, tE, tF])
      (refine tk 8 ?_ rfl (Or.inl ⟨by rfl, ?_⟩) ?_; rotate_left; (focus (intro w h; (try dsimp only at h); go_simp; (try with_reducible rfl))); simp only [Act.put, tA, tB, tC, tD, tE, tF])
      (refine tk 9 ?_ rfl (Or.inl ⟨by rfl, ?_⟩) ?_; rotate_left; (focus (intro w h; (try dsimp only at h); go_simp; (try with_reducible rfl))); simp only [Act.put, tA, tB, tC, tD, tE, tF])
      (refine tk 10 ?_ rfl (Or.inl ⟨by rfl, ?_⟩) ?_; rotate_left; (focus (intro w h; (try dsimp only at h); go_simp; (try with_reducible rfl))); simp only [Act.put, tA, tB, tC, tD, tE, tF])
      (refine tk 11 ?_ rfl (Or.inl ⟨by rfl, ?_⟩) ?_; rotate_left; (focus (intro w h; (try dsimp only at h); go_simp; (try with_reducible rfl))); simp only [Act.put, tA, tB, tC, tD, tE, tF])
      (refine tk 12 ?_ rfl (Or.inl ⟨by rfl, ?_⟩) ?_; rotate_left; (focus (intro w h; (try dsimp only at h); go_simp; (try with_reducible rfl))); simp only [Act.put, tA, tB, tC, tD, tE, tF])
      (refine tk 13 ?_ rfl (Or.inl ⟨by rfl, ?_⟩) ?_; rotate_left; (focus (intro w h; (try dsimp only at h); go_simp; (try with_reducible rfl))); simp only [Act.put, tA, tB, tC, tD, tE, tF])
      refine wpAnyH_ready (rs := [14]) (by kernel_rfl) (by simp) ?_
      refine AllReadyH.cons rfl (fun K hK => ?_) AllReadyH.nil
      go_simp
      go_wp2_with fail
      refine (D.out _).mono ?_
      rintro e w2 ⟨rfl, hb2⟩
      have X2 := X.out.below (undrew hb2)
      have V2 := XVr.out.below (undrew hb2)
      have M2 := XM.out.below (undrew hb2)
      go_wp2_with fail
      refine hK.out _ _ ⟨M2.c4, X2.c0, X2.c1, X2.c2, X2.c3, V2.c0, V2.c1, V2.c2, V2.c3⟩ (fun hHeld2 => ?_)
      clear hK K
      (refine tk 15 ?_ rfl (Or.inl ⟨by rfl, ?_⟩) ?_; rotate_left; (focus (intro w h; (try dsimp only at h); go_simp; (try with_reducible rfl))); simp only [Act.put, tA, tB, tC, tD, tE, tF])
      (refine tk 16 ?_ rfl (Or.inl ⟨by rfl, ?_⟩) ?_; rotate_left; (focus (intro w h; (try dsimp only at h); go_simp; (try with_reducible rfl))); simp only [Act.put, tA, tB, tC, tD, tE, tF])
      refine wpAnyH_done (by kernel_rfl) ?_ _
      have HB9 : Hid (Below W.heap.size W w2) := HB.out.trans ((undrew hb2).mono HB.out.size)
      have HC9 : Hid (Chn w2 base c (A0 ++ m :: (n :: B))) := HCr.out.below (undrew hb2)
      clear x0 x1 x2 x3 m4 n0 n1 n2 n3 XM XVr HCr X X2 V2 M2 hb2 HB
      generalize w2 = W9 at *
      have HM9 : Hid (Bx W9 m.1 (ndc m.2 (ptq (n :: B) none))) := HC9.out.at'
      have HV9 : Hid (Bx W9 w.heap.size [.string v.1, .string v.2.1, .bool v.2.2.1, .int .i64 v.2.2.2]) := XV.out.below HB9.out
      have HmV : Hid (m.1 ≠ w.heap.size) := HNv.out m.1 (by
       have h1 : m ∈ r :: A := by rw [HE.out]; simp
       rcases List.mem_cons.1 h1 with h2 | h2
       ·rw [h2]; simp
       ·exact List.mem_cons_of_mem _ (List.mem_cons_of_mem _ (List.mem_map.2 ⟨m, by rw [HN.out]; simp [h2], rfl⟩)))
      have HbW : Hid (base ≤ W9.heap.size) := Nat.le_trans HBa.out (Nat.le_trans HB0.out.size HB9.out.size)
      have HmL : Hid (base ≤ m.1) := HC9.out.lo m.1 (by simp)
      have HR : Hid (insV (ns.map (·.2)) v = A.map (·.2) ++ v :: (n :: B).map (·.2)) := by
       show _ = _
       rw [HN.out, List.map_append]
       refine (insV_cut (fun x hx => ?_) (fun x hx => ?_)).symm
       ·obtain ⟨y, hy, rfl⟩ := List.mem_map.1 hx
        rw [← asc_le (HNo.out y (by rw [HN.out]; simp [hy]))]
        exact HA.out y hy
       ·rw [List.head?_map] at hx
        cases hh : (n :: B).head? with
        | none => rw [hh] at hx; cases hx
        | some y =>
         rw [hh] at hx; cases hx
         rw [← asc_le (HNo.out y (by rw [HN.out]; exact List.mem_append_right _ (List.mem_of_head? hh)))]
         exact HStop.out y hh
      have mlt0 := HM9.out.lt
      have HP : Hid (Chn ((W9.setCell ⟨m.1, 4, none⟩ (.pointer (some ⟨W9.heap.size, 0, none⟩))).alloc (.cells #[.string v.1, .string v.2.1, .bool v.2.2.1, .int .i64 v.2.2.2, .pointer (some ⟨n.1, 0, none⟩)] 121)) base c (A0 ++ m :: (W9.heap.size, v) :: (n :: B))) := by
       have h := chn_put HC9.out v HbW.out
       rw [World.setCell_alloc_past _ _ _ _ mlt0] at h
       exact h
      clear mlt0
      have m4 := HM9.out.c4
      have mf := HM9.out.fz
      have mlt := HM9.out.lt
      have x0 := HV9.out.c0
      have x1 := HV9.out.c1
      have x2 := HV9.out.c2
      have x3 := HV9.out.c3
      go_wp2
      refine wp_region_held_drew (S := fun w' => w'.cell? ⟨w.heap.size, 0, none⟩ = some (.string v.1) ∧ w'.cell? ⟨w.heap.size, 1, none⟩ = some (.string v.2.1) ∧ w'.cell? ⟨w.heap.size, 2, none⟩ = some (.bool v.2.2.1) ∧ w'.cell? ⟨w.heap.size, 3, none⟩ = some (.int .i64 v.2.2.2)) (by kernel_rfl) ⟨x0, x1, x2, x3⟩ (fun hHeld => ?_)
      (refine tk 0 ?_ rfl (Or.inl ⟨by rfl, ?_⟩) ?_; rotate_left; (focus (intro w h; (try dsimp only at h); go_simp; (try with_reducible rfl))); simp only [Act.put, tA, tB, tD, tE, tF])
      (refine tk 1 ?_ rfl (Or.inl ⟨by rfl, ?_⟩) ?_; rotate_left; (focus (intro w h; (try dsimp only at h); go_simp; (try with_reducible rfl))); simp only [Act.put, tA, tB, tC, tD, tE, tF])
      (refine tk 2 ?_ rfl (Or.inl ⟨by rfl, ?_⟩) ?_; rotate_left; (focus (intro w h; (try dsimp only at h); go_simp; (try with_reducible rfl))); simp only [Act.put, tA, tB, tC, tD, tE, tF])
      (refine tk 3 ?_ rfl (Or.inl ⟨by rfl, ?_⟩) ?_; rotate_left; (focus (intro w h; (try dsimp only at h); go_simp; (try with_reducible rfl))); simp only [Act.put, tA, tB, tC, tD, tE, tF])
      (refine tk 4 ?_ rfl (Or.inl ⟨by rfl, ?_⟩) ?_; rotate_left; (focus (intro w h; (try dsimp only at h); go_simp; (try with_reducible rfl))); simp only [Act.put, tA, tB, tC, tD, tE, tF])
      refine wpAnyH_ready (rs := [5]) (by kernel_rfl) (by simp) ?_
      refine AllReadyH.cons rfl (fun K hK => ?_) AllReadyH.nil
      go_simp
      refine hK.out _ _ ⟨x0, x1, x2, x3⟩ (fun hHeld3 => ?_)
      clear hK K
      (refine tk 6 ?_ rfl (Or.inl ⟨by rfl, ?_⟩) ?_; rotate_left; (focus (intro w h; (try dsimp only at h); go_simp; (try with_reducible rfl))); simp only [Act.put, tA, tB, tC, tD, tE, tF])
      refine wpAnyH_ready (rs := [7]) (by kernel_rfl) (by simp) ?_
      refine AllReadyH.cons rfl (fun K hK => ?_) AllReadyH.nil
      go_simp
      have V3 := (HV9.out.alloc (.cells #[.string v.1, .string v.2.1, .bool v.2.2.1, .int .i64 v.2.2.2, .pointer (some ⟨n.1, 0, none⟩)] 121)).drew
      refine hK.out _ _ ⟨V3.c0, V3.c1, V3.c2, V3.c3⟩ (fun hHeld4 => ?_)
      clear hK K
      (refine tk 8 ?_ rfl (Or.inl ⟨by rfl, ?_⟩) ?_; rotate_left; (focus (intro w h; (try dsimp only at h); go_simp; (try with_reducible rfl))); simp only [Act.put, tA, tB, tC, tD, tE, tF])
      (refine tk 9 ?_ rfl (Or.inl ⟨by rfl, ?_⟩) ?_; rotate_left; (focus (intro w h; (try dsimp only at h); go_simp; (try with_reducible rfl))); simp only [Act.put, tA, tB, tC, tD, tE, tF])
      refine wpAnyH_ready (rs := [10]) (by kernel_rfl) (by simp) ?_
      refine AllReadyH.cons rfl (fun K hK => ?_) AllReadyH.nil
      go_simp
      have V4 := ((HV9.out.setO (p := ⟨m.1, 4, none⟩) HmV.out (.pointer (some ⟨W9.heap.size, 0, none⟩))).alloc (.cells #[.string v.1, .string v.2.1, .bool v.2.2.1, .int .i64 v.2.2.2, .pointer (some ⟨n.1, 0, none⟩)] 121)).drew
      refine hK.out _ _ ⟨V4.c0, V4.c1, V4.c2, V4.c3⟩ (fun hHeld5 => ?_)
      clear hK K
      refine wpAnyH_done (by kernel_rfl) ?_ _
      have HFc : Hid (∃ n2 : List Nd, Chn ((W9.setCell ⟨m.1, 4, none⟩ (.pointer (some ⟨W9.heap.size, 0, none⟩))).alloc (.cells #[.string v.1, .string v.2.1, .bool v.2.2.1, .int .i64 v.2.2.2, .pointer (some ⟨n.1, 0, none⟩)] 121)).drew base c (r :: n2) ∧ n2.map (·.2) = insV (ns.map (·.2)) v) := by
       refine ⟨A ++ (W9.heap.size, v) :: (n :: B), ?_, ?_⟩
       ·have e : r :: (A ++ (W9.heap.size, v) :: (n :: B)) = A0 ++ m :: (W9.heap.size, v) :: (n :: B) := by
         have : A0 ++ m :: (W9.heap.size, v) :: (n :: B) = (A0 ++ [m]) ++ (W9.heap.size, v) :: (n :: B) := by simp
         rw [this, ← HE.out]; rfl
        rw [e]
        exact HP.out.below (belowRefl _).drew
       ·rw [HR.out]; simp
      have HFb : Hid (Below base w ((W9.setCell ⟨m.1, 4, none⟩ (.pointer (some ⟨W9.heap.size, 0, none⟩))).alloc (.cells #[.string v.1, .string v.2.1, .bool v.2.2.1, .int .i64 v.2.2.2, .pointer (some ⟨n.1, 0, none⟩)] 121)).drew) := by
       have h1 : Below base w W9 := ((HB0.out.trans (HB9.out.mono HB0.out.size)).mono HBa.out)
       exact ((h1.setCell HmL.out _).alloc (by simpa [World.setCell] using HbW.out) _).drew
      go_wp2
      go_end0
      exact ⟨rfl, HFc.out, HFb.out⟩
     ·have hcv : decide (cmpV n.2 v < 0) = true := by have := (cmpV_neg n.2 v).2 hl; simpa using this
      have HA2 : Hid (∀ x ∈ A ++ [n], asc x.2 v = true) := fun x hx => by
       rcases List.mem_append.1 hx with h | h
       ·exact HA.out x h
       ·rw [List.mem_singleton.1 h]; exact hl
      generalize cmpV n.2 v = cv at hcv D
      clear hl
      go_wp2
      refine wp_region_held_drew (S := fun w' => w'.cell? ⟨m.1, 4, none⟩ = some (.pointer (some ⟨n.1, 0, none⟩)) ∧ w'.cell? ⟨n.1, 0, none⟩ = some (.string n.2.1) ∧ w'.cell? ⟨n.1, 1, none⟩ = some (.string n.2.2.1) ∧ w'.cell? ⟨n.1, 2, none⟩ = some (.bool n.2.2.2.1) ∧ w'.cell? ⟨n.1, 3, none⟩ = some (.int .i64 n.2.2.2.2) ∧ w'.cell? ⟨w.heap.size, 0, none⟩ = some (.string v.1) ∧ w'.cell? ⟨w.heap.size, 1, none⟩ = some (.string v.2.1) ∧ w'.cell? ⟨w.heap.size, 2, none⟩ = some (.bool v.2.2.1) ∧ w'.cell? ⟨w.heap.size, 3, none⟩ = some (.int .i64 v.2.2.2)) (by kernel_rfl) ⟨m4, n0, n1, n2, n3, x0, x1, x2, x3⟩ (fun hHeld => ?_)
      (refine tk 0 ?_ rfl (Or.inl ⟨by rfl, ?_⟩) ?_; rotate_left; (focus (intro w h; (try dsimp only at h); go_simp; (try with_reducible rfl))); simp only [Act.put, tA, tB, tD, tE, tF])
      (refine tk 1 ?_ rfl (Or.inl ⟨by rfl, ?_⟩) ?_; rotate_left; (focus (intro w h; (try dsimp only at h); go_simp; (try with_reducible rfl))); simp only [Act.put, tA, tB, tC, tD, tE, tF])
      (refine tk 2 ?_ rfl (Or.inl ⟨by rfl, ?_⟩) ?_; rotate_left; (focus (intro w h; (try dsimp only at h); go_simp; (try with_reducible rfl))); simp only [Act.put, tA, tB, tC, tD, tE, tF])
      (refine tk 3 ?_ rfl (Or.inl ⟨by rfl, ?_⟩) ?_; rotate_left; (focus (intro w h; (try dsimp only at h); go_simp; (try with_reducible rfl))); simp only [Act.put, tA, tB, tC, tD, tE, tF])
      (refine tk 4 ?_ rfl (Or.inl ⟨by rfl, ?_⟩) ?_; rotate_left; (focus (intro w h; (try dsimp only at h); go_simp; (try with_reducible rfl))); simp only [Act.put, tA, tB, tC, tD, tE, tF])
      (refine tk 5 ?_ rfl (Or.inl ⟨by rfl, ?_⟩) ?_; rotate_left; (focus (intro w h; (try dsimp only at h); go_simp; (try with_reducible rfl))); simp only [Act.put, tA, tB, tC, tD, tE, tF])
      (refine tk 6 ?_ rfl (Or.inl ⟨by rfl, ?_⟩) ?_; rotate_left; (focus (intro w h; (try dsimp only at h); go_simp; (try with_reducible rfl))); simp only [Act.put, tA, tB, tC, tD, tE, tF])
      (refine tk 7 ?_ rfl (Or.inl ⟨by rfl, ?_⟩) ?_; rotate_left; (focus (intro w h; (try dsimp only at h); go_simp; (try with_reducible rfl))); simp only [Act.put, tA, tB, tC, tD, tE, tF])
      (refine tk 8 ?_ rfl (Or.inl ⟨by rfl, ?_⟩) ?_; rotate_left; (focus (intro w h; (try dsimp only at h); go_simp; (try with_reducible rfl))); simp only [Act.put, tA, tB, tC, tD, tE, tF])
      (refine tk 9 ?_ rfl (Or.inl ⟨by rfl, ?_⟩) ?_; rotate_left; (focus (intro w h; (try dsimp only at h); go_simp; (try with_reducible rfl))); simp only [Act.put, tA, tB, tC, tD, tE, tF])
      (refine tk 10 ?_ rfl (Or.inl ⟨by rfl, ?_⟩) ?_; rotate_left; (focus (intro w h; (try dsimp only at h); go_simp; (try with_reducible rfl))); simp only [Act.put, tA, tB, tC, tD, tE, tF])
      (refine tk 11 ?_ rfl (Or.inl ⟨by rfl, ?_⟩) ?_; rotate_left; (focus (intro w h; (try dsimp only at h); go_simp; (try with_reducible rfl))); simp only [Act.put, tA, tB, tC, tD, tE, tF])
      (refine tk 12 ?_ rfl (Or.inl ⟨by rfl, ?_⟩) ?_; rotate_left; (focus (intro w h; (try dsimp only at h); go_simp; (try with_reducible rfl))); simp only [Act.put, tA, tB, tC, tD, tE, tF])
      (refine tk 13 ?_ rfl (Or.inl ⟨by rfl, ?_⟩) ?_; rotate_left; (focus (intro w h; (try dsimp only at h); go_simp; (try with_reducible rfl))); simp only [Act.put, tA, tB, tC, tD, tE, tF])
      refine wpAnyH_ready (rs := [14]) (by kernel_rfl) (by simp) ?_
      refine AllReadyH.cons rfl (fun K hK => ?_) AllReadyH.nil
      go_simp
      go_wp2_with fail
      refine (D.out _).mono ?_
      rintro e w2 ⟨rfl, hb2⟩
      have X2 := X.out.below (undrew hb2)
      have V2 := XVr.out.below (undrew hb2)
      have M2 := XM.out.below (undrew hb2)
      go_wp2_with fail
      refine hK.out _ _ ⟨M2.c4, X2.c0, X2.c1, X2.c2, X2.c3, V2.c0, V2.c1, V2.c2, V2.c3⟩ (fun hHeld2 => ?_)
      clear hK K
      (refine tk 15 ?_ rfl (Or.inl ⟨by rfl, ?_⟩) ?_; rotate_left; (focus (intro w h; (try dsimp only at h); go_simp; (try with_reducible rfl))); simp only [Act.put, tA, tB, tC, tD, tE, tF])
      (refine tk 16 ?_ rfl (Or.inl ⟨by rfl, ?_⟩) ?_; rotate_left; (focus (intro w h; (try dsimp only at h); go_simp; (try with_reducible rfl))); simp only [Act.put, tA, tB, tC, tD, tE, tF])
      refine wpAnyH_done (by kernel_rfl) ?_ _
      have HB2 : Hid (Below W.heap.size W w2) := HB.out.trans ((undrew hb2).mono HB.out.size)
      have m4' := M2.c4
      rw [ptq_cons] at m4'
      go_wp2
      go_roundg B.length
      case measure => exact HG2.out
      case rel => exact ⟨A0 ++ [m], n, B, A ++ [n], rfl, rfl, by show _ = _; rw [← HE.out]; simp, by show _ = _; rw [HN.out]; simp, HA2, HB2⟩
end Go.Proofs.YtbajpnbodhhmjaaGreat

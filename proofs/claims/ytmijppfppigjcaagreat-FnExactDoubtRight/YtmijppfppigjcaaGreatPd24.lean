/- A chain's put, whatever stands in it. -/
import Derived.Test.YtmijppfppigjcaaGreatPd01
import Derived.Test.YtmijppfppigjcaaGreatPd12
namespace Go.Proofs.YtmijppfppigjcaaGreat
open Go.RowKit
open KM
open VM
attribute [local go_sem ↓] Go.wp_at_zero Go.wp_at_succ

def PutL (ns : List Nd) (v : Vr) (n2 : List Nd) : Prop := n2.length ≤ ns.length + 1 ∧ ∀ n ∈ n2, n.2 = v ∨ ∃ m ∈ ns, m.2 = n.2
theorem putL_mid {ns A B : List Nd} {v : Vr} {g : Nat} (h : ns = A ++ B) : PutL ns v (A ++ (g, v) :: B) := by
 subst h
 refine ⟨by simp only [List.length_append, List.length_cons]; omega, fun n hn => ?_⟩
 rcases List.mem_append.1 hn with h | h
 ·exact Or.inr ⟨n, List.mem_append_left _ h, rfl⟩
 ·rcases List.mem_cons.1 h with h | h
  ·exact Or.inl (by rw [h])
  ·exact Or.inr ⟨n, List.mem_append_right _ h, rfl⟩
theorem putL_set {ns A B : List Nd} {n : Nd} {v : Vr} (h : ns = A ++ n :: B) : PutL ns v (A ++ (n.1, v) :: B) := by
 subst h
 refine ⟨by simp only [List.length_append, List.length_cons]; omega, fun m hm => ?_⟩
 rcases List.mem_append.1 hm with h | h
 ·exact Or.inr ⟨m, List.mem_append_left _ h, rfl⟩
 ·rcases List.mem_cons.1 h with h | h
  ·exact Or.inl (by rw [h])
  ·exact Or.inr ⟨m, List.mem_append_right _ (List.mem_cons_of_mem _ h), rfl⟩
abbrev set4 (w : World) (g : Nat) (v : Vr) : World := (((w.setCell ⟨g, 0, none⟩ (.string v.1)).setCell ⟨g, 1, none⟩ (.string v.2.1)).setCell ⟨g, 2, none⟩ (.bool v.2.2.1)).setCell ⟨g, 3, none⟩ (.int .i64 v.2.2.2)
theorem ptq_swap (A B : List Nd) (n m : Nd) (h : n.1 = m.1) (q : Option Addr) : ptq (A ++ n :: B) q = ptq (A ++ m :: B) q := by
 cases A with
 | nil => simp only [List.nil_append, ptq_cons, h]
 | cons a A => simp only [List.cons_append, ptq_cons]
theorem chn_set {w : World} {base c : Nat} {A B : List Nd} {m : Nd} (h : Chn w base c (A ++ m :: B)) (v : Vr) : Chn (set4 w m.1 v) base c (A ++ (m.1, v) :: B) := by
 have e : (A ++ (m.1, v) :: B).map (·.1) = (A ++ m :: B).map (·.1) := by simp
 have hk : Kn [m.1] w (set4 w m.1 v) := (((Kn.set w m.1 0 _).trans (Kn.set _ m.1 1 _)).trans (Kn.set _ m.1 2 _)).trans (Kn.set _ m.1 3 _)
 obtain ⟨hA, hm, hB⟩ := (seg_app A (m :: B) none).1 h.seg
 have nd := h.nd
 have nc : c ≠ m.1 := fun x => by
  rw [List.nodup_cons] at nd
  exact nd.1 (x ▸ List.mem_map.2 ⟨m, by simp, rfl⟩)
 have nA : ∀ n ∈ A, n.1 ∉ [m.1] := fun n hn hx => by
  rw [List.nodup_cons, List.map_append, List.map_cons, List.nodup_append] at nd
  exact nd.2.2.2 n.1 (List.mem_map.2 ⟨n, hn, rfl⟩) m.1 (by simp) (by simpa using hx)
 have nB : ∀ n ∈ B, n.1 ∉ [m.1] := fun n hn hx => by
  rw [List.nodup_cons, List.map_append, List.map_cons, List.nodup_append, List.nodup_cons] at nd
  exact nd.2.2.1.1 ((by simpa using hx : n.1 = m.1) ▸ List.mem_map.2 ⟨n, hn, rfl⟩)
 refine ⟨?_, ?_, by rw [e]; exact nd, fun b hb => h.lo b (by rw [← e]; exact hb)⟩
 ·rw [ptq_swap A B (m.1, v) m rfl]
  exact h.bx.kn hk (by simpa using nc)
 ·refine (seg_app A ((m.1, v) :: B) none).2 ⟨?_, ?_, seg_kn hk _ _ nB hB⟩
  ·exact seg_kn hk _ _ nA hA
  ·exact (((hm.set 0 (.string v.1)).set 1 (.string v.2.1)).set 2 (.bool v.2.2.1)).set 3 (.int .i64 v.2.2.2)

set_option maxRecDepth 100000 in
set_option maxHeartbeats 4000000 in
theorem putA (v : Vr) (base c : Nat) (r : Nd) (ns : List Nd) (w : World) (hc : Chn w base c (r :: ns)) (hb : base ≤ w.heap.size) :
  Calls Tryz.prog 135 #[.pointer (some ⟨c, 0, none⟩), .agg #[.string v.1, .string v.2.1, .bool v.2.2.1, .int .i64 v.2.2.2]] w fun e w' => e = .returned (.tuple #[]) ∧ (∃ n2 : List Nd, Chn w' base c (r :: n2) ∧ PutL ns v n2) ∧ Below base w w' := by
 have HBa : Hid (base ≤ w.heap.size) := hb
 have XV : Hid (Bx (w.alloc (.cells #[.string v.1, .string v.2.1, .bool v.2.2.1, .int .i64 v.2.2.2] 150)) w.heap.size [.string v.1, .string v.2.1, .bool v.2.2.1, .int .i64 v.2.2.2]) := Bx.new w [.string v.1, .string v.2.1, .bool v.2.2.1, .int .i64 v.2.2.2] 150
 have HB0 : Hid (Below w.heap.size w (w.alloc (.cells #[.string v.1, .string v.2.1, .bool v.2.2.1, .int .i64 v.2.2.2] 150))) := (belowRefl w).alloc (Nat.le_refl _) _
 have HC : Hid (Chn (w.alloc (.cells #[.string v.1, .string v.2.1, .bool v.2.2.1, .int .i64 v.2.2.2] 150)) base c (r :: ns)) := hc.below HB0.out
 have HNv : Hid (∀ x ∈ c :: (r :: ns).map (·.1), x ≠ w.heap.size) := fun x hx => by have := hc.lt x hx; omega
 clear hc hb
 go_enter Tryz.func135, Tryz.ntmps135
 have b0 := HC.out.bx.c0
 have r4 := (Chn.at' (A := []) HC.out).c4
 simp only [ptq_cons] at b0
 obtain ⟨u0, hu0⟩ : ∃ u, u = ptq ns none := ⟨_, rfl⟩
 rw [← hu0] at r4
 have HU : Hid (u0 = ptq ns none) := hu0
 clear hu0
 go_wp2
 clear b0 r4
 generalize (w.alloc (.cells #[.string v.1, .string v.2.1, .bool v.2.2.1, .int .i64 v.2.2.2] 150)) = W at *
 go_loopg [4] ns.length (fun g t wr => ∃ A B : List Nd, Hid (ns = A ++ B) ∧ Hid (B.length = g) ∧ t = .pointer (ptq B none) ∧ Hid (Below W.heap.size W wr))
 case atStart => exact ⟨[], ns, rfl, rfl, by rw [HU.out], belowRefl W⟩
 case round =>
  obtain ⟨A, B, HE, HG, h8, HB⟩ := hrel
  cases B with
  | cons n B =>
   rw [ptq_cons] at h8
   have X : Hid (Bx wr n.1 (ndc n.2 (ptq B none))) := seg_at (HC.out.below HB.out) HE.out
   have XVr : Hid (Bx wr w.heap.size [.string v.1, .string v.2.1, .bool v.2.2.1, .int .i64 v.2.2.2]) := XV.out.below HB.out
   have HE2 : Hid (ns = (A ++ [n]) ++ B) := by show _ = _; rw [HE.out]; simp
   have HG2 : Hid (B.length < gk) := by show _ < _; rw [← HG.out]; simp
   obtain ⟨q, hq⟩ : ∃ q, q = ptq B none := ⟨_, rfl⟩
   rw [← hq] at X
   have HQ : Hid (Value.pointer q = .pointer (ptq B none)) := by show _ = _; rw [hq]
   clear hq
   have D : Hid (∀ w, Calls Tryz.prog 156 #[.agg #[.string n.2.1, .string n.2.2.1, .bool n.2.2.2.1, .int .i64 n.2.2.2.2], .agg #[.string v.1, .string v.2.1, .bool v.2.2.1, .int .i64 v.2.2.2]] w fun e w' => e = .returned (.int .i64 (cmpV n.2 v)) ∧ Below w.heap.size w w') := fun w => cmp55 n.2 v w
   generalize cmpV n.2 v = cv at D
   cases hcz : (cv == 0) with
   | false =>
    have n0 := X.out.c0
    have n1 := X.out.c1
    have n2 := X.out.c2
    have n3 := X.out.c3
    have x0 := XVr.out.c0
    have x1 := XVr.out.c1
    have x2 := XVr.out.c2
    have x3 := XVr.out.c3
    subst h8
    go_wp2
    refine wp_region_held_drew (S := fun w' => w'.cell? ⟨n.1, 0, none⟩ = some (.string n.2.1) ∧ w'.cell? ⟨n.1, 1, none⟩ = some (.string n.2.2.1) ∧ w'.cell? ⟨n.1, 2, none⟩ = some (.bool n.2.2.2.1) ∧ w'.cell? ⟨n.1, 3, none⟩ = some (.int .i64 n.2.2.2.2) ∧ w'.cell? ⟨w.heap.size, 0, none⟩ = some (.string v.1) ∧ w'.cell? ⟨w.heap.size, 1, none⟩ = some (.string v.2.1) ∧ w'.cell? ⟨w.heap.size, 2, none⟩ = some (.bool v.2.2.1) ∧ w'.cell? ⟨w.heap.size, 3, none⟩ = some (.int .i64 v.2.2.2)) (by kernel_rfl) ⟨n0, n1, n2, n3, x0, x1, x2, x3⟩ (fun hHeld => ?_)
    (refine ti 0 ?_; simp only [Act.put, tA, tB, tD, tE, tF])
    (refine ti 1 ?_; simp only [Act.put, tA, tB, tC, tD, tE, tF])
    (refine ti 2 ?_; simp only [Act.put, tA, tB, tC, tD, tE, tF])
    (refine ti 3 ?_; simp only [Act.put, tA, tB, tC, tD, tE, tF])
    (refine ti 4 ?_; simp only [Act.put, tA, tB, tC, tD, tE, tF])
    refine wpAnyH_ready (rs := [5]) (by kernel_rfl) (by simp) ?_
    refine AllReadyH.cons rfl (fun K hK => ?_) AllReadyH.nil
    go_simp
    go_wp2_with fail
    refine (D.out _).mono ?_
    rintro e w2 ⟨rfl, hb2⟩
    have X2 := X.out.below (undrew hb2)
    have V2 := XVr.out.below (undrew hb2)
    go_wp2_with fail
    refine hK.out _ _ ⟨X2.c0, X2.c1, X2.c2, X2.c3, V2.c0, V2.c1, V2.c2, V2.c3⟩ (fun hHeld2 => ?_)
    clear hK K
    (refine ti 6 ?_; simp only [Act.put, tA, tB, tC, tD, tE, tF])
    refine wpAnyH_done (by kernel_rfl) ?_ _
    have HB2 : Hid (Below W.heap.size W w2) := HB.out.trans ((undrew hb2).mono HB.out.size)
    have n4 := X2.c4
    go_wp2
    go_roundg B.length
    case measure => exact HG2.out
    case rel => exact ⟨A ++ [n], B, HE2, rfl, HQ.out, HB2⟩
   | true =>
    have n0 := X.out.c0
    have n1 := X.out.c1
    have n2 := X.out.c2
    have n3 := X.out.c3
    have x0 := XVr.out.c0
    have x1 := XVr.out.c1
    have x2 := XVr.out.c2
    have x3 := XVr.out.c3
    subst h8
    go_wp2
    refine wp_region_held_drew (S := fun w' => w'.cell? ⟨n.1, 0, none⟩ = some (.string n.2.1) ∧ w'.cell? ⟨n.1, 1, none⟩ = some (.string n.2.2.1) ∧ w'.cell? ⟨n.1, 2, none⟩ = some (.bool n.2.2.2.1) ∧ w'.cell? ⟨n.1, 3, none⟩ = some (.int .i64 n.2.2.2.2) ∧ w'.cell? ⟨w.heap.size, 0, none⟩ = some (.string v.1) ∧ w'.cell? ⟨w.heap.size, 1, none⟩ = some (.string v.2.1) ∧ w'.cell? ⟨w.heap.size, 2, none⟩ = some (.bool v.2.2.1) ∧ w'.cell? ⟨w.heap.size, 3, none⟩ = some (.int .i64 v.2.2.2)) (by kernel_rfl) ⟨n0, n1, n2, n3, x0, x1, x2, x3⟩ (fun hHeld => ?_)
    (refine ti 0 ?_; simp only [Act.put, tA, tB, tD, tE, tF])
    (refine ti 1 ?_; simp only [Act.put, tA, tB, tC, tD, tE, tF])
    (refine ti 2 ?_; simp only [Act.put, tA, tB, tC, tD, tE, tF])
    (refine ti 3 ?_; simp only [Act.put, tA, tB, tC, tD, tE, tF])
    (refine ti 4 ?_; simp only [Act.put, tA, tB, tC, tD, tE, tF])
    refine wpAnyH_ready (rs := [5]) (by kernel_rfl) (by simp) ?_
    refine AllReadyH.cons rfl (fun K hK => ?_) AllReadyH.nil
    go_simp
    go_wp2_with fail
    refine (D.out _).mono ?_
    rintro e w2 ⟨rfl, hb2⟩
    have X2 := X.out.below (undrew hb2)
    have V2 := XVr.out.below (undrew hb2)
    go_wp2_with fail
    refine hK.out _ _ ⟨X2.c0, X2.c1, X2.c2, X2.c3, V2.c0, V2.c1, V2.c2, V2.c3⟩ (fun hHeld2 => ?_)
    clear hK K
    (refine ti 6 ?_; simp only [Act.put, tA, tB, tC, tD, tE, tF])
    refine wpAnyH_done (by kernel_rfl) ?_ _
    have HB2 : Hid (Below W.heap.size W w2) := HB.out.trans ((undrew hb2).mono HB.out.size)
    have n4 := X2.c4
    have HCs : Hid (Chn (set4 w2 n.1 v) base c ((r :: A) ++ (n.1, v) :: B)) := by
     have h := (HC.out.below HB.out).below (undrew hb2)
     rw [HE.out] at h
     exact chn_set (A := r :: A) h v
    have HLo : Hid (base ≤ n.1) := HC.out.lo n.1 (by rw [HE.out]; simp)
    have HPs : Hid (PutL ns v (A ++ (n.1, v) :: B)) := putL_set HE.out
    have v0 := V2.c0
    have v1 := V2.c1
    have v2 := V2.c2
    have v3 := V2.c3
    have m0 := X2.c0
    have m1 := X2.c1
    have m2 := X2.c2
    have m3 := X2.c3
    have f0 := X2.fz 0
    have f1 := X2.fz 1
    have f2 := X2.fz 2
    have f3 := X2.fz 3
    have HFb : Hid (Below base w (set4 w2 n.1 v)) := by
     have h1 : Below base w w2 := (HB0.out.trans (HB2.out.mono HB0.out.size)).mono HBa.out
     exact (((h1.setCell HLo.out _).setCell HLo.out _).setCell HLo.out _).setCell HLo.out _
    clear n4 X2 V2
    go_wp2
    exact bodyPost_ret (v := .tuple #[]) (by simp [results, Tryz.results135, go_sem]) rfl ⟨rfl, ⟨A ++ (n.1, v) :: B, by simpa using HCs.out, HPs.out⟩, HFb.out⟩
  | nil =>
   rw [ptq_nil] at h8
   subst h8
   have b0 := (HC.out.below HB.out).bx.c0
   simp only [ptq_cons] at b0
   go_wp2
   clear b0 HG HE A
   go_loopg [5] ns.length (fun g t wr => ∃ (A0 : List Nd) (m : Nd) (B A : List Nd), t = .pointer (some ⟨m.1, 0, none⟩) ∧ Hid (B.length = g) ∧ Hid (r :: A = A0 ++ [m]) ∧ Hid (ns = A ++ B) ∧ Hid (∀ x ∈ A, asc x.2 v = true) ∧ Hid (Below W.heap.size W wr))
   case atStart => exact ⟨[], r, ns, [], rfl, rfl, rfl, rfl, (fun x hx => by cases hx), HB⟩
   case round =>
    clear HB
    obtain ⟨A0, m, B, A, rfl, HG, HE, HN, HA, HB⟩ := hrel
    have HCr : Hid (Chn wr base c (A0 ++ m :: B)) := by
     show Chn _ _ _ _
     have h := HC.out.below HB.out
     rw [HN.out] at h
     have e : A0 ++ m :: B = r :: (A ++ B) := by
      have : A0 ++ m :: B = (A0 ++ [m]) ++ B := by simp
      rw [this, ← HE.out]; rfl
     rw [e]; exact h
    have XM : Hid (Bx wr m.1 (ndc m.2 (ptq B none))) := HCr.out.at'
    have XVr : Hid (Bx wr w.heap.size [.string v.1, .string v.2.1, .bool v.2.2.1, .int .i64 v.2.2.2]) := XV.out.below HB.out
    have x0 := XVr.out.c0
    have x1 := XVr.out.c1
    have x2 := XVr.out.c2
    have x3 := XVr.out.c3
    have m4 := XM.out.c4
    cases B with
    | nil =>
     rw [ptq_nil] at m4
     have HStop : Hid (∀ x, ([] : List Nd).head? = some x → asc x.2 v = false) := fun x hx => by cases hx
     go_wp2
     refine wp_region_held_drew (S := fun w' => w'.cell? ⟨m.1, 4, none⟩ = some (.pointer none)) (by kernel_rfl) m4 (fun hHeld => ?_)
     (refine ti 0 ?_; simp only [Act.put, tA, tB, tD, tE, tF])
     (refine ti 1 ?_; simp only [Act.put, tA, tB, tC, tD, tE, tF])
     (refine ti 2 ?_; simp only [Act.put, tA, tB, tC, tD, tE, tF])
     (refine ti 3 ?_; simp only [Act.put, tA, tB, tC, tD, tE, tF])
     (refine ti 4 ?_; simp only [Act.put, tA, tB, tC, tD, tE, tF])
     (refine ti 5 ?_; simp only [Act.put, tA, tB, tC, tD, tE, tF])
     (refine tu 6 ?_; simp only [Act.put, tA, tB, tC, tD, tE, tF])
     (refine tu 7 ?_; simp only [Act.put, tA, tB, tC, tD, tE, tF])
     (refine tu 8 ?_; simp only [Act.put, tA, tB, tC, tD, tE, tF])
     (refine tu 9 ?_; simp only [Act.put, tA, tB, tC, tD, tE, tF])
     (refine tu 10 ?_; simp only [Act.put, tA, tB, tC, tD, tE, tF])
     (refine tu 11 ?_; simp only [Act.put, tA, tB, tC, tD, tE, tF])
     (refine tu 12 ?_; simp only [Act.put, tA, tB, tC, tD, tE, tF])
     (refine tu 13 ?_; simp only [Act.put, tA, tB, tC, tD, tE, tF])
     (refine tu 14 ?_; simp only [Act.put, tA, tB, tC, tD, tE, tF])
     (refine tu 15 ?_; simp only [Act.put, tA, tB, tC, tD, tE, tF])
     (refine ti 16 ?_; simp only [Act.put, tA, tB, tC, tD, tE, tF])
     refine wpAnyH_done (by kernel_rfl) ?_ _
     have HB9 : Hid (Below W.heap.size W wr.drew) := HB.out.drew
     have HC9 : Hid (Chn wr.drew base c (A0 ++ m :: [])) := HCr.out.below (belowRefl _).drew
     clear x0 x1 x2 x3 m4 XM XVr HCr
     generalize wr.drew = W9 at *
     have HM9 : Hid (Bx W9 m.1 (ndc m.2 (ptq ([] : List Nd) none))) := HC9.out.at'
     have HV9 : Hid (Bx W9 w.heap.size [.string v.1, .string v.2.1, .bool v.2.2.1, .int .i64 v.2.2.2]) := XV.out.below HB9.out
     have HmV : Hid (m.1 ≠ w.heap.size) := HNv.out m.1 (by
      have h1 : m ∈ r :: A := by rw [HE.out]; simp
      rcases List.mem_cons.1 h1 with h2 | h2
      ·rw [h2]; simp
      ·exact List.mem_cons_of_mem _ (List.mem_cons_of_mem _ (List.mem_map.2 ⟨m, by rw [HN.out]; simp [h2], rfl⟩)))
     have HbW : Hid (base ≤ W9.heap.size) := Nat.le_trans HBa.out (Nat.le_trans HB0.out.size HB9.out.size)
     have HmL : Hid (base ≤ m.1) := HC9.out.lo m.1 (by simp)
     have HR : Hid (PutL ns v (A ++ (W9.heap.size, v) :: ([] : List Nd))) := putL_mid HN.out
     have mlt0 := HM9.out.lt
     have HP : Hid (Chn ((W9.setCell ⟨m.1, 4, none⟩ (.pointer (some ⟨W9.heap.size, 0, none⟩))).alloc (.cells #[.string v.1, .string v.2.1, .bool v.2.2.1, .int .i64 v.2.2.2, .pointer none] 178)) base c (A0 ++ m :: (W9.heap.size, v) :: ([] : List Nd))) := by
      have h := chn_put HC9.out v HbW.out
      rw [World.setCell_alloc_past _ _ _ _ mlt0] at h
      exact h
     clear mlt0
     have m4 := HM9.out.c4
     have mf := HM9.out.fz
     have mlt := HM9.out.lt
     have x0 := HV9.out.c0
     have x1 := HV9.out.c1
     have x2 := HV9.out.c2
     have x3 := HV9.out.c3
     go_wp2
     refine wp_region_held_drew (S := fun w' => w'.cell? ⟨w.heap.size, 0, none⟩ = some (.string v.1) ∧ w'.cell? ⟨w.heap.size, 1, none⟩ = some (.string v.2.1) ∧ w'.cell? ⟨w.heap.size, 2, none⟩ = some (.bool v.2.2.1) ∧ w'.cell? ⟨w.heap.size, 3, none⟩ = some (.int .i64 v.2.2.2)) (by kernel_rfl) ⟨x0, x1, x2, x3⟩ (fun hHeld => ?_)
     (refine ti 0 ?_; simp only [Act.put, tA, tB, tD, tE, tF])
     (refine ti 1 ?_; simp only [Act.put, tA, tB, tC, tD, tE, tF])
     (refine ti 2 ?_; simp only [Act.put, tA, tB, tC, tD, tE, tF])
     (refine ti 3 ?_; simp only [Act.put, tA, tB, tC, tD, tE, tF])
     (refine ti 4 ?_; simp only [Act.put, tA, tB, tC, tD, tE, tF])
     refine wpAnyH_ready (rs := [5]) (by kernel_rfl) (by simp) ?_
     refine AllReadyH.cons rfl (fun K hK => ?_) AllReadyH.nil
     go_simp
     refine hK.out _ _ ⟨x0, x1, x2, x3⟩ (fun hHeld3 => ?_)
     clear hK K
     (refine ti 6 ?_; simp only [Act.put, tA, tB, tC, tD, tE, tF])
     refine wpAnyH_ready (rs := [7]) (by kernel_rfl) (by simp) ?_
     refine AllReadyH.cons rfl (fun K hK => ?_) AllReadyH.nil
     go_simp
     have V3 := (HV9.out.alloc (.cells #[.string v.1, .string v.2.1, .bool v.2.2.1, .int .i64 v.2.2.2, .pointer none] 178)).drew
     refine hK.out _ _ ⟨V3.c0, V3.c1, V3.c2, V3.c3⟩ (fun hHeld4 => ?_)
     clear hK K
     (refine ti 8 ?_; simp only [Act.put, tA, tB, tC, tD, tE, tF])
     (refine ti 9 ?_; simp only [Act.put, tA, tB, tC, tD, tE, tF])
     refine wpAnyH_ready (rs := [10]) (by kernel_rfl) (by simp) ?_
     refine AllReadyH.cons rfl (fun K hK => ?_) AllReadyH.nil
     go_simp
     have V4 := ((HV9.out.setO (p := ⟨m.1, 4, none⟩) HmV.out (.pointer (some ⟨W9.heap.size, 0, none⟩))).alloc (.cells #[.string v.1, .string v.2.1, .bool v.2.2.1, .int .i64 v.2.2.2, .pointer none] 178)).drew
     refine hK.out _ _ ⟨V4.c0, V4.c1, V4.c2, V4.c3⟩ (fun hHeld5 => ?_)
     clear hK K
     refine wpAnyH_done (by kernel_rfl) ?_ _
     have HFc : Hid (∃ n2 : List Nd, Chn ((W9.setCell ⟨m.1, 4, none⟩ (.pointer (some ⟨W9.heap.size, 0, none⟩))).alloc (.cells #[.string v.1, .string v.2.1, .bool v.2.2.1, .int .i64 v.2.2.2, .pointer none] 178)).drew base c (r :: n2) ∧ PutL ns v n2) := by
      refine ⟨A ++ (W9.heap.size, v) :: ([] : List Nd), ?_, ?_⟩
      ·have e : r :: (A ++ (W9.heap.size, v) :: ([] : List Nd)) = A0 ++ m :: (W9.heap.size, v) :: ([] : List Nd) := by
        have : A0 ++ m :: (W9.heap.size, v) :: ([] : List Nd) = (A0 ++ [m]) ++ (W9.heap.size, v) :: ([] : List Nd) := by simp
        rw [this, ← HE.out]; rfl
       rw [e]
       exact HP.out.below (belowRefl _).drew
      ·exact HR.out
     have HFb : Hid (Below base w ((W9.setCell ⟨m.1, 4, none⟩ (.pointer (some ⟨W9.heap.size, 0, none⟩))).alloc (.cells #[.string v.1, .string v.2.1, .bool v.2.2.1, .int .i64 v.2.2.2, .pointer none] 178)).drew) := by
      have h1 : Below base w W9 := ((HB0.out.trans (HB9.out.mono HB0.out.size)).mono HBa.out)
      exact ((h1.setCell HmL.out _).alloc (by simpa [World.setCell] using HbW.out) _).drew
     go_wp2
     go_end0
     exact ⟨rfl, HFc.out, HFb.out⟩
    | cons n B =>
     rw [ptq_cons] at m4
     have X : Hid (Bx wr n.1 (ndc n.2 (ptq B none))) := ((seg_app A0 (m :: n :: B) none).1 HCr.out.seg).2.2.1
     have D : Hid (∀ w, Calls Tryz.prog 156 #[.agg #[.string n.2.1, .string n.2.2.1, .bool n.2.2.2.1, .int .i64 n.2.2.2.2], .agg #[.string v.1, .string v.2.1, .bool v.2.2.1, .int .i64 v.2.2.2]] w fun e w' => e = .returned (.int .i64 (cmpV n.2 v)) ∧ Below w.heap.size w w') := fun w => cmp55 n.2 v w
     have HG2 : Hid (B.length < gk) := by show _ < _; rw [← HG.out]; simp
     have n0 := X.out.c0
     have n1 := X.out.c1
     have n2 := X.out.c2
     have n3 := X.out.c3
     cases hl : asc n.2 v
     ·have hcv : decide (cmpV n.2 v < 0) = false := by have := mt (cmpV_neg n.2 v).1 (by rw [hl]; simp); simp; omega
      have HStop : Hid (∀ x, (n :: B).head? = some x → asc x.2 v = false) := fun x hx => by cases hx; exact hl
      generalize cmpV n.2 v = cv at hcv D
      clear hl
      go_wp2
      refine wp_region_held_drew (S := fun w' => w'.cell? ⟨m.1, 4, none⟩ = some (.pointer (some ⟨n.1, 0, none⟩)) ∧ w'.cell? ⟨n.1, 0, none⟩ = some (.string n.2.1) ∧ w'.cell? ⟨n.1, 1, none⟩ = some (.string n.2.2.1) ∧ w'.cell? ⟨n.1, 2, none⟩ = some (.bool n.2.2.2.1) ∧ w'.cell? ⟨n.1, 3, none⟩ = some (.int .i64 n.2.2.2.2) ∧ w'.cell? ⟨w.heap.size, 0, none⟩ = some (.string v.1) ∧ w'.cell? ⟨w.heap.size, 1, none⟩ = some (.string v.2.1) ∧ w'.cell? ⟨w.heap.size, 2, none⟩ = some (.bool v.2.2.1) ∧ w'.cell? ⟨w.heap.size, 3, none⟩ = some (.int .i64 v.2.2.2)) (by kernel_rfl) ⟨m4, n0, n1, n2, n3, x0, x1, x2, x3⟩ (fun hHeld => ?_)
      (refine ti 0 ?_; simp only [Act.put, tA, tB, tD, tE, tF])
      (refine ti 1 ?_; simp only [Act.put, tA, tB, tC, tD, tE, tF])
      (refine ti 2 ?_; simp only [Act.put, tA, tB, tC, tD, tE, tF])
      (refine ti 3 ?_; simp only [Act.put, tA, tB, tC, tD, tE, tF])
      (refine ti 4 ?_; simp only [Act.put, tA, tB, tC, tD, tE, tF])
      (refine ti 5 ?_; simp only [Act.put, tA, tB, tC, tD, tE, tF])
      (refine ti 6 ?_; simp only [Act.put, tA, tB, tC, tD, tE, tF])
      (refine ti 7 ?_; simp only [Act.put, tA, tB, tC, tD, tE, tF])
      (refine ti 8 ?_; simp only [Act.put, tA, tB, tC, tD, tE, tF])
      (refine ti 9 ?_; simp only [Act.put, tA, tB, tC, tD, tE, tF])
      (refine ti 10 ?_; simp only [Act.put, tA, tB, tC, tD, tE, tF])
      (refine ti 11 ?_; simp only [Act.put, tA, tB, tC, tD, tE, tF])
      (refine ti 12 ?_; simp only [Act.put, tA, tB, tC, tD, tE, tF])
      (refine ti 13 ?_; simp only [Act.put, tA, tB, tC, tD, tE, tF])
      refine wpAnyH_ready (rs := [14]) (by kernel_rfl) (by simp) ?_
      refine AllReadyH.cons rfl (fun K hK => ?_) AllReadyH.nil
      go_simp
      go_wp2_with fail
      refine (D.out _).mono ?_
      rintro e w2 ⟨rfl, hb2⟩
      have X2 := X.out.below (undrew hb2)
      have V2 := XVr.out.below (undrew hb2)
      have M2 := XM.out.below (undrew hb2)
      go_wp2_with fail
      refine hK.out _ _ ⟨M2.c4, X2.c0, X2.c1, X2.c2, X2.c3, V2.c0, V2.c1, V2.c2, V2.c3⟩ (fun hHeld2 => ?_)
      clear hK K
      (refine ti 15 ?_; simp only [Act.put, tA, tB, tC, tD, tE, tF])
      (refine ti 16 ?_; simp only [Act.put, tA, tB, tC, tD, tE, tF])
      refine wpAnyH_done (by kernel_rfl) ?_ _
      have HB9 : Hid (Below W.heap.size W w2) := HB.out.trans ((undrew hb2).mono HB.out.size)
      have HC9 : Hid (Chn w2 base c (A0 ++ m :: (n :: B))) := HCr.out.below (undrew hb2)
      clear x0 x1 x2 x3 m4 n0 n1 n2 n3 XM XVr HCr X X2 V2 M2 hb2 HB
      generalize w2 = W9 at *
      have HM9 : Hid (Bx W9 m.1 (ndc m.2 (ptq (n :: B) none))) := HC9.out.at'
      have HV9 : Hid (Bx W9 w.heap.size [.string v.1, .string v.2.1, .bool v.2.2.1, .int .i64 v.2.2.2]) := XV.out.below HB9.out
      have HmV : Hid (m.1 ≠ w.heap.size) := HNv.out m.1 (by
       have h1 : m ∈ r :: A := by rw [HE.out]; simp
       rcases List.mem_cons.1 h1 with h2 | h2
       ·rw [h2]; simp
       ·exact List.mem_cons_of_mem _ (List.mem_cons_of_mem _ (List.mem_map.2 ⟨m, by rw [HN.out]; simp [h2], rfl⟩)))
      have HbW : Hid (base ≤ W9.heap.size) := Nat.le_trans HBa.out (Nat.le_trans HB0.out.size HB9.out.size)
      have HmL : Hid (base ≤ m.1) := HC9.out.lo m.1 (by simp)
      have HR : Hid (PutL ns v (A ++ (W9.heap.size, v) :: (n :: B))) := putL_mid HN.out
      have mlt0 := HM9.out.lt
      have HP : Hid (Chn ((W9.setCell ⟨m.1, 4, none⟩ (.pointer (some ⟨W9.heap.size, 0, none⟩))).alloc (.cells #[.string v.1, .string v.2.1, .bool v.2.2.1, .int .i64 v.2.2.2, .pointer (some ⟨n.1, 0, none⟩)] 178)) base c (A0 ++ m :: (W9.heap.size, v) :: (n :: B))) := by
       have h := chn_put HC9.out v HbW.out
       rw [World.setCell_alloc_past _ _ _ _ mlt0] at h
       exact h
      clear mlt0
      have m4 := HM9.out.c4
      have mf := HM9.out.fz
      have mlt := HM9.out.lt
      have x0 := HV9.out.c0
      have x1 := HV9.out.c1
      have x2 := HV9.out.c2
      have x3 := HV9.out.c3
      go_wp2
      refine wp_region_held_drew (S := fun w' => w'.cell? ⟨w.heap.size, 0, none⟩ = some (.string v.1) ∧ w'.cell? ⟨w.heap.size, 1, none⟩ = some (.string v.2.1) ∧ w'.cell? ⟨w.heap.size, 2, none⟩ = some (.bool v.2.2.1) ∧ w'.cell? ⟨w.heap.size, 3, none⟩ = some (.int .i64 v.2.2.2)) (by kernel_rfl) ⟨x0, x1, x2, x3⟩ (fun hHeld => ?_)
      (refine ti 0 ?_; simp only [Act.put, tA, tB, tD, tE, tF])
      (refine ti 1 ?_; simp only [Act.put, tA, tB, tC, tD, tE, tF])
      (refine ti 2 ?_; simp only [Act.put, tA, tB, tC, tD, tE, tF])
      (refine ti 3 ?_; simp only [Act.put, tA, tB, tC, tD, tE, tF])
      (refine ti 4 ?_; simp only [Act.put, tA, tB, tC, tD, tE, tF])
      refine wpAnyH_ready (rs := [5]) (by kernel_rfl) (by simp) ?_
      refine AllReadyH.cons rfl (fun K hK => ?_) AllReadyH.nil
      go_simp
      refine hK.out _ _ ⟨x0, x1, x2, x3⟩ (fun hHeld3 => ?_)
      clear hK K
      (refine ti 6 ?_; simp only [Act.put, tA, tB, tC, tD, tE, tF])
      refine wpAnyH_ready (rs := [7]) (by kernel_rfl) (by simp) ?_
      refine AllReadyH.cons rfl (fun K hK => ?_) AllReadyH.nil
      go_simp
      have V3 := (HV9.out.alloc (.cells #[.string v.1, .string v.2.1, .bool v.2.2.1, .int .i64 v.2.2.2, .pointer (some ⟨n.1, 0, none⟩)] 178)).drew
      refine hK.out _ _ ⟨V3.c0, V3.c1, V3.c2, V3.c3⟩ (fun hHeld4 => ?_)
      clear hK K
      (refine ti 8 ?_; simp only [Act.put, tA, tB, tC, tD, tE, tF])
      (refine ti 9 ?_; simp only [Act.put, tA, tB, tC, tD, tE, tF])
      refine wpAnyH_ready (rs := [10]) (by kernel_rfl) (by simp) ?_
      refine AllReadyH.cons rfl (fun K hK => ?_) AllReadyH.nil
      go_simp
      have V4 := ((HV9.out.setO (p := ⟨m.1, 4, none⟩) HmV.out (.pointer (some ⟨W9.heap.size, 0, none⟩))).alloc (.cells #[.string v.1, .string v.2.1, .bool v.2.2.1, .int .i64 v.2.2.2, .pointer (some ⟨n.1, 0, none⟩)] 178)).drew
      refine hK.out _ _ ⟨V4.c0, V4.c1, V4.c2, V4.c3⟩ (fun hHeld5 => ?_)
      clear hK K
      refine wpAnyH_done (by kernel_rfl) ?_ _
      have HFc : Hid (∃ n2 : List Nd, Chn ((W9.setCell ⟨m.1, 4, none⟩ (.pointer (some ⟨W9.heap.size, 0, none⟩))).alloc (.cells #[.string v.1, .string v.2.1, .bool v.2.2.1, .int .i64 v.2.2.2, .pointer (some ⟨n.1, 0, none⟩)] 178)).drew base c (r :: n2) ∧ PutL ns v n2) := by
       refine ⟨A ++ (W9.heap.size, v) :: (n :: B), ?_, ?_⟩
       ·have e : r :: (A ++ (W9.heap.size, v) :: (n :: B)) = A0 ++ m :: (W9.heap.size, v) :: (n :: B) := by
         have : A0 ++ m :: (W9.heap.size, v) :: (n :: B) = (A0 ++ [m]) ++ (W9.heap.size, v) :: (n :: B) := by simp
         rw [this, ← HE.out]; rfl
        rw [e]
        exact HP.out.below (belowRefl _).drew
       ·exact HR.out
      have HFb : Hid (Below base w ((W9.setCell ⟨m.1, 4, none⟩ (.pointer (some ⟨W9.heap.size, 0, none⟩))).alloc (.cells #[.string v.1, .string v.2.1, .bool v.2.2.1, .int .i64 v.2.2.2, .pointer (some ⟨n.1, 0, none⟩)] 178)).drew) := by
       have h1 : Below base w W9 := ((HB0.out.trans (HB9.out.mono HB0.out.size)).mono HBa.out)
       exact ((h1.setCell HmL.out _).alloc (by simpa [World.setCell] using HbW.out) _).drew
      go_wp2
      go_end0
      exact ⟨rfl, HFc.out, HFb.out⟩
     ·have hcv : decide (cmpV n.2 v < 0) = true := by have := (cmpV_neg n.2 v).2 hl; simpa using this
      have HA2 : Hid (∀ x ∈ A ++ [n], asc x.2 v = true) := fun x hx => by
       rcases List.mem_append.1 hx with h | h
       ·exact HA.out x h
       ·rw [List.mem_singleton.1 h]; exact hl
      generalize cmpV n.2 v = cv at hcv D
      clear hl
      go_wp2
      refine wp_region_held_drew (S := fun w' => w'.cell? ⟨m.1, 4, none⟩ = some (.pointer (some ⟨n.1, 0, none⟩)) ∧ w'.cell? ⟨n.1, 0, none⟩ = some (.string n.2.1) ∧ w'.cell? ⟨n.1, 1, none⟩ = some (.string n.2.2.1) ∧ w'.cell? ⟨n.1, 2, none⟩ = some (.bool n.2.2.2.1) ∧ w'.cell? ⟨n.1, 3, none⟩ = some (.int .i64 n.2.2.2.2) ∧ w'.cell? ⟨w.heap.size, 0, none⟩ = some (.string v.1) ∧ w'.cell? ⟨w.heap.size, 1, none⟩ = some (.string v.2.1) ∧ w'.cell? ⟨w.heap.size, 2, none⟩ = some (.bool v.2.2.1) ∧ w'.cell? ⟨w.heap.size, 3, none⟩ = some (.int .i64 v.2.2.2)) (by kernel_rfl) ⟨m4, n0, n1, n2, n3, x0, x1, x2, x3⟩ (fun hHeld => ?_)
      (refine ti 0 ?_; simp only [Act.put, tA, tB, tD, tE, tF])
      (refine ti 1 ?_; simp only [Act.put, tA, tB, tC, tD, tE, tF])
      (refine ti 2 ?_; simp only [Act.put, tA, tB, tC, tD, tE, tF])
      (refine ti 3 ?_; simp only [Act.put, tA, tB, tC, tD, tE, tF])
      (refine ti 4 ?_; simp only [Act.put, tA, tB, tC, tD, tE, tF])
      (refine ti 5 ?_; simp only [Act.put, tA, tB, tC, tD, tE, tF])
      (refine ti 6 ?_; simp only [Act.put, tA, tB, tC, tD, tE, tF])
      (refine ti 7 ?_; simp only [Act.put, tA, tB, tC, tD, tE, tF])
      (refine ti 8 ?_; simp only [Act.put, tA, tB, tC, tD, tE, tF])
      (refine ti 9 ?_; simp only [Act.put, tA, tB, tC, tD, tE, tF])
      (refine ti 10 ?_; simp only [Act.put, tA, tB, tC, tD, tE, tF])
      (refine ti 11 ?_; simp only [Act.put, tA, tB, tC, tD, tE, tF])
      (refine ti 12 ?_; simp only [Act.put, tA, tB, tC, tD, tE, tF])
      (refine ti 13 ?_; simp only [Act.put, tA, tB, tC, tD, tE, tF])
      refine wpAnyH_ready (rs := [14]) (by kernel_rfl) (by simp) ?_
      refine AllReadyH.cons rfl (fun K hK => ?_) AllReadyH.nil
      go_simp
      go_wp2_with fail
      refine (D.out _).mono ?_
      rintro e w2 ⟨rfl, hb2⟩
      have X2 := X.out.below (undrew hb2)
      have V2 := XVr.out.below (undrew hb2)
      have M2 := XM.out.below (undrew hb2)
      go_wp2_with fail
      refine hK.out _ _ ⟨M2.c4, X2.c0, X2.c1, X2.c2, X2.c3, V2.c0, V2.c1, V2.c2, V2.c3⟩ (fun hHeld2 => ?_)
      clear hK K
      (refine ti 15 ?_; simp only [Act.put, tA, tB, tC, tD, tE, tF])
      (refine ti 16 ?_; simp only [Act.put, tA, tB, tC, tD, tE, tF])
      refine wpAnyH_done (by kernel_rfl) ?_ _
      have HB2 : Hid (Below W.heap.size W w2) := HB.out.trans ((undrew hb2).mono HB.out.size)
      have m4' := M2.c4
      rw [ptq_cons] at m4'
      go_wp2
      go_roundg B.length
      case measure => exact HG2.out
      case rel => exact ⟨A0 ++ [m], n, B, A ++ [n], rfl, rfl, by show _ = _; rw [← HE.out]; simp, by show _ = _; rw [HN.out]; simp, HA2, HB2⟩
end Go.Proofs.YtmijppfppigjcaaGreat

namespace Go.Proofs.YtmijppfppigjcaaGreat
open Go.RowKit
open KM
open VM
attribute [local go_sem ↓] Go.wp_at_zero Go.wp_at_succ

def PutG (n i : Nat) (ns : List Nd) : Prop := ns.length ≤ n + i ∧ ∀ m ∈ ns, m.2.1.size ≤ 1048576 ∧ m.2.2.1.size ≤ 1048576
theorem putG_zero {xs : List Vr} {ns : List Nd} (h : ns.map (·.2) = xs) (hf : VFit xs) : PutG xs.length 0 ns := by
 subst h
 exact ⟨by simp, fun m hm => hf m.2 (List.mem_map.2 ⟨m, hm, rfl⟩)⟩
theorem putG_next {n i : Nat} {ns n2 : List Nd} {x : Wt} {cs : Int} (h : PutG n i ns) (k : PutL ns (verOf cs x) n2) (hx : x.1.size ≤ 1048576 ∧ x.2.1.size ≤ 1048576) : PutG n (i + 1) n2 := by
 refine ⟨by have := h.1; have := k.1; omega, fun m hm => ?_⟩
 rcases k.2 m hm with e | ⟨q, hq, e⟩
 ·rw [e]; exact hx
 ·rw [← e]; exact h.2 q hq

set_option maxRecDepth 100000 in
set_option maxHeartbeats 4000000 in
theorem iputA (xs : List Vr) (ws : List Wt) (a1 a2 : Option Addr) (c1 c2 : Nat) (cs : Int) (hn : xs.length ≤ 2000000) (hm : ws.length ≤ 2000000) (hf : VFit xs) (hg : WFit ws) (w : World) (hp : GRow encV w a1 xs) (hq : GRow encW w a2 ws) :
  Calls Tryz.prog 96 #[.slice a1 xs.length c1, .slice a2 ws.length c2, .int .i64 cs] w fun e w' => ∃ (zs : List Vr) (a3 : Option Addr) (c3 : Nat), e = .returned (.slice a3 zs.length c3) ∧ GOwn encV 150 w' w.heap.size (.slice a3 zs.length c3) zs ∧ (zs.length ≤ xs.length + ws.length ∧ VFit zs) ∧ Below w.heap.size w w' := by
 have HP : Hid (GRow encV w a1 xs) := hp
 have HQ : Hid (GRow encW w a2 ws) := hq
 have HF : Hid (VFit xs) := hf
 have HG : Hid (WFit ws) := hg
 clear hp hq hf hg
 go_enter Tryz.func96, Tryz.ntmps96
 go_wp2_with fail
 refine (chain45 xs a1 c1 (by omega) _ HP.out).mono ?_
 rintro e w1 ⟨rfl, ⟨r, ns, hc, hv⟩, hb1⟩
 obtain ⟨cc, hcc⟩ : ∃ cc, cc = w.heap.size + 1 := ⟨_, rfl⟩
 rw [← hcc] at hc ⊢
 clear hcc
 have HC1 : Hid (∃ ns : List Nd, Chn w1 w.heap.size cc ((r, zV) :: ns) ∧ PutG xs.length 0 ns) := ⟨ns, hc, putG_zero hv HF.out⟩
 have HB1 : Hid (Below w.heap.size w w1) := hb1
 clear hc hv hb1 ns
 go_wp2
 go_loopw [14] (fun t wr => ∃ i : Nat, i ≤ ws.length ∧ t = .int .i64 i ∧ Hid (∃ ns : List Nd, Chn wr w.heap.size cc ((r, zV) :: ns) ∧ PutG xs.length i ns) ∧ Hid (Below w.heap.size w wr)) (fun t _ => ws.length - (intOf t).toNat)
 case atStart => exact ⟨0, Nat.zero_le _, rfl, HC1, HB1⟩
 case round =>
  clear HC1 HB1
  obtain ⟨i, hi, rfl, HC, HB⟩ := hrel
  obtain ⟨ns, hc, hv⟩ := HC.out
  have HCn : Hid (Chn wr w.heap.size cc ((r, zV) :: ns)) := hc
  have HV : Hid (PutG xs.length i ns) := hv
  have hnl : ns.length ≤ 10000000 := by have := hv.1; omega
  clear hc hv HC
  by_cases hlt : i < ws.length
  ·have hlt' : (i : Int) < (ws.length : Int) := by omega
   have hi0 : (0 : Int) ≤ (i : Int) := by omega
   obtain ⟨b, off, rfl, hbl, hc⟩ := (HQ.out.below HB.out) (by omega)
   have d0 := (wat hc i hlt).1
   have d1 := (wat hc i hlt).2.1
   have d2 := (wat hc i hlt).2.2
   clear hc
   have HBx : Hid (Below w.heap.size w (wr.alloc (.cells #[.string ws[i].1, .string ws[i].2.1, .bool ws[i].2.2] 148))) := HB.out.alloc HB.out.size _
   have HCx : Hid (Chn (wr.alloc (.cells #[.string ws[i].1, .string ws[i].2.1, .bool ws[i].2.2] 148)) w.heap.size cc ((r, zV) :: ns)) := HCn.out.below ((belowRefl wr).alloc (Nat.le_refl _) _)
   go_wp2_with fail
   refine (putA (verOf cs ws[i]) w.heap.size cc (r, zV) ns _ HCx.out HBx.out.size).mono ?_
   rintro e w3 ⟨rfl, ⟨n2, hc2, hv2⟩, hb2⟩
   have HC2 : Hid (∃ ns : List Nd, Chn w3 w.heap.size cc ((r, zV) :: ns) ∧ PutG xs.length (i + 1) ns) := ⟨n2, hc2, putG_next HV.out hv2 (HG.out _ (List.getElem_mem hlt))⟩
   have HB2 : Hid (Below w.heap.size w w3) := HBx.out.trans hb2
   clear hc2 hv2 hb2 n2
   go_wp2
   go_roundw
   case rel => exact ⟨i + 1, by omega, by go_num, HC2, HB2⟩
   case measure => simp [intOf]; omega
  ·have hlt' : ¬ (i : Int) < (ws.length : Int) := by omega
   have HZ2 : Hid (∀ n ∈ ns, n.2.1.size ≤ 281474976710656 ∧ n.2.2.1.size ≤ 281474976710656) := fun n h => by have := HV.out.2 n h; exact ⟨by omega, by omega⟩
   have hil : i = ws.length := by omega
   have HL2 : Hid ((ns.map (·.2)).length ≤ xs.length + ws.length ∧ VFit (ns.map (·.2))) := ⟨by rw [List.length_map, ← hil]; exact HV.out.1, fun x hx => by obtain ⟨n, hn, rfl⟩ := List.mem_map.1 hx; exact HV.out.2 n hn⟩
   clear hil
   go_wp2_with fail
   refine (vers47 w.heap.size cc (r, zV) ns (by omega) HZ2.out _ HCn.out).mono ?_
   rintro e w4 ⟨a3, c3, rfl, ho, hb4⟩
   have HO : Hid (GOwn encV 150 w4 w.heap.size (.slice a3 (ns.map (·.2)).length c3) (ns.map (·.2))) := ho.mono HB.out.size
   obtain ⟨zs, hzs⟩ : ∃ zs, zs = ns.map (·.2) := ⟨_, rfl⟩
   rw [← hzs] at HO HL2
   rw [← hzs]
   clear hzs
   have HB4 : Hid (Below w.heap.size w w4) := HB.out.trans (hb4.mono HB.out.size)
   clear ho hb4
   go_wp2
   go_ret
   exact ⟨zs, a3, c3, rfl, HO.out, HL2.out, HB4.out⟩
end Go.Proofs.YtmijppfppigjcaaGreat

/- A way over a list for each question of a chain: leads. -/
import Derived.Test.YtmijppfppigjcaaGreatPd01
import Derived.Test.YtmijppfppigjcaaGreatPd13
import Derived.Test.YtmijppfppigjcaaGreatPd06
namespace Go.Proofs.YtmijppfppigjcaaGreat
open Go.RowKit
open KM
attribute [local go_sem ↓] Go.wp_at_zero Go.wp_at_succ

def encF : Enc Nat := ⟨fun q => [.func (.func q) #[] #[]], 1, by decide, fun _ => rfl⟩
def leadB : List (Tx → Tx → Bool) → Tx → List Tx → Bool
 | [], _, _ => true
 | Q :: Qs, t, l => l.any fun x => Q t x && leadB Qs x l
structure AskE (q : Nat) (Q : Tx → Tx → Bool) : Prop where
 en : ∀ (args : Array Value) (w : World), (callFunc q args).run Tryz.prog w = .ok (.enter q args) w
 ask : Asks q Q
def Leads (qs : List Nat) (Qs : List (Tx → Tx → Bool)) (xs : List Ta) (a : Option Addr) (c n : Nat) : Prop := ∀ (t : Tx) (ra wa : Option Addr) (rc wc : Nat) (ca : Option Addr) (cc m : Nat) (w : World), m = qs.length → m ≤ cc → TFit t → TRow w t ra wa → TRows w a xs → GRow encF w ca qs →
  Calls Tryz.prog 132 #[.agg #[.int .i64 t.id, .int .i64 t.st, .int .i64 t.snap, .int .i64 t.cs, .slice ra t.rs.length rc, .slice wa t.ws.length wc, .bool t.out, .string t.nm], .slice ca m cc, .slice a n c] w fun e w' => e = .returned (.bool (leadB Qs t (txs xs))) ∧ Below w.heap.size w w'
theorem grow_tail {w : World} {b o : Nat} {q : Nat} {qs : List Nat} (h : GRow encF w (some ⟨b, o, none⟩) (q :: qs)) : GRow encF w (some ⟨b, o + 1, none⟩) qs := fun h0 => by
 obtain ⟨b', o', e, hl, hc⟩ := h (by simp)
 cases e
 refine ⟨b, o + 1, rfl, hl, fun j hj i hi => ?_⟩
 have := hc (j + 1) (by simpa using hj) i hi
 simp only [encF] at this ⊢
 rw [show o + 1 + j * 1 + i = o + (j + 1) * 1 + i by omega]
 exact this

set_option maxRecDepth 100000 in
set_option maxHeartbeats 2000000 in
theorem ask72 (q : Nat) (Q : Tx → Tx → Bool) (hA : AskE q Q) (qs : List Nat) (Qs : List (Tx → Tx → Bool)) (xs : List Ta) (a : Option Addr) (c n : Nat) (ih : Leads qs Qs xs a c n) (t : Tx) (ra wa : Option Addr) (rc wc : Nat) (x : Ta) (bc bt bl cb co cc m : Nat) (hm : m = qs.length) (hmc : m ≤ cc) (ft : TFit t) (fx : TFit x.t) (w : World) (hr : TRow w t ra wa) (hxr : TRow w x.t x.ra x.wa) (hp : TRows w a xs) (hq : GRow encF w (some ⟨cb, co, none⟩) (q :: qs)) (hbc : Bx w bc [.slice (some ⟨cb, co, none⟩) (m + 1) (cc + 1)]) (hbt : Bx w bt [.int .i64 t.id, .int .i64 t.st, .int .i64 t.snap, .int .i64 t.cs, .slice ra t.rs.length rc, .slice wa t.ws.length wc, .bool t.out, .string t.nm]) (hbl : Bx w bl [.slice a n c]) :
  Calls Tryz.prog 154 #[.agg #[.int .i64 x.t.id, .int .i64 x.t.st, .int .i64 x.t.snap, .int .i64 x.t.cs, .slice x.ra x.t.rs.length x.rc, .slice x.wa x.t.ws.length x.wc, .bool x.t.out, .string x.t.nm], .pointer (some ⟨bc, 0, none⟩), .pointer (some ⟨bt, 0, none⟩), .pointer (some ⟨bl, 0, none⟩)] w fun e w' => e = .returned (.bool (Q t x.t && leadB Qs x.t (txs xs))) ∧ Below w.heap.size w w' := by
 have HB1 : Hid (Below w.heap.size w (w.alloc (.cells #[.int .i64 x.t.id, .int .i64 x.t.st, .int .i64 x.t.snap, .int .i64 x.t.cs, .slice x.ra x.t.rs.length x.rc, .slice x.wa x.t.ws.length x.wc, .bool x.t.out, .string x.t.nm] 62))) := (belowRefl w).alloc (Nat.le_refl _) _
 have BC1 : Hid (Bx (w.alloc (.cells #[.int .i64 x.t.id, .int .i64 x.t.st, .int .i64 x.t.snap, .int .i64 x.t.cs, .slice x.ra x.t.rs.length x.rc, .slice x.wa x.t.ws.length x.wc, .bool x.t.out, .string x.t.nm] 62)) bc [.slice (some ⟨cb, co, none⟩) (m + 1) (cc + 1)]) := hbc.alloc _
 have BT1 : Hid (Bx (w.alloc (.cells #[.int .i64 x.t.id, .int .i64 x.t.st, .int .i64 x.t.snap, .int .i64 x.t.cs, .slice x.ra x.t.rs.length x.rc, .slice x.wa x.t.ws.length x.wc, .bool x.t.out, .string x.t.nm] 62)) bt [.int .i64 t.id, .int .i64 t.st, .int .i64 t.snap, .int .i64 t.cs, .slice ra t.rs.length rc, .slice wa t.ws.length wc, .bool t.out, .string t.nm]) := hbt.alloc _
 have BL1 : Hid (Bx (w.alloc (.cells #[.int .i64 x.t.id, .int .i64 x.t.st, .int .i64 x.t.snap, .int .i64 x.t.cs, .slice x.ra x.t.rs.length x.rc, .slice x.wa x.t.ws.length x.wc, .bool x.t.out, .string x.t.nm] 62)) bl [.slice a n c]) := hbl.alloc _
 have BX1 : Hid (Bx (w.alloc (.cells #[.int .i64 x.t.id, .int .i64 x.t.st, .int .i64 x.t.snap, .int .i64 x.t.cs, .slice x.ra x.t.rs.length x.rc, .slice x.wa x.t.ws.length x.wc, .bool x.t.out, .string x.t.nm] 62)) w.heap.size [.int .i64 x.t.id, .int .i64 x.t.st, .int .i64 x.t.snap, .int .i64 x.t.cs, .slice x.ra x.t.rs.length x.rc, .slice x.wa x.t.ws.length x.wc, .bool x.t.out, .string x.t.nm]) := Bx.new w [.int .i64 x.t.id, .int .i64 x.t.st, .int .i64 x.t.snap, .int .i64 x.t.cs, .slice x.ra x.t.rs.length x.rc, .slice x.wa x.t.ws.length x.wc, .bool x.t.out, .string x.t.nm] 62
 obtain ⟨hcl1, fq1⟩ : cb < (w.alloc (.cells #[.int .i64 x.t.id, .int .i64 x.t.st, .int .i64 x.t.snap, .int .i64 x.t.cs, .slice x.ra x.t.rs.length x.rc, .slice x.wa x.t.ws.length x.wc, .bool x.t.out, .string x.t.nm] 62)).heap.size ∧ (w.alloc (.cells #[.int .i64 x.t.id, .int .i64 x.t.st, .int .i64 x.t.snap, .int .i64 x.t.cs, .slice x.ra x.t.rs.length x.rc, .slice x.wa x.t.ws.length x.wc, .bool x.t.out, .string x.t.nm] 62)).cell? ⟨cb, co, none⟩ = some (.func (.func q) #[] #[]) := by
  obtain ⟨b', o', e, hl, hc⟩ := (hq.below HB1.out) (by simp)
  cases e
  exact ⟨hl, hc 0 (by simp) 0 (by decide)⟩
 have HQ : Hid (GRow encF w (some ⟨cb, co + 1, none⟩) qs) := grow_tail hq
 have HA : Hid (∀ w1, Below w.heap.size w w1 → _) := fun w1 h1 => hA.ask t x.t ra wa rc wc x.ra x.wa x.rc x.wc w1 ft fx (hr.below h1) (hxr.below h1)
 have HI : Hid (∀ (ca : Option Addr) (cc : Nat) w1, m ≤ cc → GRow encF w1 ca qs → Below w.heap.size w w1 → _) := fun ca cc w1 h3 h2 h1 => ih x.t x.ra x.wa x.rc x.wc ca cc m w1 hm h3 fx (hxr.below h1) (hp.below h1) h2
 have HM : Hid (m = qs.length) := hm
 have HE := hide hA.en
 clear hA ih hq hbc hbt hbl hr hxr hp ft fx hm
 cases hv : Q t x.t
 ·rw [hv] at HA
  clear hv
  go_enter Tryz.func154, Tryz.ntmps154
  go_wp2
  refine wp_region_held_drew (S := fun w' => w'.cell? ⟨bc, 0, none⟩ = some (.slice (some ⟨cb, co, none⟩) (m + 1) (cc + 1)) ∧ w'.cell? ⟨cb, co, none⟩ = some (.func (.func q) #[] #[]) ∧ w'.cell? ⟨bt, 0, none⟩ = some (.int .i64 t.id) ∧ w'.cell? ⟨bt, 1, none⟩ = some (.int .i64 t.st) ∧ w'.cell? ⟨bt, 2, none⟩ = some (.int .i64 t.snap) ∧ w'.cell? ⟨bt, 3, none⟩ = some (.int .i64 t.cs) ∧ w'.cell? ⟨bt, 4, none⟩ = some (.slice ra t.rs.length rc) ∧ w'.cell? ⟨bt, 5, none⟩ = some (.slice wa t.ws.length wc) ∧ w'.cell? ⟨bt, 6, none⟩ = some (.bool t.out) ∧ w'.cell? ⟨bt, 7, none⟩ = some (.string t.nm) ∧ w'.cell? ⟨w.heap.size, 0, none⟩ = some (.int .i64 x.t.id) ∧ w'.cell? ⟨w.heap.size, 1, none⟩ = some (.int .i64 x.t.st) ∧ w'.cell? ⟨w.heap.size, 2, none⟩ = some (.int .i64 x.t.snap) ∧ w'.cell? ⟨w.heap.size, 3, none⟩ = some (.int .i64 x.t.cs) ∧ w'.cell? ⟨w.heap.size, 4, none⟩ = some (.slice x.ra x.t.rs.length x.rc) ∧ w'.cell? ⟨w.heap.size, 5, none⟩ = some (.slice x.wa x.t.ws.length x.wc) ∧ w'.cell? ⟨w.heap.size, 6, none⟩ = some (.bool x.t.out) ∧ w'.cell? ⟨w.heap.size, 7, none⟩ = some (.string x.t.nm) ∧ w'.cell? ⟨bl, 0, none⟩ = some (.slice a n c)) (by kernel_rfl) ⟨BC1.out.c0, fq1, BT1.out.c0, BT1.out.c1, BT1.out.c2, BT1.out.c3, BT1.out.c4, BT1.out.c5, BT1.out.c6, BT1.out.c7, BX1.out.c0, BX1.out.c1, BX1.out.c2, BX1.out.c3, BX1.out.c4, BX1.out.c5, BX1.out.c6, BX1.out.c7, BL1.out.c0⟩ (fun hHeld => ?_)
  (refine ti 0 ?_; simp only [Act.put, tA, tB, tD, tE, tF])
  (refine ti 1 ?_; simp only [Act.put, tA, tB, tC, tD, tE, tF])
  (refine ti 2 ?_; simp only [Act.put, tA, tB, tC, tD, tE, tF])
  (refine ti 3 ?_; simp only [Act.put, tA, tB, tC, tD, tE, tF])
  (refine ti 4 ?_; simp only [Act.put, tA, tB, tC, tD, tE, tF])
  refine wpAnyH_ready (rs := [5]) (by kernel_rfl) (by simp) ?_
  refine AllReadyH.cons rfl (fun K hK => ?_) AllReadyH.nil
  go_simp
  rw [HE.out]
  go_wp2_with fail
  refine (HA.out _ HB1.out.drew).mono ?_
  rintro e w2 ⟨rfl, hb2⟩
  have hbu := undrew hb2
  have BC2 : Hid (Bx w2 bc [.slice (some ⟨cb, co, none⟩) (m + 1) (cc + 1)]) := BC1.out.below hbu
  have BT2 : Hid (Bx w2 bt [.int .i64 t.id, .int .i64 t.st, .int .i64 t.snap, .int .i64 t.cs, .slice ra t.rs.length rc, .slice wa t.ws.length wc, .bool t.out, .string t.nm]) := BT1.out.below hbu
  have BX2 : Hid (Bx w2 w.heap.size [.int .i64 x.t.id, .int .i64 x.t.st, .int .i64 x.t.snap, .int .i64 x.t.cs, .slice x.ra x.t.rs.length x.rc, .slice x.wa x.t.ws.length x.wc, .bool x.t.out, .string x.t.nm]) := BX1.out.below hbu
  have BL2 : Hid (Bx w2 bl [.slice a n c]) := BL1.out.below hbu
  have fq2 : w2.cell? ⟨cb, co, none⟩ = some (.func (.func q) #[] #[]) := (hbu.cell (p := ⟨cb, co, none⟩) hcl1).trans fq1
  have hcl2 : cb < w2.heap.size := Nat.lt_of_lt_of_le hcl1 hbu.size
  have HB2 : Hid (Below w.heap.size w w2) := HB1.out.trans (hbu.mono HB1.out.size)
  go_wp2_with fail
  refine hK.out _ _ ⟨BC2.out.c0, fq2, BT2.out.c0, BT2.out.c1, BT2.out.c2, BT2.out.c3, BT2.out.c4, BT2.out.c5, BT2.out.c6, BT2.out.c7, BX2.out.c0, BX2.out.c1, BX2.out.c2, BX2.out.c3, BX2.out.c4, BX2.out.c5, BX2.out.c6, BX2.out.c7, BL2.out.c0⟩ (fun hHeld2 => ?_)
  clear hK K hb2 hbu
  (refine ti 6 ?_; simp only [Act.put, tA, tB, tC, tD, tE, tF])
  (refine tu 7 ?_; simp only [Act.put, tA, tB, tC, tD, tE, tF])
  (refine tu 8 ?_; simp only [Act.put, tA, tB, tC, tD, tE, tF])
  (refine tu 9 ?_; simp only [Act.put, tA, tB, tC, tD, tE, tF])
  (refine tu 10 ?_; simp only [Act.put, tA, tB, tC, tD, tE, tF])
  (refine tu 11 ?_; simp only [Act.put, tA, tB, tC, tD, tE, tF])
  (refine ti 12 ?_; simp only [Act.put, tA, tB, tC, tD, tE, tF])
  (refine ti 13 ?_; simp only [Act.put, tA, tB, tC, tD, tE, tF])
  refine wpAnyH_done (by kernel_rfl) ?_ _
  go_wp2
  go_ret
  exact ⟨rfl, HB2.out⟩
 ·rw [hv] at HA
  clear hv
  by_cases hz : cc = 0
  ·subst hz
   have hm0 : m = 0 := by omega
   subst hm0
   go_enter Tryz.func154, Tryz.ntmps154
   go_wp2
   refine wp_region_held_drew (S := fun w' => w'.cell? ⟨bc, 0, none⟩ = some (.slice (some ⟨cb, co, none⟩) (0 + 1) (0 + 1)) ∧ w'.cell? ⟨cb, co, none⟩ = some (.func (.func q) #[] #[]) ∧ w'.cell? ⟨bt, 0, none⟩ = some (.int .i64 t.id) ∧ w'.cell? ⟨bt, 1, none⟩ = some (.int .i64 t.st) ∧ w'.cell? ⟨bt, 2, none⟩ = some (.int .i64 t.snap) ∧ w'.cell? ⟨bt, 3, none⟩ = some (.int .i64 t.cs) ∧ w'.cell? ⟨bt, 4, none⟩ = some (.slice ra t.rs.length rc) ∧ w'.cell? ⟨bt, 5, none⟩ = some (.slice wa t.ws.length wc) ∧ w'.cell? ⟨bt, 6, none⟩ = some (.bool t.out) ∧ w'.cell? ⟨bt, 7, none⟩ = some (.string t.nm) ∧ w'.cell? ⟨w.heap.size, 0, none⟩ = some (.int .i64 x.t.id) ∧ w'.cell? ⟨w.heap.size, 1, none⟩ = some (.int .i64 x.t.st) ∧ w'.cell? ⟨w.heap.size, 2, none⟩ = some (.int .i64 x.t.snap) ∧ w'.cell? ⟨w.heap.size, 3, none⟩ = some (.int .i64 x.t.cs) ∧ w'.cell? ⟨w.heap.size, 4, none⟩ = some (.slice x.ra x.t.rs.length x.rc) ∧ w'.cell? ⟨w.heap.size, 5, none⟩ = some (.slice x.wa x.t.ws.length x.wc) ∧ w'.cell? ⟨w.heap.size, 6, none⟩ = some (.bool x.t.out) ∧ w'.cell? ⟨w.heap.size, 7, none⟩ = some (.string x.t.nm) ∧ w'.cell? ⟨bl, 0, none⟩ = some (.slice a n c)) (by kernel_rfl) ⟨BC1.out.c0, fq1, BT1.out.c0, BT1.out.c1, BT1.out.c2, BT1.out.c3, BT1.out.c4, BT1.out.c5, BT1.out.c6, BT1.out.c7, BX1.out.c0, BX1.out.c1, BX1.out.c2, BX1.out.c3, BX1.out.c4, BX1.out.c5, BX1.out.c6, BX1.out.c7, BL1.out.c0⟩ (fun hHeld => ?_)
   (refine ti 0 ?_; simp only [Act.put, tA, tB, tD, tE, tF])
   (refine ti 1 ?_; simp only [Act.put, tA, tB, tC, tD, tE, tF])
   (refine ti 2 ?_; simp only [Act.put, tA, tB, tC, tD, tE, tF])
   (refine ti 3 ?_; simp only [Act.put, tA, tB, tC, tD, tE, tF])
   (refine ti 4 ?_; simp only [Act.put, tA, tB, tC, tD, tE, tF])
   refine wpAnyH_ready (rs := [5]) (by kernel_rfl) (by simp) ?_
   refine AllReadyH.cons rfl (fun K hK => ?_) AllReadyH.nil
   go_simp
   rw [HE.out]
   go_wp2_with fail
   refine (HA.out _ HB1.out.drew).mono ?_
   rintro e w2 ⟨rfl, hb2⟩
   have hbu := undrew hb2
   have BC2 : Hid (Bx w2 bc [.slice (some ⟨cb, co, none⟩) (0 + 1) (0 + 1)]) := BC1.out.below hbu
   have BT2 : Hid (Bx w2 bt [.int .i64 t.id, .int .i64 t.st, .int .i64 t.snap, .int .i64 t.cs, .slice ra t.rs.length rc, .slice wa t.ws.length wc, .bool t.out, .string t.nm]) := BT1.out.below hbu
   have BX2 : Hid (Bx w2 w.heap.size [.int .i64 x.t.id, .int .i64 x.t.st, .int .i64 x.t.snap, .int .i64 x.t.cs, .slice x.ra x.t.rs.length x.rc, .slice x.wa x.t.ws.length x.wc, .bool x.t.out, .string x.t.nm]) := BX1.out.below hbu
   have BL2 : Hid (Bx w2 bl [.slice a n c]) := BL1.out.below hbu
   have fq2 : w2.cell? ⟨cb, co, none⟩ = some (.func (.func q) #[] #[]) := (hbu.cell (p := ⟨cb, co, none⟩) hcl1).trans fq1
   have hcl2 : cb < w2.heap.size := Nat.lt_of_lt_of_le hcl1 hbu.size
   have HB2 : Hid (Below w.heap.size w w2) := HB1.out.trans (hbu.mono HB1.out.size)
   go_wp2_with fail
   refine hK.out _ _ ⟨BC2.out.c0, fq2, BT2.out.c0, BT2.out.c1, BT2.out.c2, BT2.out.c3, BT2.out.c4, BT2.out.c5, BT2.out.c6, BT2.out.c7, BX2.out.c0, BX2.out.c1, BX2.out.c2, BX2.out.c3, BX2.out.c4, BX2.out.c5, BX2.out.c6, BX2.out.c7, BL2.out.c0⟩ (fun hHeld2 => ?_)
   clear hK K hb2 hbu
   (refine ti 6 ?_; simp only [Act.put, tA, tB, tC, tD, tE, tF])
   (refine ti 7 ?_; simp only [Act.put, tA, tB, tC, tD, tE, tF])
   (refine ti 8 ?_; simp only [Act.put, tA, tB, tC, tD, tE, tF])
   (refine ti 9 ?_; simp only [Act.put, tA, tB, tC, tD, tE, tF])
   (refine ti 10 ?_; simp only [Act.put, tA, tB, tC, tD, tE, tF])
   refine wpAnyH_ready (rs := [11]) (by kernel_rfl) (by simp) ?_
   refine AllReadyH.cons rfl (fun K hK => ?_) AllReadyH.nil
   go_simp
   go_wp2_with fail
   refine (HI.out _ _ _ (Nat.le_refl _) (by rw [List.length_eq_zero_iff.1 HM.out.symm]; exact GRow.nil _ _) HB2.out).mono ?_
   rintro e w3 ⟨rfl, hb3⟩
   have BC3 : Hid (Bx w3 bc [.slice (some ⟨cb, co, none⟩) (0 + 1) (0 + 1)]) := BC2.out.below hb3
   have BT3 : Hid (Bx w3 bt [.int .i64 t.id, .int .i64 t.st, .int .i64 t.snap, .int .i64 t.cs, .slice ra t.rs.length rc, .slice wa t.ws.length wc, .bool t.out, .string t.nm]) := BT2.out.below hb3
   have BX3 : Hid (Bx w3 w.heap.size [.int .i64 x.t.id, .int .i64 x.t.st, .int .i64 x.t.snap, .int .i64 x.t.cs, .slice x.ra x.t.rs.length x.rc, .slice x.wa x.t.ws.length x.wc, .bool x.t.out, .string x.t.nm]) := BX2.out.below hb3
   have BL3 : Hid (Bx w3 bl [.slice a n c]) := BL2.out.below hb3
   have fq3 : w3.cell? ⟨cb, co, none⟩ = some (.func (.func q) #[] #[]) := (hb3.cell (p := ⟨cb, co, none⟩) hcl2).trans fq2
   have hcl3 : cb < w3.heap.size := Nat.lt_of_lt_of_le hcl2 hb3.size
   have HB3 : Hid (Below w.heap.size w w3) := HB2.out.trans (hb3.mono HB2.out.size)
   go_wp2_with fail
   refine hK.out _ _ ⟨BC3.out.c0, fq3, BT3.out.c0, BT3.out.c1, BT3.out.c2, BT3.out.c3, BT3.out.c4, BT3.out.c5, BT3.out.c6, BT3.out.c7, BX3.out.c0, BX3.out.c1, BX3.out.c2, BX3.out.c3, BX3.out.c4, BX3.out.c5, BX3.out.c6, BX3.out.c7, BL3.out.c0⟩ (fun hHeld3 => ?_)
   clear hK K hb3
   (refine ti 12 ?_; simp only [Act.put, tA, tB, tC, tD, tE, tF])
   (refine ti 13 ?_; simp only [Act.put, tA, tB, tC, tD, tE, tF])
   refine wpAnyH_done (by kernel_rfl) ?_ _
   go_wp2
   go_ret
   exact ⟨rfl, HB3.out⟩
  ·have hz' : 0 < cc := by omega
   have hm1 : (1 : Int) ≤ (m : Int) + 1 := by omega
   go_enter Tryz.func154, Tryz.ntmps154
   go_wp2
   refine wp_region_held_drew (S := fun w' => w'.cell? ⟨bc, 0, none⟩ = some (.slice (some ⟨cb, co, none⟩) (m + 1) (cc + 1)) ∧ w'.cell? ⟨cb, co, none⟩ = some (.func (.func q) #[] #[]) ∧ w'.cell? ⟨bt, 0, none⟩ = some (.int .i64 t.id) ∧ w'.cell? ⟨bt, 1, none⟩ = some (.int .i64 t.st) ∧ w'.cell? ⟨bt, 2, none⟩ = some (.int .i64 t.snap) ∧ w'.cell? ⟨bt, 3, none⟩ = some (.int .i64 t.cs) ∧ w'.cell? ⟨bt, 4, none⟩ = some (.slice ra t.rs.length rc) ∧ w'.cell? ⟨bt, 5, none⟩ = some (.slice wa t.ws.length wc) ∧ w'.cell? ⟨bt, 6, none⟩ = some (.bool t.out) ∧ w'.cell? ⟨bt, 7, none⟩ = some (.string t.nm) ∧ w'.cell? ⟨w.heap.size, 0, none⟩ = some (.int .i64 x.t.id) ∧ w'.cell? ⟨w.heap.size, 1, none⟩ = some (.int .i64 x.t.st) ∧ w'.cell? ⟨w.heap.size, 2, none⟩ = some (.int .i64 x.t.snap) ∧ w'.cell? ⟨w.heap.size, 3, none⟩ = some (.int .i64 x.t.cs) ∧ w'.cell? ⟨w.heap.size, 4, none⟩ = some (.slice x.ra x.t.rs.length x.rc) ∧ w'.cell? ⟨w.heap.size, 5, none⟩ = some (.slice x.wa x.t.ws.length x.wc) ∧ w'.cell? ⟨w.heap.size, 6, none⟩ = some (.bool x.t.out) ∧ w'.cell? ⟨w.heap.size, 7, none⟩ = some (.string x.t.nm) ∧ w'.cell? ⟨bl, 0, none⟩ = some (.slice a n c)) (by kernel_rfl) ⟨BC1.out.c0, fq1, BT1.out.c0, BT1.out.c1, BT1.out.c2, BT1.out.c3, BT1.out.c4, BT1.out.c5, BT1.out.c6, BT1.out.c7, BX1.out.c0, BX1.out.c1, BX1.out.c2, BX1.out.c3, BX1.out.c4, BX1.out.c5, BX1.out.c6, BX1.out.c7, BL1.out.c0⟩ (fun hHeld => ?_)
   (refine ti 0 ?_; simp only [Act.put, tA, tB, tD, tE, tF])
   (refine ti 1 ?_; simp only [Act.put, tA, tB, tC, tD, tE, tF])
   (refine ti 2 ?_; simp only [Act.put, tA, tB, tC, tD, tE, tF])
   (refine ti 3 ?_; simp only [Act.put, tA, tB, tC, tD, tE, tF])
   (refine ti 4 ?_; simp only [Act.put, tA, tB, tC, tD, tE, tF])
   refine wpAnyH_ready (rs := [5]) (by kernel_rfl) (by simp) ?_
   refine AllReadyH.cons rfl (fun K hK => ?_) AllReadyH.nil
   go_simp
   rw [HE.out]
   go_wp2_with fail
   refine (HA.out _ HB1.out.drew).mono ?_
   rintro e w2 ⟨rfl, hb2⟩
   have hbu := undrew hb2
   have BC2 : Hid (Bx w2 bc [.slice (some ⟨cb, co, none⟩) (m + 1) (cc + 1)]) := BC1.out.below hbu
   have BT2 : Hid (Bx w2 bt [.int .i64 t.id, .int .i64 t.st, .int .i64 t.snap, .int .i64 t.cs, .slice ra t.rs.length rc, .slice wa t.ws.length wc, .bool t.out, .string t.nm]) := BT1.out.below hbu
   have BX2 : Hid (Bx w2 w.heap.size [.int .i64 x.t.id, .int .i64 x.t.st, .int .i64 x.t.snap, .int .i64 x.t.cs, .slice x.ra x.t.rs.length x.rc, .slice x.wa x.t.ws.length x.wc, .bool x.t.out, .string x.t.nm]) := BX1.out.below hbu
   have BL2 : Hid (Bx w2 bl [.slice a n c]) := BL1.out.below hbu
   have fq2 : w2.cell? ⟨cb, co, none⟩ = some (.func (.func q) #[] #[]) := (hbu.cell (p := ⟨cb, co, none⟩) hcl1).trans fq1
   have hcl2 : cb < w2.heap.size := Nat.lt_of_lt_of_le hcl1 hbu.size
   have HB2 : Hid (Below w.heap.size w w2) := HB1.out.trans (hbu.mono HB1.out.size)
   go_wp2_with fail
   refine hK.out _ _ ⟨BC2.out.c0, fq2, BT2.out.c0, BT2.out.c1, BT2.out.c2, BT2.out.c3, BT2.out.c4, BT2.out.c5, BT2.out.c6, BT2.out.c7, BX2.out.c0, BX2.out.c1, BX2.out.c2, BX2.out.c3, BX2.out.c4, BX2.out.c5, BX2.out.c6, BX2.out.c7, BL2.out.c0⟩ (fun hHeld2 => ?_)
   clear hK K hb2 hbu
   (refine ti 6 ?_; simp only [Act.put, tA, tB, tC, tD, tE, tF])
   (refine ti 7 ?_; simp only [Act.put, tA, tB, tC, tD, tE, tF])
   (refine ti 8 ?_; simp only [Act.put, tA, tB, tC, tD, tE, tF])
   (refine ti 9 ?_; simp only [Act.put, tA, tB, tC, tD, tE, tF])
   (refine ti 10 ?_; simp only [Act.put, tA, tB, tC, tD, tE, tF])
   refine wpAnyH_ready (rs := [11]) (by kernel_rfl) (by simp) ?_
   refine AllReadyH.cons rfl (fun K hK => ?_) AllReadyH.nil
   go_simp
   go_wp2_with fail
   refine (HI.out _ _ _ hmc (HQ.out.below HB2.out) HB2.out).mono ?_
   rintro e w3 ⟨rfl, hb3⟩
   have BC3 : Hid (Bx w3 bc [.slice (some ⟨cb, co, none⟩) (m + 1) (cc + 1)]) := BC2.out.below hb3
   have BT3 : Hid (Bx w3 bt [.int .i64 t.id, .int .i64 t.st, .int .i64 t.snap, .int .i64 t.cs, .slice ra t.rs.length rc, .slice wa t.ws.length wc, .bool t.out, .string t.nm]) := BT2.out.below hb3
   have BX3 : Hid (Bx w3 w.heap.size [.int .i64 x.t.id, .int .i64 x.t.st, .int .i64 x.t.snap, .int .i64 x.t.cs, .slice x.ra x.t.rs.length x.rc, .slice x.wa x.t.ws.length x.wc, .bool x.t.out, .string x.t.nm]) := BX2.out.below hb3
   have BL3 : Hid (Bx w3 bl [.slice a n c]) := BL2.out.below hb3
   have fq3 : w3.cell? ⟨cb, co, none⟩ = some (.func (.func q) #[] #[]) := (hb3.cell (p := ⟨cb, co, none⟩) hcl2).trans fq2
   have hcl3 : cb < w3.heap.size := Nat.lt_of_lt_of_le hcl2 hb3.size
   have HB3 : Hid (Below w.heap.size w w3) := HB2.out.trans (hb3.mono HB2.out.size)
   go_wp2_with fail
   refine hK.out _ _ ⟨BC3.out.c0, fq3, BT3.out.c0, BT3.out.c1, BT3.out.c2, BT3.out.c3, BT3.out.c4, BT3.out.c5, BT3.out.c6, BT3.out.c7, BX3.out.c0, BX3.out.c1, BX3.out.c2, BX3.out.c3, BX3.out.c4, BX3.out.c5, BX3.out.c6, BX3.out.c7, BL3.out.c0⟩ (fun hHeld3 => ?_)
   clear hK K hb3
   (refine ti 12 ?_; simp only [Act.put, tA, tB, tC, tD, tE, tF])
   (refine ti 13 ?_; simp only [Act.put, tA, tB, tC, tD, tE, tF])
   refine wpAnyH_done (by kernel_rfl) ?_ _
   go_wp2
   go_ret
   exact ⟨rfl, HB3.out⟩

set_option maxRecDepth 100000 in
set_option maxHeartbeats 2000000 in
theorem lead_nil (xs : List Ta) (a : Option Addr) (c n : Nat) : Leads [] [] xs a c n := by
 intro t ra wa rc wc ca cc m w hm hmc ft ht hp hq
 obtain rfl : m = 0 := hm
 clear hq ht hp ft
 go_enter Tryz.func132, Tryz.ntmps132
 go_wp2
 go_ret
 exact ⟨rfl, (((belowRefl w).alloc (Nat.le_refl _) _).alloc (by simp) _).alloc (by simp; omega) _⟩

set_option maxRecDepth 100000 in
set_option maxHeartbeats 2000000 in
theorem lead_cons (q : Nat) (Q : Tx → Tx → Bool) (hA : AskE q Q) (qs : List Nat) (Qs : List (Tx → Tx → Bool)) (xs : List Ta) (a : Option Addr) (c n : Nat) (hx : n = xs.length) (hn : n ≤ 100000000) (fx : LFit (txs xs)) (ih : Leads qs Qs xs a c n) :
  ∀ (t : Tx) (ra wa : Option Addr) (rc wc : Nat) (ca : Option Addr) (cc m : Nat) (w : World), m = qs.length → m ≤ cc → TFit t → TRow w t ra wa → TRows w a xs → GRow encF w ca (q :: qs) →
  Calls Tryz.prog 132 #[.agg #[.int .i64 t.id, .int .i64 t.st, .int .i64 t.snap, .int .i64 t.cs, .slice ra t.rs.length rc, .slice wa t.ws.length wc, .bool t.out, .string t.nm], .slice ca (m + 1) (cc + 1), .slice a n c] w fun e w' => e = .returned (.bool (leadB (Q :: Qs) t (txs xs))) ∧ Below w.heap.size w w' := by
 intro t ra wa rc wc ca cc m w hm hmc ft ht hp hq
 have hq0 := hq
 obtain ⟨cb, co, rfl, hcl, -⟩ := hq0 (by simp)
 have HB3 : Hid (Below w.heap.size w (((w.alloc (.cells #[.int .i64 t.id, .int .i64 t.st, .int .i64 t.snap, .int .i64 t.cs, .slice ra t.rs.length rc, .slice wa t.ws.length wc, .bool t.out, .string t.nm] 62)).alloc (.cells #[.slice (some ⟨cb, co, none⟩) (m + 1) (cc + 1)] 206)).alloc (.cells #[.slice a n c] 40))) := (((belowRefl w).alloc (Nat.le_refl _) _).alloc (by simp) _).alloc (by simp; omega) _
 have BT : Hid (Bx (((w.alloc (.cells #[.int .i64 t.id, .int .i64 t.st, .int .i64 t.snap, .int .i64 t.cs, .slice ra t.rs.length rc, .slice wa t.ws.length wc, .bool t.out, .string t.nm] 62)).alloc (.cells #[.slice (some ⟨cb, co, none⟩) (m + 1) (cc + 1)] 206)).alloc (.cells #[.slice a n c] 40)) w.heap.size [.int .i64 t.id, .int .i64 t.st, .int .i64 t.snap, .int .i64 t.cs, .slice ra t.rs.length rc, .slice wa t.ws.length wc, .bool t.out, .string t.nm]) := ((Bx.new w [.int .i64 t.id, .int .i64 t.st, .int .i64 t.snap, .int .i64 t.cs, .slice ra t.rs.length rc, .slice wa t.ws.length wc, .bool t.out, .string t.nm] 62).alloc _).alloc _
 have BC : Hid (Bx (((w.alloc (.cells #[.int .i64 t.id, .int .i64 t.st, .int .i64 t.snap, .int .i64 t.cs, .slice ra t.rs.length rc, .slice wa t.ws.length wc, .bool t.out, .string t.nm] 62)).alloc (.cells #[.slice (some ⟨cb, co, none⟩) (m + 1) (cc + 1)] 206)).alloc (.cells #[.slice a n c] 40)) (w.heap.size + 1) [.slice (some ⟨cb, co, none⟩) (m + 1) (cc + 1)]) := by have h := (Bx.new (w.alloc (.cells #[.int .i64 t.id, .int .i64 t.st, .int .i64 t.snap, .int .i64 t.cs, .slice ra t.rs.length rc, .slice wa t.ws.length wc, .bool t.out, .string t.nm] 62)) [.slice (some ⟨cb, co, none⟩) (m + 1) (cc + 1)] 206).alloc (.cells #[.slice a n c] 40); simpa [Hid] using h
 have BL : Hid (Bx (((w.alloc (.cells #[.int .i64 t.id, .int .i64 t.st, .int .i64 t.snap, .int .i64 t.cs, .slice ra t.rs.length rc, .slice wa t.ws.length wc, .bool t.out, .string t.nm] 62)).alloc (.cells #[.slice (some ⟨cb, co, none⟩) (m + 1) (cc + 1)] 206)).alloc (.cells #[.slice a n c] 40)) (w.heap.size + 1 + 1) [.slice a n c]) := by have h := Bx.new ((w.alloc (.cells #[.int .i64 t.id, .int .i64 t.st, .int .i64 t.snap, .int .i64 t.cs, .slice ra t.rs.length rc, .slice wa t.ws.length wc, .bool t.out, .string t.nm] 62)).alloc (.cells #[.slice (some ⟨cb, co, none⟩) (m + 1) (cc + 1)] 206)) [.slice a n c] 40; simpa [Hid] using h
 have H : Hid (Calls Tryz.prog 153 #[.slice a n c, .func (.func 154) #[] #[.pointer (some ⟨w.heap.size + 1, 0, none⟩), .pointer (some ⟨w.heap.size, 0, none⟩), .pointer (some ⟨w.heap.size + 1 + 1, 0, none⟩)]] (((w.alloc (.cells #[.int .i64 t.id, .int .i64 t.st, .int .i64 t.snap, .int .i64 t.cs, .slice ra t.rs.length rc, .slice wa t.ws.length wc, .bool t.out, .string t.nm] 62)).alloc (.cells #[.slice (some ⟨cb, co, none⟩) (m + 1) (cc + 1)] 206)).alloc (.cells #[.slice a n c] 40)) fun e w' => e = .returned (.bool ((txs xs).any (fun x => Q t x && leadB Qs x (txs xs)))) ∧ Below (((w.alloc (.cells #[.int .i64 t.id, .int .i64 t.st, .int .i64 t.snap, .int .i64 t.cs, .slice ra t.rs.length rc, .slice wa t.ws.length wc, .bool t.out, .string t.nm] 62)).alloc (.cells #[.slice (some ⟨cb, co, none⟩) (m + 1) (cc + 1)] 206)).alloc (.cells #[.slice a n c] 40)).heap.size (((w.alloc (.cells #[.int .i64 t.id, .int .i64 t.st, .int .i64 t.snap, .int .i64 t.cs, .slice ra t.rs.length rc, .slice wa t.ws.length wc, .bool t.out, .string t.nm] 62)).alloc (.cells #[.slice (some ⟨cb, co, none⟩) (m + 1) (cc + 1)] 206)).alloc (.cells #[.slice a n c] 40)) w') := by
  refine hasL xs a c n hx hn (fun x => Q t x && leadB Qs x (txs xs)) _ _ _ _ (hp.below HB3.out) (fun x hxm w1 h1 => ?_)
  have hb : Below w.heap.size w w1 := HB3.out.trans (h1.mono HB3.out.size)
  exact ask72 q Q hA qs Qs xs a c n ih t ra wa rc wc x _ _ _ cb co cc m hm hmc ft (fx.2 _ (List.mem_map.2 ⟨x, hxm, rfl⟩)) w1 (ht.below hb) (hp.each x hxm |>.below hb) (hp.below hb) (hq.below hb) (BC.out.below h1) (BT.out.below h1) (BL.out.below h1)
 have hb0 : Below w.heap.size w w := belowRefl w
 clear hq ht hp ft hm hA ih fx hx BT BC BL
 go_enter Tryz.func132, Tryz.ntmps132
 go_wp2_with fail
 refine H.out.mono ?_
 rintro e w1 ⟨rfl, hb1⟩
 have HB4 : Hid (Below w.heap.size w w1) := HB3.out.trans (hb1.mono HB3.out.size)
 clear hb1
 go_wp2
 go_ret
 exact ⟨rfl, HB4.out⟩

theorem lead_of (q : Nat) (Q : Tx → Tx → Bool) (hA : AskE q Q) (qs : List Nat) (Qs : List (Tx → Tx → Bool)) (xs : List Ta) (a : Option Addr) (c n : Nat) (hx : n = xs.length) (hn : n ≤ 100000000) (fx : LFit (txs xs)) (ih : Leads qs Qs xs a c n) : Leads (q :: qs) (Q :: Qs) xs a c n := by
 intro t ra wa rc wc ca cc m w hm hmc ft ht hp hq
 obtain ⟨m', rfl⟩ : ∃ m', m = m' + 1 := ⟨qs.length, hm⟩
 obtain ⟨cc', rfl⟩ : ∃ c', cc = c' + 1 := ⟨cc - 1, by omega⟩
 exact lead_cons q Q hA qs Qs xs a c n hx hn fx ih t ra wa rc wc ca cc' m' w (by simpa using hm) (by omega) ft ht hp hq
theorem ent50 (args : Array Value) (w : World) : (callFunc 133 args).run Tryz.prog w = .ok (.enter 133 args) w := by kernel_rfl
theorem ask50 : AskE 133 ahB := ⟨ent50, asks50⟩
theorem lead1 (Q : Tx → Tx → Bool) (l : List Tx) (t : Tx) : leadB [Q] t l = l.any (Q t) := by simp [leadB]

end Go.Proofs.YtmijppfppigjcaaGreat

namespace Go.Proofs.YtmijppfppigjcaaGreat
open Go.RowKit
open KM
attribute [local go_sem ↓] Go.wp_at_zero Go.wp_at_succ

def inS (ss : List Int) (x : Int) : Bool := ss.any fun s => decide (x = s)
def NoIn (ss : List Int) (x : Int) (k : Nat) : Prop := ∀ j (hj : j < ss.length), j < k → ¬ x = ss[j]
theorem inS_yes {ss : List Int} {x : Int} (k : Nat) (hk : k < ss.length) (h : x = ss[k]) : inS ss x = true := List.any_eq_true.2 ⟨_, List.getElem_mem hk, by simpa using h⟩
theorem inS_no {ss : List Int} {x : Int} {k : Nat} (h : NoIn ss x k) (hk : ss.length ≤ k) : inS ss x = false := by
 unfold inS
 rw [List.any_eq_false]
 intro s hs
 obtain ⟨j, hj, rfl⟩ := List.getElem_of_mem hs
 simpa using h j hj (by omega)
theorem noI_more {ss : List Int} {x : Int} {k : Nat} (h : NoIn ss x k) (hk : k < ss.length) (h2 : ¬ x = ss[k]) : NoIn ss x (k + 1) := fun j hj hjk => by
 by_cases e : j = k
 ·subst e; exact h2
 ·exact h j hj (by omega)

set_option maxRecDepth 100000 in
set_option maxHeartbeats 2000000 in
theorem idxI (ss : List Int) (a : Option Addr) (c : Nat) (x : Int) (hn : ss.length ≤ 100000000) (w : World) (hp : GRow encI w a ss) :
  Calls Tryz.prog 160 #[.slice a ss.length c, .int .i64 x] w fun e w' => (∃ r : Int, e = .returned (.int .i64 r) ∧ decide (0 ≤ r) = inS ss x) ∧ Below w.heap.size w w' := by
 have HP : Hid (GRow encI w a ss) := hp
 clear hp
 go_enter Tryz.func160, Tryz.ntmps160
 go_wp2
 go_loopw [5, 8] (fun _ t wr => ∃ k : Nat, k ≤ ss.length ∧ t = .int .i64 k ∧ Hid (NoIn ss x k) ∧ Hid (Below w.heap.size w wr)) (fun _ t _ => ss.length - (intOf t).toNat)
 case atStart => exact ⟨0, Nat.zero_le _, rfl, (fun j hj h => by omega), belowRefl w⟩
 case round =>
  obtain ⟨k, hk, rfl, HN, HB⟩ := hrel
  by_cases hlt : k < ss.length
  ·have hlt' : (k : Int) < (ss.length : Int) := by omega
   have h0 : (0 : Int) ≤ (k : Int) := by omega
   obtain ⟨b, off, rfl, hbl, hc⟩ := (HP.out.below HB.out) (by omega)
   have r0 := iat hc k hlt
   clear hc
   have HYes : Hid (x = ss[k] → inS ss x = true) := fun h => inS_yes k hlt h
   have HNo : Hid (¬ x = ss[k] → NoIn ss x (k + 1)) := fun h => noI_more HN.out hlt h
   obtain ⟨y, hy⟩ : ∃ y, y = ss[k] := ⟨_, rfl⟩
   rw [← hy] at r0 HYes HNo
   clear hy
   by_cases he : x = y
   ·have HY := hide (HYes.out he)
    have he' : decide (x = y) = true := by simp [he]
    have he'' : (x == y) = true := by simp [he]
    clear he
    go_wp2
    go_ret
    exact ⟨⟨_, rfl, by rw [HY.out]; simp⟩, HB.out⟩
   ·have HN2 := hide (HNo.out he)
    go_wp2
    go_roundw
    case rel => exact ⟨k + 1, by omega, by go_num, HN2, HB⟩
    case measure => simp [intOf]; omega
  ·have hd : ¬ (k : Int) < (ss.length : Int) := by omega
   have HR : Hid (inS ss x = false) := inS_no HN.out (by omega)
   go_wp2
   go_ret
   exact ⟨⟨_, rfl, by rw [HR.out]; decide⟩, HB.out⟩

set_option maxRecDepth 100000 in
set_option maxHeartbeats 2000000 in
theorem hasI (ss : List Int) (a : Option Addr) (c : Nat) (x : Int) (hn : ss.length ≤ 100000000) (w : World) (hp : GRow encI w a ss) :
  Calls Tryz.prog 155 #[.slice a ss.length c, .int .i64 x] w fun e w' => e = .returned (.bool (inS ss x)) ∧ Below w.heap.size w w' := by
 have H := hide (idxI ss a c x hn w hp)
 clear hp
 go_enter Tryz.func155, Tryz.ntmps155
 go_wp2_with fail
 refine H.out.mono ?_
 rintro e w1 ⟨⟨r, rfl, hr⟩, hb⟩
 have HR : Hid (decide (0 ≤ r) = inS ss x) := hr
 clear hr
 go_wp2
 go_ret
 exact ⟨ret_bool HR.out, hb⟩

theorem wpAppG8 {ops : Array Oper} {rest : List Oper} {o : Oper} {a : Act} {Q : Exit → Act → World → Prop} (T e size bytes : Nat) (z : Value) (hT : Tryz.prog.underlying T = some (.slice e))
  (hinfo : (Tryz.prog.info? e).map (fun i => (i.zero, i.size, i.bytes)) = some (some z, size, bytes)) (hzs : z.cells.size = size) (hsz : 0 < size) (hby : bytes ≤ 128)
  (hgd : o.guard = none) (s x : Operand) (ho : o.op = .call { callee := .builtin .append, args := #[s, x], argTypes := #[T, T] })
  {W : World} {base g n : Nat} {v : Value} {xs : List Value} (news : List Value)
  (hs : a.eval s = v) (hown : W.ownsRow base e size v n xs) (hx : a.eval x = .slice (some ⟨g, 0, none⟩) 1 1) (hblk : W.heap[g]? = some (.cells news.toArray e (0, 0)))
  (hl : news.length = size) (h1 : ∀ u ∈ news, u.oneCell' = true) (hlen : n ≤ 100000000) (hB : base ≤ W.heap.size)
  (h : ∀ g' cap w', w'.ownsRow base e size (.slice (some ⟨g', 0, none⟩) (n + 1) cap) (n + 1) (xs ++ news) → Below base W w' → wpList Tryz.prog ops Q rest (a.put o.dst (.slice (some ⟨g', 0, none⟩) (n + 1) cap)) w') :
  wpList Tryz.prog ops Q (o :: rest) a W := by
 obtain ⟨i0, hi, hz0, hz1, hz2⟩ := info_parts hinfo
 refine wpList_append_lies _ hgd s x T ho base e i0 z size bytes hT hi hz0 hz1 hz2 hzs hsz v n xs hs hown ⟨g, 0, none⟩ 1 1 news hx (by omega) ?_ h1 (by omega) (by unfold maxLen; omega) ?_ hB _ rfl ?_
 ·intro j u hj
  rw [Addr.add_lit, Nat.zero_add, World.cell?, hblk]
  simpa using hj
 ·calc (n + 1) * bytes ≤ 100000001 * 128 := Nat.mul_le_mul (by omega) hby
   _ ≤ _ := by omega
 ·intro g' cap w' h1 h2 _ _
  exact h g' cap w' h1 ((Below.refl _ _).grown h2 hB (fun j hj => (World.ownsRow.lt hown j hj).1))
theorem wpAppT {ops : Array Oper} {rest : List Oper} {o : Oper} {a : Act} {Q : Exit → Act → World → Prop} (hgd : o.guard = none) (s x : Operand) (ho : o.op = .call { callee := .builtin .append, args := #[s, x], argTypes := #[40, 40] })
  {W : World} {base : Nat} {v : Value} {xs : List Ta} (y : Ta) (hs : a.eval s = v) (hown : GOwn encT 62 W base v xs)
  (hx : a.eval x = .slice (some ⟨W.heap.size, 0, none⟩) 1 1) (hlen : xs.length ≤ 100000000) (hB : base ≤ W.heap.size)
  (h : ∀ v' w', GOwn encT 62 w' base v' (xs ++ [y]) → Below base W w' → wpList Tryz.prog ops Q rest (a.put o.dst v') w') :
  wpList Tryz.prog ops Q (o :: rest) a (W.alloc (.cells #[.int .i64 y.t.id, .int .i64 y.t.st, .int .i64 y.t.snap, .int .i64 y.t.cs, .slice y.ra y.t.rs.length y.rc, .slice y.wa y.t.ws.length y.wc, .bool y.t.out, .string y.t.nm] 62)) := by
 refine wpAppG8 40 62 8 104 _ Tryz.underlying40 Tryz.info62 rfl (by omega) (by omega) hgd s x ho (encT.enc y) hs (World.ownsRow.alloc hown _) hx (heap_alloc_new W _) rfl tone (by omega) (by simp; omega) ?_
 intro g' cap w' h1 h2
 refine h _ w' ?_ (((Below.refl _ _).alloc hB _).trans h2)
 have e : encT.cells (xs ++ [y]) = encT.cells xs ++ encT.enc y := by rw [encT.cells_app]; simp [Enc.cells]
 unfold GOwn
 rw [e, List.length_append]
 exact h1
def inSt (ss : List Int) (x : Ta) : Bool := inS ss x.t.st
theorem txs_filter (p : Tx → Bool) (xs : List Ta) : txs (xs.filter fun x => p x.t) = (txs xs).filter p := by
 simp [txs, List.filter_map, Function.comp_def]

set_option maxRecDepth 100000 in
set_option maxHeartbeats 2000000 in
theorem inSt49 (xs : List Ta) (a : Option Addr) (c n : Nat) (hx : n = xs.length) (hn : n ≤ 10000000) (ss : List Int) (sa : Option Addr) (sc : Nat) (hs : ss.length ≤ 100000000) (w : World) (hp : TRows w a xs) (hr : GRow encI w sa ss) :
  Calls Tryz.prog 134 #[.slice a n c, .slice sa ss.length sc] w fun e w' => ∃ (a1 : Option Addr) (c1 n1 : Nat), e = .returned (.slice a1 n1 c1) ∧ n1 = (xs.filter (inSt ss)).length ∧ GOwn encT 62 w' w.heap.size (.slice a1 n1 c1) (xs.filter (inSt ss)) ∧ Below w.heap.size w w' := by
 have HP : Hid (TRows w a xs) := hp
 have HR : Hid (GRow encI w sa ss) := hr
 have HX : Hid (n = xs.length) := hx
 clear hp hr hx
 go_enter Tryz.func134, Tryz.ntmps134
 go_wp2
 go_loopw [5, 10] (fun v t wr => ∃ k : Nat, k ≤ n ∧ t = .int .i64 k ∧ Hid (GOwn encT 62 wr w.heap.size v ((xs.take k).filter (inSt ss))) ∧ Hid (Below w.heap.size w wr)) (fun _ t _ => n - (intOf t).toNat)
 case atStart => exact ⟨0, Nat.zero_le _, rfl, GOwn.nil _ _, belowRefl w⟩
 case round =>
  obtain ⟨k, hk, rfl, HO, HB⟩ := hrel
  by_cases hlt : k < n
  ·have hlt' : (k : Int) < (n : Int) := by omega
   have h0 : (0 : Int) ≤ (k : Int) := by omega
   have hkx : k < xs.length := by rw [← HX.out]; exact hlt
   obtain ⟨b, o, rfl, hbl, hc, -⟩ := (HP.out.below HB.out).cls k hkx
   have HYes : Hid (inSt ss xs[k] = true → (xs.take (k + 1)).filter (inSt ss) = (xs.take k).filter (inSt ss) ++ [xs[k]]) := fun h => by show _ = _; rw [filter_take _ xs k hkx, h]; rfl
   have HNo : Hid (inSt ss xs[k] = false → (xs.take (k + 1)).filter (inSt ss) = (xs.take k).filter (inSt ss)) := fun h => by show _ = _; rw [filter_take _ xs k hkx, h]; simp
   have HLn : Hid (((xs.take k).filter (inSt ss)).length ≤ 100000000) := Nat.le_trans (List.length_filter_le _ _) (Nat.le_trans (List.length_take_le _ _) (by omega))
   obtain ⟨x, hx⟩ : ∃ x, x = xs[k] := ⟨_, rfl⟩
   rw [← hx] at hc HYes HNo
   clear hx hkx
   have r0 := hc.c0
   have r1 := hc.c1
   have r2 := hc.c2
   have r3 := hc.c3
   have r4 := hc.c4
   have r5 := hc.c5
   have r6 := hc.c6
   have r7 := hc.c7
   clear hc
   obtain ⟨F, hF⟩ : ∃ F, F = (xs.take k).filter (inSt ss) := ⟨_, rfl⟩
   rw [← hF] at HO HYes HNo HLn
   clear hF
   have hln := HLn.out
   have HB1 : Hid (Below w.heap.size w (wr.alloc (.cells #[.int .i64 x.t.id, .int .i64 x.t.st, .int .i64 x.t.snap, .int .i64 x.t.cs, .slice x.ra x.t.rs.length x.rc, .slice x.wa x.t.ws.length x.wc, .bool x.t.out, .string x.t.nm] 62))) := HB.out.alloc HB.out.size _
   have BX1 : Hid (Bx (wr.alloc (.cells #[.int .i64 x.t.id, .int .i64 x.t.st, .int .i64 x.t.snap, .int .i64 x.t.cs, .slice x.ra x.t.rs.length x.rc, .slice x.wa x.t.ws.length x.wc, .bool x.t.out, .string x.t.nm] 62)) wr.heap.size [.int .i64 x.t.id, .int .i64 x.t.st, .int .i64 x.t.snap, .int .i64 x.t.cs, .slice x.ra x.t.rs.length x.rc, .slice x.wa x.t.ws.length x.wc, .bool x.t.out, .string x.t.nm]) := Bx.new wr [.int .i64 x.t.id, .int .i64 x.t.st, .int .i64 x.t.snap, .int .i64 x.t.cs, .slice x.ra x.t.rs.length x.rc, .slice x.wa x.t.ws.length x.wc, .bool x.t.out, .string x.t.nm] 62
   have O1 := hide (HO.out.alloc (.cells #[.int .i64 x.t.id, .int .i64 x.t.st, .int .i64 x.t.snap, .int .i64 x.t.cs, .slice x.ra x.t.rs.length x.rc, .slice x.wa x.t.ws.length x.wc, .bool x.t.out, .string x.t.nm] 62))
   have H1 := hide (hasI ss sa sc x.t.st hs _ (HR.out.below HB1.out))
   cases hq : inSt ss x
   ·have hq' : inS ss x.t.st = false := hq
    rw [hq'] at H1
    have HE := hide (HNo.out hq)
    clear hq hq'
    go_wp2_with fail
    refine H1.out.mono ?_
    rintro e w2 ⟨rfl, hb2⟩
    have HB2 : Hid (Below w.heap.size w w2) := HB1.out.trans (hb2.mono HB1.out.size)
    have O2 := hide (O1.out.below hb2)
    clear hb2 r0 r1 r2 r3 r4 r5 r6 r7
    go_wp2
    go_roundw
    case rel => exact ⟨k + 1, by omega, by go_num, by rw [HE.out]; exact O2, HB2⟩
    case measure => simp [intOf]; omega
   ·have hq' : inS ss x.t.st = true := hq
    rw [hq'] at H1
    have HE := hide (HYes.out hq)
    clear hq hq'
    go_wp2_with fail
    refine H1.out.mono ?_
    rintro e w2 ⟨rfl, hb2⟩
    have HB2 : Hid (Below w.heap.size w w2) := HB1.out.trans (hb2.mono HB1.out.size)
    have O2 := hide (O1.out.below hb2)
    have BX2 : Hid (Bx w2 wr.heap.size [.int .i64 x.t.id, .int .i64 x.t.st, .int .i64 x.t.snap, .int .i64 x.t.cs, .slice x.ra x.t.rs.length x.rc, .slice x.wa x.t.ws.length x.wc, .bool x.t.out, .string x.t.nm]) := BX1.out.below hb2
    clear hb2 r0 r1 r2 r3 r4 r5 r6 r7
    have x0 := BX2.out.c0
    have x1 := BX2.out.c1
    have x2 := BX2.out.c2
    have x3 := BX2.out.c3
    have x4 := BX2.out.c4
    have x5 := BX2.out.c5
    have x6 := BX2.out.c6
    have x7 := BX2.out.c7
    have hsz := HB2.out.size
    go_wp2_with (at_builtin; refine wpAppT rfl _ _ rfl x rfl O2.out rfl hln hsz ?_)
    intro v' w3 ho3 hb3
    have O3 : Hid (GOwn encT 62 w3 w.heap.size v' (F ++ [x])) := ho3
    have HB3 : Hid (Below w.heap.size w w3) := HB2.out.trans hb3
    clear ho3 hb3 x0 x1 x2 x3 x4 x5 x6 x7
    go_wp2
    go_roundw
    case rel => exact ⟨k + 1, by omega, by go_num, by rw [HE.out]; exact O3, HB3⟩
    case measure => simp [intOf]; omega
  ·have hd : ¬ (k : Int) < (n : Int) := by omega
   have HE : Hid (xs.take k = xs) := List.take_of_length_le (by rw [← HX.out]; omega)
   rw [HE.out] at HO
   obtain ⟨a1, c1, rfl, _⟩ := HO.out.row
   obtain ⟨n1, hn1⟩ : ∃ n1, n1 = (xs.filter (inSt ss)).length := ⟨_, rfl⟩
   rw [← hn1] at HO ⊢
   have HN1 : Hid (n1 = (xs.filter (inSt ss)).length) := hn1
   clear hn1
   go_wp2
   go_ret
   exact ⟨a1, c1, n1, rfl, HN1.out, HO.out, HB.out⟩

end Go.Proofs.YtmijppfppigjcaaGreat

/- A way over a list for each question of a chain: leads. -/
import Derived.Test.YtjeicgibddfifaaPc18
namespace Go.Proofs.Ytjeicgibddfifaa
open Go.RowKit
open KM
attribute [local go_sem ↓] Go.wp_at_zero Go.wp_at_succ

def encF : Enc Nat := ⟨fun q => [.func (.func q) #[] #[]], 1, by decide, fun _ => rfl⟩
def leadB : List (Tx → Tx → Bool) → Tx → List Tx → Bool
 | [], _, _ => true
 | Q :: Qs, t, l => l.any fun x => Q t x && leadB Qs x l
structure AskE (q : Nat) (Q : Tx → Tx → Bool) : Prop where
 en : ∀ (args : Array Value) (w : World), (callFunc q args).run Try.prog w = .ok (.enter q args) w
 ask : Asks q Q
def Leads (qs : List Nat) (Qs : List (Tx → Tx → Bool)) (xs : List Ta) (a : Option Addr) (c n : Nat) : Prop := ∀ (t : Tx) (ra wa : Option Addr) (rc wc : Nat) (ca : Option Addr) (cc m : Nat) (w : World), m = qs.length → m ≤ cc → TFit t → TRow w t ra wa → TRows w a xs → GRow encF w ca qs →
  Calls Try.prog 72 #[.agg #[.int .i64 t.id, .int .i64 t.st, .int .i64 t.snap, .int .i64 t.cs, .slice ra t.rs.length rc, .slice wa t.ws.length wc, .bool t.out, .string t.nm], .slice ca m cc, .slice a n c] w fun e w' => e = .returned (.bool (leadB Qs t (txs xs))) ∧ Below w.heap.size w w'
theorem grow_tail {w : World} {b o : Nat} {q : Nat} {qs : List Nat} (h : GRow encF w (some ⟨b, o, none⟩) (q :: qs)) : GRow encF w (some ⟨b, o + 1, none⟩) qs := fun h0 => by
 obtain ⟨b', o', e, hl, hc⟩ := h (by simp)
 cases e
 refine ⟨b, o + 1, rfl, hl, fun j hj i hi => ?_⟩
 have := hc (j + 1) (by simpa using hj) i hi
 simp only [encF] at this ⊢
 rw [show o + 1 + j * 1 + i = o + (j + 1) * 1 + i by omega]
 exact this

set_option maxRecDepth 100000 in
set_option maxHeartbeats 2000000 in
theorem ask72 (q : Nat) (Q : Tx → Tx → Bool) (hA : AskE q Q) (qs : List Nat) (Qs : List (Tx → Tx → Bool)) (xs : List Ta) (a : Option Addr) (c n : Nat) (ih : Leads qs Qs xs a c n) (t : Tx) (ra wa : Option Addr) (rc wc : Nat) (x : Ta) (bc bt bl cb co cc m : Nat) (hm : m = qs.length) (hmc : m ≤ cc) (ft : TFit t) (fx : TFit x.t) (w : World) (hr : TRow w t ra wa) (hxr : TRow w x.t x.ra x.wa) (hp : TRows w a xs) (hq : GRow encF w (some ⟨cb, co, none⟩) (q :: qs)) (hbc : Bx w bc [.slice (some ⟨cb, co, none⟩) (m + 1) (cc + 1)]) (hbt : Bx w bt [.int .i64 t.id, .int .i64 t.st, .int .i64 t.snap, .int .i64 t.cs, .slice ra t.rs.length rc, .slice wa t.ws.length wc, .bool t.out, .string t.nm]) (hbl : Bx w bl [.slice a n c]) :
  Calls Try.prog 88 #[.agg #[.int .i64 x.t.id, .int .i64 x.t.st, .int .i64 x.t.snap, .int .i64 x.t.cs, .slice x.ra x.t.rs.length x.rc, .slice x.wa x.t.ws.length x.wc, .bool x.t.out, .string x.t.nm], .pointer (some ⟨bc, 0, none⟩), .pointer (some ⟨bt, 0, none⟩), .pointer (some ⟨bl, 0, none⟩)] w fun e w' => e = .returned (.bool (Q t x.t && leadB Qs x.t (txs xs))) ∧ Below w.heap.size w w' := by
 have HB1 : Hid (Below w.heap.size w (w.alloc (.cells #[.int .i64 x.t.id, .int .i64 x.t.st, .int .i64 x.t.snap, .int .i64 x.t.cs, .slice x.ra x.t.rs.length x.rc, .slice x.wa x.t.ws.length x.wc, .bool x.t.out, .string x.t.nm] 51))) := (belowRefl w).alloc (Nat.le_refl _) _
 have BC1 : Hid (Bx (w.alloc (.cells #[.int .i64 x.t.id, .int .i64 x.t.st, .int .i64 x.t.snap, .int .i64 x.t.cs, .slice x.ra x.t.rs.length x.rc, .slice x.wa x.t.ws.length x.wc, .bool x.t.out, .string x.t.nm] 51)) bc [.slice (some ⟨cb, co, none⟩) (m + 1) (cc + 1)]) := hbc.alloc _
 have BT1 : Hid (Bx (w.alloc (.cells #[.int .i64 x.t.id, .int .i64 x.t.st, .int .i64 x.t.snap, .int .i64 x.t.cs, .slice x.ra x.t.rs.length x.rc, .slice x.wa x.t.ws.length x.wc, .bool x.t.out, .string x.t.nm] 51)) bt [.int .i64 t.id, .int .i64 t.st, .int .i64 t.snap, .int .i64 t.cs, .slice ra t.rs.length rc, .slice wa t.ws.length wc, .bool t.out, .string t.nm]) := hbt.alloc _
 have BL1 : Hid (Bx (w.alloc (.cells #[.int .i64 x.t.id, .int .i64 x.t.st, .int .i64 x.t.snap, .int .i64 x.t.cs, .slice x.ra x.t.rs.length x.rc, .slice x.wa x.t.ws.length x.wc, .bool x.t.out, .string x.t.nm] 51)) bl [.slice a n c]) := hbl.alloc _
 have BX1 : Hid (Bx (w.alloc (.cells #[.int .i64 x.t.id, .int .i64 x.t.st, .int .i64 x.t.snap, .int .i64 x.t.cs, .slice x.ra x.t.rs.length x.rc, .slice x.wa x.t.ws.length x.wc, .bool x.t.out, .string x.t.nm] 51)) w.heap.size [.int .i64 x.t.id, .int .i64 x.t.st, .int .i64 x.t.snap, .int .i64 x.t.cs, .slice x.ra x.t.rs.length x.rc, .slice x.wa x.t.ws.length x.wc, .bool x.t.out, .string x.t.nm]) := Bx.new w [.int .i64 x.t.id, .int .i64 x.t.st, .int .i64 x.t.snap, .int .i64 x.t.cs, .slice x.ra x.t.rs.length x.rc, .slice x.wa x.t.ws.length x.wc, .bool x.t.out, .string x.t.nm] 51
 obtain ⟨hcl1, fq1⟩ : cb < (w.alloc (.cells #[.int .i64 x.t.id, .int .i64 x.t.st, .int .i64 x.t.snap, .int .i64 x.t.cs, .slice x.ra x.t.rs.length x.rc, .slice x.wa x.t.ws.length x.wc, .bool x.t.out, .string x.t.nm] 51)).heap.size ∧ (w.alloc (.cells #[.int .i64 x.t.id, .int .i64 x.t.st, .int .i64 x.t.snap, .int .i64 x.t.cs, .slice x.ra x.t.rs.length x.rc, .slice x.wa x.t.ws.length x.wc, .bool x.t.out, .string x.t.nm] 51)).cell? ⟨cb, co, none⟩ = some (.func (.func q) #[] #[]) := by
  obtain ⟨b', o', e, hl, hc⟩ := (hq.below HB1.out) (by simp)
  cases e
  exact ⟨hl, hc 0 (by simp) 0 (by decide)⟩
 have HQ : Hid (GRow encF w (some ⟨cb, co + 1, none⟩) qs) := grow_tail hq
 have HA : Hid (∀ w1, Below w.heap.size w w1 → _) := fun w1 h1 => hA.ask t x.t ra wa rc wc x.ra x.wa x.rc x.wc w1 ft fx (hr.below h1) (hxr.below h1)
 have HI : Hid (∀ (ca : Option Addr) (cc : Nat) w1, m ≤ cc → GRow encF w1 ca qs → Below w.heap.size w w1 → _) := fun ca cc w1 h3 h2 h1 => ih x.t x.ra x.wa x.rc x.wc ca cc m w1 hm h3 fx (hxr.below h1) (hp.below h1) h2
 have HM : Hid (m = qs.length) := hm
 have HE := hide hA.en
 clear hA ih hq hbc hbt hbl hr hxr hp ft fx hm
 cases hv : Q t x.t
 ·rw [hv] at HA
  clear hv
  go_enter Try.func88, Try.ntmps88
  go_wp2
  refine wp_region_held_drew (S := fun w' => w'.cell? ⟨bc, 0, none⟩ = some (.slice (some ⟨cb, co, none⟩) (m + 1) (cc + 1)) ∧ w'.cell? ⟨cb, co, none⟩ = some (.func (.func q) #[] #[]) ∧ w'.cell? ⟨bt, 0, none⟩ = some (.int .i64 t.id) ∧ w'.cell? ⟨bt, 1, none⟩ = some (.int .i64 t.st) ∧ w'.cell? ⟨bt, 2, none⟩ = some (.int .i64 t.snap) ∧ w'.cell? ⟨bt, 3, none⟩ = some (.int .i64 t.cs) ∧ w'.cell? ⟨bt, 4, none⟩ = some (.slice ra t.rs.length rc) ∧ w'.cell? ⟨bt, 5, none⟩ = some (.slice wa t.ws.length wc) ∧ w'.cell? ⟨bt, 6, none⟩ = some (.bool t.out) ∧ w'.cell? ⟨bt, 7, none⟩ = some (.string t.nm) ∧ w'.cell? ⟨w.heap.size, 0, none⟩ = some (.int .i64 x.t.id) ∧ w'.cell? ⟨w.heap.size, 1, none⟩ = some (.int .i64 x.t.st) ∧ w'.cell? ⟨w.heap.size, 2, none⟩ = some (.int .i64 x.t.snap) ∧ w'.cell? ⟨w.heap.size, 3, none⟩ = some (.int .i64 x.t.cs) ∧ w'.cell? ⟨w.heap.size, 4, none⟩ = some (.slice x.ra x.t.rs.length x.rc) ∧ w'.cell? ⟨w.heap.size, 5, none⟩ = some (.slice x.wa x.t.ws.length x.wc) ∧ w'.cell? ⟨w.heap.size, 6, none⟩ = some (.bool x.t.out) ∧ w'.cell? ⟨w.heap.size, 7, none⟩ = some (.string x.t.nm) ∧ w'.cell? ⟨bl, 0, none⟩ = some (.slice a n c)) (by kernel_rfl) ⟨BC1.out.c0, fq1, BT1.out.c0, BT1.out.c1, BT1.out.c2, BT1.out.c3, BT1.out.c4, BT1.out.c5, BT1.out.c6, BT1.out.c7, BX1.out.c0, BX1.out.c1, BX1.out.c2, BX1.out.c3, BX1.out.c4, BX1.out.c5, BX1.out.c6, BX1.out.c7, BL1.out.c0⟩ (fun hHeld => ?_)
  (refine wpAnyH_take (i := 0) (v := ?_) rfl (by kernel_rfl) (by kernel_rfl) (by kernel_rfl) (fun _ _ _ h => h) (Or.inl ⟨by rfl, ?_⟩) (by assumption) ?_; rotate_left; (focus (intro w hSw; (try dsimp only at hSw); go_simp; (try with_reducible rfl); done)); simp only [Act.put, List.getElem_toArray, List.getElem_cons_zero, List.setIfInBounds_toArray, List.set_cons_zero, List.set_cons_succ])
  (refine wpAnyH_take (i := 1) (v := ?_) rfl (by kernel_rfl) (by kernel_rfl) (by kernel_rfl) (fun _ _ _ h => h) (Or.inl ⟨by rfl, ?_⟩) (by assumption) ?_; rotate_left; (focus (intro w hSw; (try dsimp only at hSw); go_simp; (try with_reducible rfl); done)); simp only [Act.put, List.getElem_toArray, List.getElem_cons_zero, List.getElem_cons_succ, List.setIfInBounds_toArray, List.set_cons_zero, List.set_cons_succ])
  (refine wpAnyH_take (i := 2) (v := ?_) rfl (by kernel_rfl) (by kernel_rfl) (by kernel_rfl) (fun _ _ _ h => h) (Or.inl ⟨by rfl, ?_⟩) (by assumption) ?_; rotate_left; (focus (intro w hSw; (try dsimp only at hSw); go_simp; (try with_reducible rfl); done)); simp only [Act.put, List.getElem_toArray, List.getElem_cons_zero, List.getElem_cons_succ, List.setIfInBounds_toArray, List.set_cons_zero, List.set_cons_succ])
  (refine wpAnyH_take (i := 3) (v := ?_) rfl (by kernel_rfl) (by kernel_rfl) (by kernel_rfl) (fun _ _ _ h => h) (Or.inl ⟨by rfl, ?_⟩) (by assumption) ?_; rotate_left; (focus (intro w hSw; (try dsimp only at hSw); go_simp; (try with_reducible rfl); done)); simp only [Act.put, List.getElem_toArray, List.getElem_cons_zero, List.getElem_cons_succ, List.setIfInBounds_toArray, List.set_cons_zero, List.set_cons_succ])
  (refine wpAnyH_take (i := 4) (v := ?_) rfl (by kernel_rfl) (by kernel_rfl) (by kernel_rfl) (fun _ _ _ h => h) (Or.inl ⟨by rfl, ?_⟩) (by assumption) ?_; rotate_left; (focus (intro w hSw; (try dsimp only at hSw); go_simp; (try with_reducible rfl); done)); simp only [Act.put, List.getElem_toArray, List.getElem_cons_zero, List.getElem_cons_succ, List.setIfInBounds_toArray, List.set_cons_zero, List.set_cons_succ])
  refine wpAnyH_ready (rs := [5]) (by kernel_rfl) (by simp) ?_
  refine AllReadyH.cons rfl (fun K hK => ?_) AllReadyH.nil
  go_simp
  rw [HE.out]
  go_wp2_with fail
  refine (HA.out _ HB1.out.drew).mono ?_
  rintro e w2 ⟨rfl, hb2⟩
  have hbu := undrew hb2
  have BC2 : Hid (Bx w2 bc [.slice (some ⟨cb, co, none⟩) (m + 1) (cc + 1)]) := BC1.out.below hbu
  have BT2 : Hid (Bx w2 bt [.int .i64 t.id, .int .i64 t.st, .int .i64 t.snap, .int .i64 t.cs, .slice ra t.rs.length rc, .slice wa t.ws.length wc, .bool t.out, .string t.nm]) := BT1.out.below hbu
  have BX2 : Hid (Bx w2 w.heap.size [.int .i64 x.t.id, .int .i64 x.t.st, .int .i64 x.t.snap, .int .i64 x.t.cs, .slice x.ra x.t.rs.length x.rc, .slice x.wa x.t.ws.length x.wc, .bool x.t.out, .string x.t.nm]) := BX1.out.below hbu
  have BL2 : Hid (Bx w2 bl [.slice a n c]) := BL1.out.below hbu
  have fq2 : w2.cell? ⟨cb, co, none⟩ = some (.func (.func q) #[] #[]) := (hbu.cell (p := ⟨cb, co, none⟩) hcl1).trans fq1
  have hcl2 : cb < w2.heap.size := Nat.lt_of_lt_of_le hcl1 hbu.size
  have HB2 : Hid (Below w.heap.size w w2) := HB1.out.trans (hbu.mono HB1.out.size)
  go_wp2_with fail
  refine hK.out _ _ ⟨BC2.out.c0, fq2, BT2.out.c0, BT2.out.c1, BT2.out.c2, BT2.out.c3, BT2.out.c4, BT2.out.c5, BT2.out.c6, BT2.out.c7, BX2.out.c0, BX2.out.c1, BX2.out.c2, BX2.out.c3, BX2.out.c4, BX2.out.c5, BX2.out.c6, BX2.out.c7, BL2.out.c0⟩ (fun hHeld2 => ?_)
  clear hK K hb2 hbu
  (refine wpAnyH_take (i := 6) (v := ?_) rfl (by kernel_rfl) (by kernel_rfl) (by kernel_rfl) (fun _ _ _ h => h) (Or.inl ⟨by rfl, ?_⟩) (by assumption) ?_; rotate_left; (focus (intro w hSw; (try dsimp only at hSw); go_simp; (try with_reducible rfl); done)); simp only [Act.put, List.getElem_toArray, List.getElem_cons_zero, List.getElem_cons_succ, List.setIfInBounds_toArray, List.set_cons_zero, List.set_cons_succ])
  (refine wpAnyH_take (i := 7) (v := undef) rfl (by kernel_rfl) (by kernel_rfl) (by kernel_rfl) (fun _ _ _ h => h) (Or.inr ⟨by rfl, rfl⟩) (by assumption) ?_; simp only [Act.put, List.getElem_toArray, List.getElem_cons_zero, List.getElem_cons_succ, List.setIfInBounds_toArray, List.set_cons_zero, List.set_cons_succ])
  (refine wpAnyH_take (i := 8) (v := undef) rfl (by kernel_rfl) (by kernel_rfl) (by kernel_rfl) (fun _ _ _ h => h) (Or.inr ⟨by rfl, rfl⟩) (by assumption) ?_; simp only [Act.put, List.getElem_toArray, List.getElem_cons_zero, List.getElem_cons_succ, List.setIfInBounds_toArray, List.set_cons_zero, List.set_cons_succ])
  (refine wpAnyH_take (i := 9) (v := undef) rfl (by kernel_rfl) (by kernel_rfl) (by kernel_rfl) (fun _ _ _ h => h) (Or.inr ⟨by rfl, rfl⟩) (by assumption) ?_; simp only [Act.put, List.getElem_toArray, List.getElem_cons_zero, List.getElem_cons_succ, List.setIfInBounds_toArray, List.set_cons_zero, List.set_cons_succ])
  (refine wpAnyH_take (i := 10) (v := undef) rfl (by kernel_rfl) (by kernel_rfl) (by kernel_rfl) (fun _ _ _ h => h) (Or.inr ⟨by rfl, rfl⟩) (by assumption) ?_; simp only [Act.put, List.getElem_toArray, List.getElem_cons_zero, List.getElem_cons_succ, List.setIfInBounds_toArray, List.set_cons_zero, List.set_cons_succ])
  (refine wpAnyH_take (i := 11) (v := undef) rfl (by kernel_rfl) (by kernel_rfl) (by kernel_rfl) (fun _ _ _ h => h) (Or.inr ⟨by rfl, rfl⟩) (by assumption) ?_; simp only [Act.put, List.getElem_toArray, List.getElem_cons_zero, List.getElem_cons_succ, List.setIfInBounds_toArray, List.set_cons_zero, List.set_cons_succ])
  (refine wpAnyH_take (i := 12) (v := ?_) rfl (by kernel_rfl) (by kernel_rfl) (by kernel_rfl) (fun _ _ _ h => h) (Or.inl ⟨by rfl, ?_⟩) (by assumption) ?_; rotate_left; (focus (intro w hSw; (try dsimp only at hSw); go_simp; (try with_reducible rfl); done)); simp only [Act.put, List.getElem_toArray, List.getElem_cons_zero, List.getElem_cons_succ, List.setIfInBounds_toArray, List.set_cons_zero, List.set_cons_succ])
  (refine wpAnyH_take (i := 13) (v := ?_) rfl (by kernel_rfl) (by kernel_rfl) (by kernel_rfl) (fun _ _ _ h => h) (Or.inl ⟨by rfl, ?_⟩) (by assumption) ?_; rotate_left; (focus (intro w hSw; (try dsimp only at hSw); go_simp; (try with_reducible rfl); done)); simp only [Act.put, List.getElem_toArray, List.getElem_cons_zero, List.getElem_cons_succ, List.setIfInBounds_toArray, List.set_cons_zero, List.set_cons_succ])
  refine wpAnyH_done (by kernel_rfl) ?_ _
  go_wp2
  go_ret
  exact ⟨rfl, HB2.out⟩
 ·rw [hv] at HA
  clear hv
  by_cases hz : cc = 0
  ·subst hz
   have hm0 : m = 0 := by omega
   subst hm0
   go_enter Try.func88, Try.ntmps88
   go_wp2
   refine wp_region_held_drew (S := fun w' => w'.cell? ⟨bc, 0, none⟩ = some (.slice (some ⟨cb, co, none⟩) (0 + 1) (0 + 1)) ∧ w'.cell? ⟨cb, co, none⟩ = some (.func (.func q) #[] #[]) ∧ w'.cell? ⟨bt, 0, none⟩ = some (.int .i64 t.id) ∧ w'.cell? ⟨bt, 1, none⟩ = some (.int .i64 t.st) ∧ w'.cell? ⟨bt, 2, none⟩ = some (.int .i64 t.snap) ∧ w'.cell? ⟨bt, 3, none⟩ = some (.int .i64 t.cs) ∧ w'.cell? ⟨bt, 4, none⟩ = some (.slice ra t.rs.length rc) ∧ w'.cell? ⟨bt, 5, none⟩ = some (.slice wa t.ws.length wc) ∧ w'.cell? ⟨bt, 6, none⟩ = some (.bool t.out) ∧ w'.cell? ⟨bt, 7, none⟩ = some (.string t.nm) ∧ w'.cell? ⟨w.heap.size, 0, none⟩ = some (.int .i64 x.t.id) ∧ w'.cell? ⟨w.heap.size, 1, none⟩ = some (.int .i64 x.t.st) ∧ w'.cell? ⟨w.heap.size, 2, none⟩ = some (.int .i64 x.t.snap) ∧ w'.cell? ⟨w.heap.size, 3, none⟩ = some (.int .i64 x.t.cs) ∧ w'.cell? ⟨w.heap.size, 4, none⟩ = some (.slice x.ra x.t.rs.length x.rc) ∧ w'.cell? ⟨w.heap.size, 5, none⟩ = some (.slice x.wa x.t.ws.length x.wc) ∧ w'.cell? ⟨w.heap.size, 6, none⟩ = some (.bool x.t.out) ∧ w'.cell? ⟨w.heap.size, 7, none⟩ = some (.string x.t.nm) ∧ w'.cell? ⟨bl, 0, none⟩ = some (.slice a n c)) (by kernel_rfl) ⟨BC1.out.c0, fq1, BT1.out.c0, BT1.out.c1, BT1.out.c2, BT1.out.c3, BT1.out.c4, BT1.out.c5, BT1.out.c6, BT1.out.c7, BX1.out.c0, BX1.out.c1, BX1.out.c2, BX1.out.c3, BX1.out.c4, BX1.out.c5, BX1.out.c6, BX1.out.c7, BL1.out.c0⟩ (fun hHeld => ?_)
   (refine wpAnyH_take (i := 0) (v := ?_) rfl (by kernel_rfl) (by kernel_rfl) (by kernel_rfl) (fun _ _ _ h => h) (Or.inl ⟨by rfl, ?_⟩) (by assumption) ?_; rotate_left; (focus (intro w hSw; (try dsimp only at hSw); go_simp; (try with_reducible rfl); done)); simp only [Act.put, List.getElem_toArray, List.getElem_cons_zero, List.setIfInBounds_toArray, List.set_cons_zero, List.set_cons_succ])
   (refine wpAnyH_take (i := 1) (v := ?_) rfl (by kernel_rfl) (by kernel_rfl) (by kernel_rfl) (fun _ _ _ h => h) (Or.inl ⟨by rfl, ?_⟩) (by assumption) ?_; rotate_left; (focus (intro w hSw; (try dsimp only at hSw); go_simp; (try with_reducible rfl); done)); simp only [Act.put, List.getElem_toArray, List.getElem_cons_zero, List.getElem_cons_succ, List.setIfInBounds_toArray, List.set_cons_zero, List.set_cons_succ])
   (refine wpAnyH_take (i := 2) (v := ?_) rfl (by kernel_rfl) (by kernel_rfl) (by kernel_rfl) (fun _ _ _ h => h) (Or.inl ⟨by rfl, ?_⟩) (by assumption) ?_; rotate_left; (focus (intro w hSw; (try dsimp only at hSw); go_simp; (try with_reducible rfl); done)); simp only [Act.put, List.getElem_toArray, List.getElem_cons_zero, List.getElem_cons_succ, List.setIfInBounds_toArray, List.set_cons_zero, List.set_cons_succ])
   (refine wpAnyH_take (i := 3) (v := ?_) rfl (by kernel_rfl) (by kernel_rfl) (by kernel_rfl) (fun _ _ _ h => h) (Or.inl ⟨by rfl, ?_⟩) (by assumption) ?_; rotate_left; (focus (intro w hSw; (try dsimp only at hSw); go_simp; (try with_reducible rfl); done)); simp only [Act.put, List.getElem_toArray, List.getElem_cons_zero, List.getElem_cons_succ, List.setIfInBounds_toArray, List.set_cons_zero, List.set_cons_succ])
   (refine wpAnyH_take (i := 4) (v := ?_) rfl (by kernel_rfl) (by kernel_rfl) (by kernel_rfl) (fun _ _ _ h => h) (Or.inl ⟨by rfl, ?_⟩) (by assumption) ?_; rotate_left; (focus (intro w hSw; (try dsimp only at hSw); go_simp; (try with_reducible rfl); done)); simp only [Act.put, List.getElem_toArray, List.getElem_cons_zero, List.getElem_cons_succ, List.setIfInBounds_toArray, List.set_cons_zero, List.set_cons_succ])
   refine wpAnyH_ready (rs := [5]) (by kernel_rfl) (by simp) ?_
   refine AllReadyH.cons rfl (fun K hK => ?_) AllReadyH.nil
   go_simp
   rw [HE.out]
   go_wp2_with fail
   refine (HA.out _ HB1.out.drew).mono ?_
   rintro e w2 ⟨rfl, hb2⟩
   have hbu := undrew hb2
   have BC2 : Hid (Bx w2 bc [.slice (some ⟨cb, co, none⟩) (0 + 1) (0 + 1)]) := BC1.out.below hbu
   have BT2 : Hid (Bx w2 bt [.int .i64 t.id, .int .i64 t.st, .int .i64 t.snap, .int .i64 t.cs, .slice ra t.rs.length rc, .slice wa t.ws.length wc, .bool t.out, .string t.nm]) := BT1.out.below hbu
   have BX2 : Hid (Bx w2 w.heap.size [.int .i64 x.t.id, .int .i64 x.t.st, .int .i64 x.t.snap, .int .i64 x.t.cs, .slice x.ra x.t.rs.length x.rc, .slice x.wa x.t.ws.length x.wc, .bool x.t.out, .string x.t.nm]) := BX1.out.below hbu
   have BL2 : Hid (Bx w2 bl [.slice a n c]) := BL1.out.below hbu
   have fq2 : w2.cell? ⟨cb, co, none⟩ = some (.func (.func q) #[] #[]) := (hbu.cell (p := ⟨cb, co, none⟩) hcl1).trans fq1
   have hcl2 : cb < w2.heap.size := Nat.lt_of_lt_of_le hcl1 hbu.size
   have HB2 : Hid (Below w.heap.size w w2) := HB1.out.trans (hbu.mono HB1.out.size)
   go_wp2_with fail
   refine hK.out _ _ ⟨BC2.out.c0, fq2, BT2.out.c0, BT2.out.c1, BT2.out.c2, BT2.out.c3, BT2.out.c4, BT2.out.c5, BT2.out.c6, BT2.out.c7, BX2.out.c0, BX2.out.c1, BX2.out.c2, BX2.out.c3, BX2.out.c4, BX2.out.c5, BX2.out.c6, BX2.out.c7, BL2.out.c0⟩ (fun hHeld2 => ?_)
   clear hK K hb2 hbu
   (refine wpAnyH_take (i := 6) (v := ?_) rfl (by kernel_rfl) (by kernel_rfl) (by kernel_rfl) (fun _ _ _ h => h) (Or.inl ⟨by rfl, ?_⟩) (by assumption) ?_; rotate_left; (focus (intro w hSw; (try dsimp only at hSw); go_simp; (try with_reducible rfl); done)); simp only [Act.put, List.getElem_toArray, List.getElem_cons_zero, List.getElem_cons_succ, List.setIfInBounds_toArray, List.set_cons_zero, List.set_cons_succ])
   (refine wpAnyH_take (i := 7) (v := ?_) rfl (by kernel_rfl) (by kernel_rfl) (by kernel_rfl) (fun _ _ _ h => h) (Or.inl ⟨by rfl, ?_⟩) (by assumption) ?_; rotate_left; (focus (intro w hSw; (try dsimp only at hSw); go_simp; (try with_reducible rfl); done)); simp only [Act.put, List.getElem_toArray, List.getElem_cons_zero, List.getElem_cons_succ, List.setIfInBounds_toArray, List.set_cons_zero, List.set_cons_succ])
   (refine wpAnyH_take (i := 8) (v := ?_) rfl (by kernel_rfl) (by kernel_rfl) (by kernel_rfl) (fun _ _ _ h => h) (Or.inl ⟨by rfl, ?_⟩) (by assumption) ?_; rotate_left; (focus (intro w hSw; (try dsimp only at hSw); go_simp; (try with_reducible rfl); done)); simp only [Act.put, List.getElem_toArray, List.getElem_cons_zero, List.getElem_cons_succ, List.setIfInBounds_toArray, List.set_cons_zero, List.set_cons_succ])
   (refine wpAnyH_take (i := 9) (v := ?_) rfl (by kernel_rfl) (by kernel_rfl) (by kernel_rfl) (fun _ _ _ h => h) (Or.inl ⟨by rfl, ?_⟩) (by assumption) ?_; rotate_left; (focus (intro w hSw; (try dsimp only at hSw); go_simp; (try with_reducible rfl); done)); simp only [Act.put, List.getElem_toArray, List.getElem_cons_zero, List.getElem_cons_succ, List.setIfInBounds_toArray, List.set_cons_zero, List.set_cons_succ])
   (refine wpAnyH_take (i := 10) (v := ?_) rfl (by kernel_rfl) (by kernel_rfl) (by kernel_rfl) (fun _ _ _ h => h) (Or.inl ⟨by rfl, ?_⟩) (by assumption) ?_; rotate_left; (focus (intro w hSw; (try dsimp only at hSw); go_simp; (try with_reducible rfl); done)); simp only [Act.put, List.getElem_toArray, List.getElem_cons_zero, List.getElem_cons_succ, List.setIfInBounds_toArray, List.set_cons_zero, List.set_cons_succ])
   refine wpAnyH_ready (rs := [11]) (by kernel_rfl) (by simp) ?_
   refine AllReadyH.cons rfl (fun K hK => ?_) AllReadyH.nil
   go_simp
   go_wp2_with fail
   refine (HI.out _ _ _ (Nat.le_refl _) (by rw [List.length_eq_zero_iff.1 HM.out.symm]; exact GRow.nil _ _) HB2.out).mono ?_
   rintro e w3 ⟨rfl, hb3⟩
   have BC3 : Hid (Bx w3 bc [.slice (some ⟨cb, co, none⟩) (0 + 1) (0 + 1)]) := BC2.out.below hb3
   have BT3 : Hid (Bx w3 bt [.int .i64 t.id, .int .i64 t.st, .int .i64 t.snap, .int .i64 t.cs, .slice ra t.rs.length rc, .slice wa t.ws.length wc, .bool t.out, .string t.nm]) := BT2.out.below hb3
   have BX3 : Hid (Bx w3 w.heap.size [.int .i64 x.t.id, .int .i64 x.t.st, .int .i64 x.t.snap, .int .i64 x.t.cs, .slice x.ra x.t.rs.length x.rc, .slice x.wa x.t.ws.length x.wc, .bool x.t.out, .string x.t.nm]) := BX2.out.below hb3
   have BL3 : Hid (Bx w3 bl [.slice a n c]) := BL2.out.below hb3
   have fq3 : w3.cell? ⟨cb, co, none⟩ = some (.func (.func q) #[] #[]) := (hb3.cell (p := ⟨cb, co, none⟩) hcl2).trans fq2
   have hcl3 : cb < w3.heap.size := Nat.lt_of_lt_of_le hcl2 hb3.size
   have HB3 : Hid (Below w.heap.size w w3) := HB2.out.trans (hb3.mono HB2.out.size)
   go_wp2_with fail
   refine hK.out _ _ ⟨BC3.out.c0, fq3, BT3.out.c0, BT3.out.c1, BT3.out.c2, BT3.out.c3, BT3.out.c4, BT3.out.c5, BT3.out.c6, BT3.out.c7, BX3.out.c0, BX3.out.c1, BX3.out.c2, BX3.out.c3, BX3.out.c4, BX3.out.c5, BX3.out.c6, BX3.out.c7, BL3.out.c0⟩ (fun hHeld3 => ?_)
   clear hK K hb3
   (refine wpAnyH_take (i := 12) (v := ?_) rfl (by kernel_rfl) (by kernel_rfl) (by kernel_rfl) (fun _ _ _ h => h) (Or.inl ⟨by rfl, ?_⟩) (by assumption) ?_; rotate_left; (focus (intro w hSw; (try dsimp only at hSw); go_simp; (try with_reducible rfl); done)); simp only [Act.put, List.getElem_toArray, List.getElem_cons_zero, List.getElem_cons_succ, List.setIfInBounds_toArray, List.set_cons_zero, List.set_cons_succ])
   (refine wpAnyH_take (i := 13) (v := ?_) rfl (by kernel_rfl) (by kernel_rfl) (by kernel_rfl) (fun _ _ _ h => h) (Or.inl ⟨by rfl, ?_⟩) (by assumption) ?_; rotate_left; (focus (intro w hSw; (try dsimp only at hSw); go_simp; (try with_reducible rfl); done)); simp only [Act.put, List.getElem_toArray, List.getElem_cons_zero, List.getElem_cons_succ, List.setIfInBounds_toArray, List.set_cons_zero, List.set_cons_succ])
   refine wpAnyH_done (by kernel_rfl) ?_ _
   go_wp2
   go_ret
   exact ⟨rfl, HB3.out⟩
  ·have hz' : 0 < cc := by omega
   have hm1 : (1 : Int) ≤ (m : Int) + 1 := by omega
   go_enter Try.func88, Try.ntmps88
   go_wp2
   refine wp_region_held_drew (S := fun w' => w'.cell? ⟨bc, 0, none⟩ = some (.slice (some ⟨cb, co, none⟩) (m + 1) (cc + 1)) ∧ w'.cell? ⟨cb, co, none⟩ = some (.func (.func q) #[] #[]) ∧ w'.cell? ⟨bt, 0, none⟩ = some (.int .i64 t.id) ∧ w'.cell? ⟨bt, 1, none⟩ = some (.int .i64 t.st) ∧ w'.cell? ⟨bt, 2, none⟩ = some (.int .i64 t.snap) ∧ w'.cell? ⟨bt, 3, none⟩ = some (.int .i64 t.cs) ∧ w'.cell? ⟨bt, 4, none⟩ = some (.slice ra t.rs.length rc) ∧ w'.cell? ⟨bt, 5, none⟩ = some (.slice wa t.ws.length wc) ∧ w'.cell? ⟨bt, 6, none⟩ = some (.bool t.out) ∧ w'.cell? ⟨bt, 7, none⟩ = some (.string t.nm) ∧ w'.cell? ⟨w.heap.size, 0, none⟩ = some (.int .i64 x.t.id) ∧ w'.cell? ⟨w.heap.size, 1, none⟩ = some (.int .i64 x.t.st) ∧ w'.cell? ⟨w.heap.size, 2, none⟩ = some (.int .i64 x.t.snap) ∧ w'.cell? ⟨w.heap.size, 3, none⟩ = some (.int .i64 x.t.cs) ∧ w'.cell? ⟨w.heap.size, 4, none⟩ = some (.slice x.ra x.t.rs.length x.rc) ∧ w'.cell? ⟨w.heap.size, 5, none⟩ = some (.slice x.wa x.t.ws.length x.wc) ∧ w'.cell? ⟨w.heap.size, 6, none⟩ = some (.bool x.t.out) ∧ w'.cell? ⟨w.heap.size, 7, none⟩ = some (.string x.t.nm) ∧ w'.cell? ⟨bl, 0, none⟩ = some (.slice a n c)) (by kernel_rfl) ⟨BC1.out.c0, fq1, BT1.out.c0, BT1.out.c1, BT1.out.c2, BT1.out.c3, BT1.out.c4, BT1.out.c5, BT1.out.c6, BT1.out.c7, BX1.out.c0, BX1.out.c1, BX1.out.c2, BX1.out.c3, BX1.out.c4, BX1.out.c5, BX1.out.c6, BX1.out.c7, BL1.out.c0⟩ (fun hHeld => ?_)
   (refine wpAnyH_take (i := 0) (v := ?_) rfl (by kernel_rfl) (by kernel_rfl) (by kernel_rfl) (fun _ _ _ h => h) (Or.inl ⟨by rfl, ?_⟩) (by assumption) ?_; rotate_left; (focus (intro w hSw; (try dsimp only at hSw); go_simp; (try with_reducible rfl); done)); simp only [Act.put, List.getElem_toArray, List.getElem_cons_zero, List.setIfInBounds_toArray, List.set_cons_zero, List.set_cons_succ])
   (refine wpAnyH_take (i := 1) (v := ?_) rfl (by kernel_rfl) (by kernel_rfl) (by kernel_rfl) (fun _ _ _ h => h) (Or.inl ⟨by rfl, ?_⟩) (by assumption) ?_; rotate_left; (focus (intro w hSw; (try dsimp only at hSw); go_simp; (try with_reducible rfl); done)); simp only [Act.put, List.getElem_toArray, List.getElem_cons_zero, List.getElem_cons_succ, List.setIfInBounds_toArray, List.set_cons_zero, List.set_cons_succ])
   (refine wpAnyH_take (i := 2) (v := ?_) rfl (by kernel_rfl) (by kernel_rfl) (by kernel_rfl) (fun _ _ _ h => h) (Or.inl ⟨by rfl, ?_⟩) (by assumption) ?_; rotate_left; (focus (intro w hSw; (try dsimp only at hSw); go_simp; (try with_reducible rfl); done)); simp only [Act.put, List.getElem_toArray, List.getElem_cons_zero, List.getElem_cons_succ, List.setIfInBounds_toArray, List.set_cons_zero, List.set_cons_succ])
   (refine wpAnyH_take (i := 3) (v := ?_) rfl (by kernel_rfl) (by kernel_rfl) (by kernel_rfl) (fun _ _ _ h => h) (Or.inl ⟨by rfl, ?_⟩) (by assumption) ?_; rotate_left; (focus (intro w hSw; (try dsimp only at hSw); go_simp; (try with_reducible rfl); done)); simp only [Act.put, List.getElem_toArray, List.getElem_cons_zero, List.getElem_cons_succ, List.setIfInBounds_toArray, List.set_cons_zero, List.set_cons_succ])
   (refine wpAnyH_take (i := 4) (v := ?_) rfl (by kernel_rfl) (by kernel_rfl) (by kernel_rfl) (fun _ _ _ h => h) (Or.inl ⟨by rfl, ?_⟩) (by assumption) ?_; rotate_left; (focus (intro w hSw; (try dsimp only at hSw); go_simp; (try with_reducible rfl); done)); simp only [Act.put, List.getElem_toArray, List.getElem_cons_zero, List.getElem_cons_succ, List.setIfInBounds_toArray, List.set_cons_zero, List.set_cons_succ])
   refine wpAnyH_ready (rs := [5]) (by kernel_rfl) (by simp) ?_
   refine AllReadyH.cons rfl (fun K hK => ?_) AllReadyH.nil
   go_simp
   rw [HE.out]
   go_wp2_with fail
   refine (HA.out _ HB1.out.drew).mono ?_
   rintro e w2 ⟨rfl, hb2⟩
   have hbu := undrew hb2
   have BC2 : Hid (Bx w2 bc [.slice (some ⟨cb, co, none⟩) (m + 1) (cc + 1)]) := BC1.out.below hbu
   have BT2 : Hid (Bx w2 bt [.int .i64 t.id, .int .i64 t.st, .int .i64 t.snap, .int .i64 t.cs, .slice ra t.rs.length rc, .slice wa t.ws.length wc, .bool t.out, .string t.nm]) := BT1.out.below hbu
   have BX2 : Hid (Bx w2 w.heap.size [.int .i64 x.t.id, .int .i64 x.t.st, .int .i64 x.t.snap, .int .i64 x.t.cs, .slice x.ra x.t.rs.length x.rc, .slice x.wa x.t.ws.length x.wc, .bool x.t.out, .string x.t.nm]) := BX1.out.below hbu
   have BL2 : Hid (Bx w2 bl [.slice a n c]) := BL1.out.below hbu
   have fq2 : w2.cell? ⟨cb, co, none⟩ = some (.func (.func q) #[] #[]) := (hbu.cell (p := ⟨cb, co, none⟩) hcl1).trans fq1
   have hcl2 : cb < w2.heap.size := Nat.lt_of_lt_of_le hcl1 hbu.size
   have HB2 : Hid (Below w.heap.size w w2) := HB1.out.trans (hbu.mono HB1.out.size)
   go_wp2_with fail
   refine hK.out _ _ ⟨BC2.out.c0, fq2, BT2.out.c0, BT2.out.c1, BT2.out.c2, BT2.out.c3, BT2.out.c4, BT2.out.c5, BT2.out.c6, BT2.out.c7, BX2.out.c0, BX2.out.c1, BX2.out.c2, BX2.out.c3, BX2.out.c4, BX2.out.c5, BX2.out.c6, BX2.out.c7, BL2.out.c0⟩ (fun hHeld2 => ?_)
   clear hK K hb2 hbu
   (refine wpAnyH_take (i := 6) (v := ?_) rfl (by kernel_rfl) (by kernel_rfl) (by kernel_rfl) (fun _ _ _ h => h) (Or.inl ⟨by rfl, ?_⟩) (by assumption) ?_; rotate_left; (focus (intro w hSw; (try dsimp only at hSw); go_simp; (try with_reducible rfl); done)); simp only [Act.put, List.getElem_toArray, List.getElem_cons_zero, List.getElem_cons_succ, List.setIfInBounds_toArray, List.set_cons_zero, List.set_cons_succ])
   (refine wpAnyH_take (i := 7) (v := ?_) rfl (by kernel_rfl) (by kernel_rfl) (by kernel_rfl) (fun _ _ _ h => h) (Or.inl ⟨by rfl, ?_⟩) (by assumption) ?_; rotate_left; (focus (intro w hSw; (try dsimp only at hSw); go_simp; (try with_reducible rfl); done)); simp only [Act.put, List.getElem_toArray, List.getElem_cons_zero, List.getElem_cons_succ, List.setIfInBounds_toArray, List.set_cons_zero, List.set_cons_succ])
   (refine wpAnyH_take (i := 8) (v := ?_) rfl (by kernel_rfl) (by kernel_rfl) (by kernel_rfl) (fun _ _ _ h => h) (Or.inl ⟨by rfl, ?_⟩) (by assumption) ?_; rotate_left; (focus (intro w hSw; (try dsimp only at hSw); go_simp; (try with_reducible rfl); done)); simp only [Act.put, List.getElem_toArray, List.getElem_cons_zero, List.getElem_cons_succ, List.setIfInBounds_toArray, List.set_cons_zero, List.set_cons_succ])
   (refine wpAnyH_take (i := 9) (v := ?_) rfl (by kernel_rfl) (by kernel_rfl) (by kernel_rfl) (fun _ _ _ h => h) (Or.inl ⟨by rfl, ?_⟩) (by assumption) ?_; rotate_left; (focus (intro w hSw; (try dsimp only at hSw); go_simp; (try with_reducible rfl); done)); simp only [Act.put, List.getElem_toArray, List.getElem_cons_zero, List.getElem_cons_succ, List.setIfInBounds_toArray, List.set_cons_zero, List.set_cons_succ])
   (refine wpAnyH_take (i := 10) (v := ?_) rfl (by kernel_rfl) (by kernel_rfl) (by kernel_rfl) (fun _ _ _ h => h) (Or.inl ⟨by rfl, ?_⟩) (by assumption) ?_; rotate_left; (focus (intro w hSw; (try dsimp only at hSw); go_simp; (try with_reducible rfl); done)); simp only [Act.put, List.getElem_toArray, List.getElem_cons_zero, List.getElem_cons_succ, List.setIfInBounds_toArray, List.set_cons_zero, List.set_cons_succ])
   refine wpAnyH_ready (rs := [11]) (by kernel_rfl) (by simp) ?_
   refine AllReadyH.cons rfl (fun K hK => ?_) AllReadyH.nil
   go_simp
   go_wp2_with fail
   refine (HI.out _ _ _ hmc (HQ.out.below HB2.out) HB2.out).mono ?_
   rintro e w3 ⟨rfl, hb3⟩
   have BC3 : Hid (Bx w3 bc [.slice (some ⟨cb, co, none⟩) (m + 1) (cc + 1)]) := BC2.out.below hb3
   have BT3 : Hid (Bx w3 bt [.int .i64 t.id, .int .i64 t.st, .int .i64 t.snap, .int .i64 t.cs, .slice ra t.rs.length rc, .slice wa t.ws.length wc, .bool t.out, .string t.nm]) := BT2.out.below hb3
   have BX3 : Hid (Bx w3 w.heap.size [.int .i64 x.t.id, .int .i64 x.t.st, .int .i64 x.t.snap, .int .i64 x.t.cs, .slice x.ra x.t.rs.length x.rc, .slice x.wa x.t.ws.length x.wc, .bool x.t.out, .string x.t.nm]) := BX2.out.below hb3
   have BL3 : Hid (Bx w3 bl [.slice a n c]) := BL2.out.below hb3
   have fq3 : w3.cell? ⟨cb, co, none⟩ = some (.func (.func q) #[] #[]) := (hb3.cell (p := ⟨cb, co, none⟩) hcl2).trans fq2
   have hcl3 : cb < w3.heap.size := Nat.lt_of_lt_of_le hcl2 hb3.size
   have HB3 : Hid (Below w.heap.size w w3) := HB2.out.trans (hb3.mono HB2.out.size)
   go_wp2_with fail
   refine hK.out _ _ ⟨BC3.out.c0, fq3, BT3.out.c0, BT3.out.c1, BT3.out.c2, BT3.out.c3, BT3.out.c4, BT3.out.c5, BT3.out.c6, BT3.out.c7, BX3.out.c0, BX3.out.c1, BX3.out.c2, BX3.out.c3, BX3.out.c4, BX3.out.c5, BX3.out.c6, BX3.out.c7, BL3.out.c0⟩ (fun hHeld3 => ?_)
   clear hK K hb3
   (refine wpAnyH_take (i := 12) (v := ?_) rfl (by kernel_rfl) (by kernel_rfl) (by kernel_rfl) (fun _ _ _ h => h) (Or.inl ⟨by rfl, ?_⟩) (by assumption) ?_; rotate_left; (focus (intro w hSw; (try dsimp only at hSw); go_simp; (try with_reducible rfl); done)); simp only [Act.put, List.getElem_toArray, List.getElem_cons_zero, List.getElem_cons_succ, List.setIfInBounds_toArray, List.set_cons_zero, List.set_cons_succ])
   (refine wpAnyH_take (i := 13) (v := ?_) rfl (by kernel_rfl) (by kernel_rfl) (by kernel_rfl) (fun _ _ _ h => h) (Or.inl ⟨by rfl, ?_⟩) (by assumption) ?_; rotate_left; (focus (intro w hSw; (try dsimp only at hSw); go_simp; (try with_reducible rfl); done)); simp only [Act.put, List.getElem_toArray, List.getElem_cons_zero, List.getElem_cons_succ, List.setIfInBounds_toArray, List.set_cons_zero, List.set_cons_succ])
   refine wpAnyH_done (by kernel_rfl) ?_ _
   go_wp2
   go_ret
   exact ⟨rfl, HB3.out⟩

set_option maxRecDepth 100000 in
set_option maxHeartbeats 2000000 in
theorem lead_nil (xs : List Ta) (a : Option Addr) (c n : Nat) : Leads [] [] xs a c n := by
 intro t ra wa rc wc ca cc m w hm hmc ft ht hp hq
 obtain rfl : m = 0 := hm
 clear hq ht hp ft
 go_enter Try.func72, Try.ntmps72
 go_wp2
 go_ret
 exact ⟨rfl, (((belowRefl w).alloc (Nat.le_refl _) _).alloc (by simp) _).alloc (by simp; omega) _⟩

set_option maxRecDepth 100000 in
set_option maxHeartbeats 2000000 in
theorem lead_cons (q : Nat) (Q : Tx → Tx → Bool) (hA : AskE q Q) (qs : List Nat) (Qs : List (Tx → Tx → Bool)) (xs : List Ta) (a : Option Addr) (c n : Nat) (hx : n = xs.length) (hn : n ≤ 100000000) (fx : LFw (txs xs)) (ih : Leads qs Qs xs a c n) :
  ∀ (t : Tx) (ra wa : Option Addr) (rc wc : Nat) (ca : Option Addr) (cc m : Nat) (w : World), m = qs.length → m ≤ cc → TFit t → TRow w t ra wa → TRows w a xs → GRow encF w ca (q :: qs) →
  Calls Try.prog 72 #[.agg #[.int .i64 t.id, .int .i64 t.st, .int .i64 t.snap, .int .i64 t.cs, .slice ra t.rs.length rc, .slice wa t.ws.length wc, .bool t.out, .string t.nm], .slice ca (m + 1) (cc + 1), .slice a n c] w fun e w' => e = .returned (.bool (leadB (Q :: Qs) t (txs xs))) ∧ Below w.heap.size w w' := by
 intro t ra wa rc wc ca cc m w hm hmc ft ht hp hq
 have hq0 := hq
 obtain ⟨cb, co, rfl, hcl, -⟩ := hq0 (by simp)
 have HB3 : Hid (Below w.heap.size w (((w.alloc (.cells #[.int .i64 t.id, .int .i64 t.st, .int .i64 t.snap, .int .i64 t.cs, .slice ra t.rs.length rc, .slice wa t.ws.length wc, .bool t.out, .string t.nm] 51)).alloc (.cells #[.slice (some ⟨cb, co, none⟩) (m + 1) (cc + 1)] 103)).alloc (.cells #[.slice a n c] 23))) := (((belowRefl w).alloc (Nat.le_refl _) _).alloc (by simp) _).alloc (by simp; omega) _
 have BT : Hid (Bx (((w.alloc (.cells #[.int .i64 t.id, .int .i64 t.st, .int .i64 t.snap, .int .i64 t.cs, .slice ra t.rs.length rc, .slice wa t.ws.length wc, .bool t.out, .string t.nm] 51)).alloc (.cells #[.slice (some ⟨cb, co, none⟩) (m + 1) (cc + 1)] 103)).alloc (.cells #[.slice a n c] 23)) w.heap.size [.int .i64 t.id, .int .i64 t.st, .int .i64 t.snap, .int .i64 t.cs, .slice ra t.rs.length rc, .slice wa t.ws.length wc, .bool t.out, .string t.nm]) := ((Bx.new w [.int .i64 t.id, .int .i64 t.st, .int .i64 t.snap, .int .i64 t.cs, .slice ra t.rs.length rc, .slice wa t.ws.length wc, .bool t.out, .string t.nm] 51).alloc _).alloc _
 have BC : Hid (Bx (((w.alloc (.cells #[.int .i64 t.id, .int .i64 t.st, .int .i64 t.snap, .int .i64 t.cs, .slice ra t.rs.length rc, .slice wa t.ws.length wc, .bool t.out, .string t.nm] 51)).alloc (.cells #[.slice (some ⟨cb, co, none⟩) (m + 1) (cc + 1)] 103)).alloc (.cells #[.slice a n c] 23)) (w.heap.size + 1) [.slice (some ⟨cb, co, none⟩) (m + 1) (cc + 1)]) := by have h := (Bx.new (w.alloc (.cells #[.int .i64 t.id, .int .i64 t.st, .int .i64 t.snap, .int .i64 t.cs, .slice ra t.rs.length rc, .slice wa t.ws.length wc, .bool t.out, .string t.nm] 51)) [.slice (some ⟨cb, co, none⟩) (m + 1) (cc + 1)] 103).alloc (.cells #[.slice a n c] 23); simpa [Hid] using h
 have BL : Hid (Bx (((w.alloc (.cells #[.int .i64 t.id, .int .i64 t.st, .int .i64 t.snap, .int .i64 t.cs, .slice ra t.rs.length rc, .slice wa t.ws.length wc, .bool t.out, .string t.nm] 51)).alloc (.cells #[.slice (some ⟨cb, co, none⟩) (m + 1) (cc + 1)] 103)).alloc (.cells #[.slice a n c] 23)) (w.heap.size + 1 + 1) [.slice a n c]) := by have h := Bx.new ((w.alloc (.cells #[.int .i64 t.id, .int .i64 t.st, .int .i64 t.snap, .int .i64 t.cs, .slice ra t.rs.length rc, .slice wa t.ws.length wc, .bool t.out, .string t.nm] 51)).alloc (.cells #[.slice (some ⟨cb, co, none⟩) (m + 1) (cc + 1)] 103)) [.slice a n c] 23; simpa [Hid] using h
 have H : Hid (Calls Try.prog 87 #[.slice a n c, .func (.func 88) #[] #[.pointer (some ⟨w.heap.size + 1, 0, none⟩), .pointer (some ⟨w.heap.size, 0, none⟩), .pointer (some ⟨w.heap.size + 1 + 1, 0, none⟩)]] (((w.alloc (.cells #[.int .i64 t.id, .int .i64 t.st, .int .i64 t.snap, .int .i64 t.cs, .slice ra t.rs.length rc, .slice wa t.ws.length wc, .bool t.out, .string t.nm] 51)).alloc (.cells #[.slice (some ⟨cb, co, none⟩) (m + 1) (cc + 1)] 103)).alloc (.cells #[.slice a n c] 23)) fun e w' => e = .returned (.bool ((txs xs).any (fun x => Q t x && leadB Qs x (txs xs)))) ∧ Below (((w.alloc (.cells #[.int .i64 t.id, .int .i64 t.st, .int .i64 t.snap, .int .i64 t.cs, .slice ra t.rs.length rc, .slice wa t.ws.length wc, .bool t.out, .string t.nm] 51)).alloc (.cells #[.slice (some ⟨cb, co, none⟩) (m + 1) (cc + 1)] 103)).alloc (.cells #[.slice a n c] 23)).heap.size (((w.alloc (.cells #[.int .i64 t.id, .int .i64 t.st, .int .i64 t.snap, .int .i64 t.cs, .slice ra t.rs.length rc, .slice wa t.ws.length wc, .bool t.out, .string t.nm] 51)).alloc (.cells #[.slice (some ⟨cb, co, none⟩) (m + 1) (cc + 1)] 103)).alloc (.cells #[.slice a n c] 23)) w') := by
  refine hasL xs a c n hx hn (fun x => Q t x && leadB Qs x (txs xs)) _ _ _ _ (hp.below HB3.out) (fun x hxm w1 h1 => ?_)
  have hb : Below w.heap.size w w1 := HB3.out.trans (h1.mono HB3.out.size)
  exact ask72 q Q hA qs Qs xs a c n ih t ra wa rc wc x _ _ _ cb co cc m hm hmc ft (fx.2 _ (List.mem_map.2 ⟨x, hxm, rfl⟩)) w1 (ht.below hb) (hp.each x hxm |>.below hb) (hp.below hb) (hq.below hb) (BC.out.below h1) (BT.out.below h1) (BL.out.below h1)
 have hb0 : Below w.heap.size w w := belowRefl w
 clear hq ht hp ft hm hA ih fx hx BT BC BL
 go_enter Try.func72, Try.ntmps72
 go_wp2_with fail
 refine H.out.mono ?_
 rintro e w1 ⟨rfl, hb1⟩
 have HB4 : Hid (Below w.heap.size w w1) := HB3.out.trans (hb1.mono HB3.out.size)
 clear hb1
 go_wp2
 go_ret
 exact ⟨rfl, HB4.out⟩

theorem lead_of (q : Nat) (Q : Tx → Tx → Bool) (hA : AskE q Q) (qs : List Nat) (Qs : List (Tx → Tx → Bool)) (xs : List Ta) (a : Option Addr) (c n : Nat) (hx : n = xs.length) (hn : n ≤ 100000000) (fx : LFw (txs xs)) (ih : Leads qs Qs xs a c n) : Leads (q :: qs) (Q :: Qs) xs a c n := by
 intro t ra wa rc wc ca cc m w hm hmc ft ht hp hq
 obtain ⟨m', rfl⟩ : ∃ m', m = m' + 1 := ⟨qs.length, hm⟩
 obtain ⟨cc', rfl⟩ : ∃ c', cc = c' + 1 := ⟨cc - 1, by omega⟩
 exact lead_cons q Q hA qs Qs xs a c n hx hn fx ih t ra wa rc wc ca cc' m' w (by simpa using hm) (by omega) ft ht hp hq
theorem ent48 (args : Array Value) (w : World) : (callFunc 79 args).run Try.prog w = .ok (.enter 79 args) w := by kernel_rfl
theorem ent50 (args : Array Value) (w : World) : (callFunc 91 args).run Try.prog w = .ok (.enter 91 args) w := by kernel_rfl
theorem ent52 (args : Array Value) (w : World) : (callFunc 76 args).run Try.prog w = .ok (.enter 76 args) w := by kernel_rfl
theorem ent55 (args : Array Value) (w : World) : (callFunc 73 args).run Try.prog w = .ok (.enter 73 args) w := by kernel_rfl
theorem ask48 : AskE 79 isBehind := ⟨ent48, asks48⟩
theorem ask50 : AskE 91 ahB := ⟨ent50, asks50⟩
theorem ask52 : AskE 76 isOut := ⟨ent52, asks52⟩
theorem ask55 : AskE 73 blkB := ⟨ent55, asks55⟩
theorem lead1 (Q : Tx → Tx → Bool) (l : List Tx) (t : Tx) : leadB [Q] t l = l.any (Q t) := by simp [leadB]

end Go.Proofs.Ytjeicgibddfifaa

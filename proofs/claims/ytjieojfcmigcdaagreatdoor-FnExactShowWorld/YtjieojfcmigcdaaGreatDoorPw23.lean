/- report.store, and what ShowStore of both sides tells. -/
import Derived.Test.YtjieojfcmigcdaaGreatDoorPw01
import Derived.Test.YtjieojfcmigcdaaGreatDoorPw15
import Derived.Test.YtjieojfcmigcdaaGreatDoorPw22
import Derived.Deep.RegionHeld3
namespace Go.Proofs.YtjieojfcmigcdaaGreatDoor
open Go.RowKit
open KM
open VM
attribute [local go_sem ↓] Go.wp_at_zero Go.wp_at_succ

def stL (s : St) : List UInt8 := storeL s.e.b.vs s.e.b.cs s.e.os.length s.e.b.qs.length
abbrev stV (s : St) : Array Value := #[.slice s.e.b.va s.e.b.vs.length s.e.b.vc, .slice s.e.b.pa s.e.b.ps.length s.e.b.pc, .slice s.e.b.qa s.e.b.qs.length s.e.b.qc, .int .i64 s.e.b.cs, .int .i64 s.e.b.nx, .slice s.e.oa s.e.os.length s.e.oc, .slice s.d.sa s.d.ss.length s.d.sc, .slice s.d.pa s.d.ps.length s.d.pc]
abbrev baV (s : St) : Array Value := #[.slice s.e.b.va s.e.b.vs.length s.e.b.vc, .slice s.e.b.pa s.e.b.ps.length s.e.b.pc, .slice s.e.b.qa s.e.b.qs.length s.e.b.qc, .int .i64 s.e.b.cs, .int .i64 s.e.b.nx]
theorem hb_keep {w w' : World} {k : Nat} {o : Obj} (hb : Below w.heap.size w w') (h : w.heap[k]? = some o) : w'.heap[k]? = some o :=
 (hb.block k (Array.getElem?_eq_some_iff.1 h).1).trans h
theorem stHeld {w' : World} {q : Nat} {s : St} (h1 : w'.heap[q]? = some (.cells (stV s) 46 (0, 0))) (h2 : w'.heap[q + 1]? = some (.cells (baV s) 39 (0, 0))) : w'.cell? ⟨q + 1, 3, none⟩ = some (.int .i64 s.e.b.cs) ∧ w'.cell? ⟨q, 5, none⟩ = some (.slice s.e.oa s.e.os.length s.e.oc) ∧ w'.cell? ⟨q + 1, 2, none⟩ = some (.slice s.e.b.qa s.e.b.qs.length s.e.b.qc) ∧ w'.cell? ⟨q + 1, 0, none⟩ = some (.slice s.e.b.va s.e.b.vs.length s.e.b.vc) :=
 ⟨by rw [Lib.cell_of_heap h2]; rfl, by rw [Lib.cell_of_heap h1]; rfl, by rw [Lib.cell_of_heap h2]; rfl, by rw [Lib.cell_of_heap h2]; rfl⟩
theorem ilen (k : Nat) (h : k ≤ 1048576) (w : World) (ht : Tab w) : Calls Tryz.prog 48 #[.int .i64 (k : Int)] w fun e w' => e = .returned (.string (numT (k : Int))) ∧ Below w.heap.size w w' := by
 rw [numT_nn (by omega)]
 exact idec (k : Int) (by omega) (by omega) w ht
theorem slen (k : Nat) (h : k ≤ 1048576) (w : World) : Calls Tryz.prog 18 #[.int .i64 (k : Int)] w fun e w' => e = .returned (.string (numT (k : Int))) ∧ Below w.heap.size w w' := by
 rw [numT_nn (by omega)]
 exact sdec (k : Int) (by omega) (by omega) w
theorem rowStr (w : World) (ws : List ByteArray) : ∀ (j : Nat) x, ws[j]? = some x → (w.alloc (.cells (ws.map Value.string).toArray 9)).cell? ⟨w.heap.size, 0 + j, none⟩ = some (.string x) := by
 intro j x h
 rw [World.cell?_alloc_mark w _ 9 (0, 0) (0 + j), Nat.zero_add]
 simp [h]
theorem own_rk {B b e lo : Nat} {w w' : World} {v : Value} {xs : List Rg} (h : GOwn encR e w lo v xs) (hlt : b < lo) (he : e ≠ 5) (k : RK B b w w') : GOwn encR e w' lo v xs := by
 obtain ⟨h1, h2⟩ := h
 refine ⟨h1, ?_⟩
 rcases h2 with h2 | ⟨g, cap, cur, hv, hg, hh, r⟩
 ·exact Or.inl h2
 ·exact Or.inr ⟨g, cap, cur, hv, hg, k.heap hh (by omega) he, r⟩

set_option maxHeartbeats 4000000 in
set_option maxRecDepth 100000 in
theorem istore (B b : Nat) (l : List UInt8) (s : St) (hf : StFit s) (hc1 : -9223372036854775808 ≤ s.e.b.cs) (hc2 : s.e.b.cs ≤ 9223372036854775807) (w : World) (h : Lib.IsBuilder 76 5 B b (bv l) w) (hBw : B ≤ w.heap.size) (hl : l.length ≤ 5000000000000) (hp : ∀ w', RK B b w w' → GRow encV w' s.e.b.va s.e.b.vs) (ht : ∀ w', RK B b w w' → Tab w') :
  Calls Tryz.prog 24 #[.pointer (some ⟨b, 0, none⟩), .agg (stV s)] w fun e w' => e = .returned (.tuple #[]) ∧ Lib.IsBuilder 76 5 B b (bv (l ++ stL s)) w' ∧ RK B b w w' := by
 have hbs : b < w.heap.size := by
  rcases h with h | h
  ·exact h.lt
  ·exact h.lt
 have HBS := hide hbs
 have HF := hide hf
 have HC := hide (And.intro hc1 hc2)
 have HL := hide hl
 have hol : s.e.os.length ≤ 1048576 := hf.e.ol
 have hql : s.e.b.qs.length ≤ 1048576 := hf.e.b.ql
 have HOL := hide hol
 have HQL := hide hql
 have HV : Hid (∀ w', RK B b w w' → GRow encV w' s.e.b.va s.e.b.vs) := hp
 have HT : Hid (∀ w', RK B b w w' → Tab w') := ht
 have HI0 : Hid (Lib.IsBuilder 76 5 B b (bv l) ((w.alloc (.cells (stV s) 46)).alloc (.cells (baV s) 39))) := rBelow h (((belowRefl w).alloc (Nat.le_refl _) _).alloc (by simp) _)
 have HB0 : Hid (RK B b w ((w.alloc (.cells (stV s) 46)).alloc (.cells (baV s) 39))) := (RK.refl B b w).step hBw (((belowRefl w).alloc (Nat.le_refl _) _).alloc (by simp) _)
 have HZ0 : Hid (B ≤ ((w.alloc (.cells (stV s) 46)).alloc (.cells (baV s) 39)).heap.size) := by show _ ≤ _; simp; omega
 have HS0 : Hid (((w.alloc (.cells (stV s) 46)).alloc (.cells (baV s) 39)).heap[w.heap.size]? = some (.cells (stV s) 46 (0, 0))) := (Lib.alloc_old (w.alloc (.cells (stV s) 46)) _ w.heap.size (by simp)).trans (heap_alloc_new w _)
 have HQ0 : Hid (((w.alloc (.cells (stV s) 46)).alloc (.cells (baV s) 39)).heap[w.heap.size + 1]? = some (.cells (baV s) 39 (0, 0))) := by
  have h := heap_alloc_new (w.alloc (.cells (stV s) 46)) (.cells (baV s) 39)
  rw [World.size_alloc] at h
  exact h
 clear hp ht h hBw hf hbs hol hql hl
 go_enter Tryz.func24, Tryz.ntmps24
 go_wp2
 generalize ((w.alloc (.cells (stV s) 46)).alloc (.cells (baV s) 39)) = w0 at *
 generalize w.heap.size = q at *
 obtain ⟨LL, hLL⟩ : ∃ LL, LL = l := ⟨_, rfl⟩
 rw [← hLL] at HI0
 refine wp_region_held_drew (S := fun w' => w'.cell? ⟨q + 1, 3, none⟩ = some (.int .i64 s.e.b.cs) ∧ w'.cell? ⟨q, 5, none⟩ = some (.slice s.e.oa s.e.os.length s.e.oc) ∧ w'.cell? ⟨q + 1, 2, none⟩ = some (.slice s.e.b.qa s.e.b.qs.length s.e.b.qc) ∧ w'.cell? ⟨q + 1, 0, none⟩ = some (.slice s.e.b.va s.e.b.vs.length s.e.b.vc)) (by kernel_rfl) (stHeld HS0.out HQ0.out) (fun hHeld => ?_)
 (refine ti 0 ?_; simp only [Act.put, tA, tB, tD, tE, tF])
 (refine ti 1 ?_; simp only [Act.put, tA, tB, tC, tD, tE, tF])
 (refine ti 2 ?_; simp only [Act.put, tA, tB, tC, tD, tE, tF])
 (refine ti 4 ?_; simp only [Act.put, tA, tB, tC, tD, tE, tF])
 (refine ti 5 ?_; simp only [Act.put, tA, tB, tC, tD, tE, tF])
 (refine ti 6 ?_; simp only [Act.put, tA, tB, tC, tD, tE, tF])
 (refine ti 7 ?_; simp only [Act.put, tA, tB, tC, tD, tE, tF])
 (refine ti 9 ?_; simp only [Act.put, tA, tB, tC, tD, tE, tF])
 (refine ti 10 ?_; simp only [Act.put, tA, tB, tC, tD, tE, tF])
 (refine ti 11 ?_; simp only [Act.put, tA, tB, tC, tD, tE, tF])
 refine wpAnyH_ready (rs := [3]) (by kernel_rfl) (by simp) ?_
 refine AllReadyH.cons rfl (fun K hK => ?_) AllReadyH.nil
 go_simp
 go_wp2_with fail
 refine (inum s.e.b.cs HC.out.1 HC.out.2 w0.drew (show Tab w0.drew from HT.out w0 HB0.out)).mono ?_
 rintro e w1 ⟨rfl, hb⟩
 have hbu := undrew hb
 have HB1 : Hid (RK B b w w1) := HB0.out.step HZ0.out hbu
 have HZ1 : Hid (B ≤ w1.heap.size) := Nat.le_trans HZ0.out hbu.size
 have HS1 : Hid (w1.heap[q]? = some (.cells (stV s) 46 (0, 0))) := hb_keep hbu HS0.out
 have HQ1 : Hid (w1.heap[q + 1]? = some (.cells (baV s) 39 (0, 0))) := hb_keep hbu HQ0.out
 have HI1 : Hid (Lib.IsBuilder 76 5 B b (bv LL) w1) := rBelow HI0.out hbu
 clear hb hbu HI0 HS0 HQ0
 go_wp2_with fail
 refine hK.out _ _ (stHeld HS1.out HQ1.out) (fun hHeld1 => ?_)
 clear hK K
 refine wpAnyH_ready (rs := [8]) (by kernel_rfl) (by simp) ?_
 refine AllReadyH.cons rfl (fun K hK => ?_) AllReadyH.nil
 go_simp
 go_wp2_with fail
 refine (ilen s.e.os.length HOL.out _ (HT.out _ HB1.out)).mono ?_
 rintro e w2 ⟨rfl, hb⟩
 have hbu := hb
 have HB2 : Hid (RK B b w w2) := HB1.out.step HZ1.out hbu
 have HZ2 : Hid (B ≤ w2.heap.size) := Nat.le_trans HZ1.out hbu.size
 have HS2 : Hid (w2.heap[q]? = some (.cells (stV s) 46 (0, 0))) := hb_keep hbu HS1.out
 have HQ2 : Hid (w2.heap[q + 1]? = some (.cells (baV s) 39 (0, 0))) := hb_keep hbu HQ1.out
 have HI2 : Hid (Lib.IsBuilder 76 5 B b (bv LL) w2) := rBelow HI1.out hbu
 clear hb hbu HI1 HS1 HQ1 hHeld hHeld1
 go_wp2_with fail
 refine hK.out _ _ (stHeld HS2.out HQ2.out) (fun hHeld2 => ?_)
 clear hK K
 refine wpAnyH_ready (rs := [12]) (by kernel_rfl) (by simp) ?_
 refine AllReadyH.cons rfl (fun K hK => ?_) AllReadyH.nil
 go_simp
 go_wp2_with fail
 refine (ilen s.e.b.qs.length HQL.out _ (HT.out _ HB2.out)).mono ?_
 rintro e w3 ⟨rfl, hb⟩
 have hbu := hb
 have HB3 : Hid (RK B b w w3) := HB2.out.step HZ2.out hbu
 have HZ3 : Hid (B ≤ w3.heap.size) := Nat.le_trans HZ2.out hbu.size
 have HS3 : Hid (w3.heap[q]? = some (.cells (stV s) 46 (0, 0))) := hb_keep hbu HS2.out
 have HQ3 : Hid (w3.heap[q + 1]? = some (.cells (baV s) 39 (0, 0))) := hb_keep hbu HQ2.out
 have HI3 : Hid (Lib.IsBuilder 76 5 B b (bv LL) w3) := rBelow HI2.out hbu
 clear hb hbu HI2 HS2 HQ2 hHeld2
 go_wp2_with fail
 refine hK.out _ _ (stHeld HS3.out HQ3.out) (fun hHeld3 => ?_)
 clear hK K
 have HM : Hid (RK B b w3 (w3.alloc (.cells #[.string ⟨#[99, 115]⟩, .string (numT s.e.b.cs), .string ⟨#[111, 112, 101, 110]⟩, .string (numT (s.e.os.length : Int)), .string ⟨#[114, 101, 97, 100, 121]⟩, .string (numT (s.e.b.qs.length : Int))] 9))) := (RK.refl B b w3).step HZ3.out ((belowRefl w3).alloc (Nat.le_refl _) _)
 have HIM : Hid (Lib.IsBuilder 76 5 B b (bv LL) (w3.alloc (.cells #[.string ⟨#[99, 115]⟩, .string (numT s.e.b.cs), .string ⟨#[111, 112, 101, 110]⟩, .string (numT (s.e.os.length : Int)), .string ⟨#[114, 101, 97, 100, 121]⟩, .string (numT (s.e.b.qs.length : Int))] 9)) ) := rBelow HI3.out ((belowRefl w3).alloc (Nat.le_refl _) _)
 have HCL : Hid (Calls Tryz.prog 46 #[.pointer (some ⟨b, 0, none⟩), .slice (some ⟨w3.heap.size, 0, none⟩) 6 6] (w3.alloc (.cells #[.string ⟨#[99, 115]⟩, .string (numT s.e.b.cs), .string ⟨#[111, 112, 101, 110]⟩, .string (numT (s.e.os.length : Int)), .string ⟨#[114, 101, 97, 100, 121]⟩, .string (numT (s.e.b.qs.length : Int))] 9)) fun e w' => e = .returned (.tuple #[]) ∧ Lib.IsBuilder 76 5 B b (bv (LL ++ lineL (headW s.e.b.cs s.e.os.length s.e.b.qs.length))) w' ∧ RK B b (w3.alloc (.cells #[.string ⟨#[99, 115]⟩, .string (numT s.e.b.cs), .string ⟨#[111, 112, 101, 110]⟩, .string (numT (s.e.os.length : Int)), .string ⟨#[114, 101, 97, 100, 121]⟩, .string (numT (s.e.b.qs.length : Int))] 9)) w') := by
  have h1 := head_len s.e.b.cs HC.out.2 s.e.os.length s.e.b.qs.length HOL.out HQL.out
  have h2 := HL.out
  have hq : LL.length + (lineL (headW s.e.b.cs s.e.os.length s.e.b.qs.length)).length ≤ 100000000000000 := by rw [hLL]; omega
  have ho := rowStr w3 (headW s.e.b.cs s.e.os.length s.e.b.qs.length)
  have hi := HIM.out
  have hbz : B ≤ (w3.alloc (.cells ((headW s.e.b.cs s.e.os.length s.e.b.qs.length).map Value.string).toArray 9)).heap.size := Nat.le_trans HZ3.out (by simp)
  have hgz : w3.heap.size < (w3.alloc (.cells ((headW s.e.b.cs s.e.os.length s.e.b.qs.length).map Value.string).toArray 9)).heap.size := by simp
  exact iline B b LL w3.heap.size 6 6 (headW s.e.b.cs s.e.os.length s.e.b.qs.length) rfl _ hi hbz (Nat.le_refl _) hgz ho hq (by omega)
 have HS4 : Hid ((w3.alloc (.cells #[.string ⟨#[99, 115]⟩, .string (numT s.e.b.cs), .string ⟨#[111, 112, 101, 110]⟩, .string (numT (s.e.os.length : Int)), .string ⟨#[114, 101, 97, 100, 121]⟩, .string (numT (s.e.b.qs.length : Int))] 9)).heap[q]? = some (.cells (stV s) 46 (0, 0))) := hb_keep ((belowRefl w3).alloc (Nat.le_refl _) _) HS3.out
 have HQ4 : Hid ((w3.alloc (.cells #[.string ⟨#[99, 115]⟩, .string (numT s.e.b.cs), .string ⟨#[111, 112, 101, 110]⟩, .string (numT (s.e.os.length : Int)), .string ⟨#[114, 101, 97, 100, 121]⟩, .string (numT (s.e.b.qs.length : Int))] 9)).heap[q + 1]? = some (.cells (baV s) 39 (0, 0))) := hb_keep ((belowRefl w3).alloc (Nat.le_refl _) _) HQ3.out
 have HB4 : Hid (RK B b w (w3.alloc (.cells #[.string ⟨#[99, 115]⟩, .string (numT s.e.b.cs), .string ⟨#[111, 112, 101, 110]⟩, .string (numT (s.e.os.length : Int)), .string ⟨#[114, 101, 97, 100, 121]⟩, .string (numT (s.e.b.qs.length : Int))] 9))) := HB3.out.trans HM.out
 clear HM HIM HI3 hHeld3
 refine wpAnyH_ready (rs := [13]) (by kernel_rfl) (by simp) ?_
 refine AllReadyH.cons rfl (fun K hK => ?_) AllReadyH.nil
 go_simp
 refine hK.out _ _ (stHeld HS4.out HQ4.out) (fun hHeld4 => ?_)
 clear hK K
 refine wpAnyH_ready (rs := [14]) (by kernel_rfl) (by simp) ?_
 refine AllReadyH.cons rfl (fun K hK => ?_) AllReadyH.nil
 go_simp
 go_wp2_with fail
 refine HCL.out.mono ?_
 rintro e w5 ⟨rfl, hi5, hb5⟩
 have HB5 : Hid (RK B b w w5) := HB4.out.trans hb5
 have HS5 : Hid (w5.heap[q]? = some (.cells (stV s) 46 (0, 0))) := hb5.heap HS4.out (by have := HBS.out; omega) (by decide)
 have HQ5 : Hid (w5.heap[q + 1]? = some (.cells (baV s) 39 (0, 0))) := hb5.heap HQ4.out (by have := HBS.out; omega) (by decide)
 have HI5 : Hid (Lib.IsBuilder 76 5 B b (bv (LL ++ lineL (headW s.e.b.cs s.e.os.length s.e.b.qs.length))) w5) := hi5
 have HZ5 : Hid (B ≤ w5.heap.size) := Nat.le_trans (Nat.le_trans HZ3.out (by simp)) hb5.bel.size
 clear hi5 hb5 HCL HS4 HQ4 HB4 HS3 HQ3
 go_wp2_with fail
 refine hK.out _ _ (stHeld HS5.out HQ5.out) (fun hHeld5 => ?_)
 clear hK K
 refine wpAnyH_done (by kernel_rfl) ?_ _
 clear hHeld4 hHeld5
 have HHL : Hid ((lineL (headW s.e.b.cs s.e.os.length s.e.b.qs.length)).length ≤ 100) := head_len s.e.b.cs HC.out.2 s.e.os.length s.e.b.qs.length HOL.out HQL.out
 have HST : Hid (l ++ stL s = (LL ++ lineL (headW s.e.b.cs s.e.os.length s.e.b.qs.length)) ++ pairsL (scanB s.e.b.vs allR s.e.b.cs)) := by
  show _ = _
  unfold stL storeL
  rw [hLL, List.append_assoc]
 obtain ⟨L2, hL2⟩ : ∃ L2, L2 = LL ++ lineL (headW s.e.b.cs s.e.os.length s.e.b.qs.length) := ⟨_, rfl⟩
 have HL2 : Hid (L2.length ≤ 6000000000000) := by
  show _ ≤ _
  rw [hL2, List.length_append]
  have := HHL.out
  have := HL.out
  rw [hLL]
  omega
 rw [← hL2] at HI5 HST
 clear hL2 HHL
 go_wp2
 refine wp_region_held_drew (S := fun w' => w'.cell? ⟨q + 1, 3, none⟩ = some (.int .i64 s.e.b.cs) ∧ w'.cell? ⟨q, 5, none⟩ = some (.slice s.e.oa s.e.os.length s.e.oc) ∧ w'.cell? ⟨q + 1, 2, none⟩ = some (.slice s.e.b.qa s.e.b.qs.length s.e.b.qc) ∧ w'.cell? ⟨q + 1, 0, none⟩ = some (.slice s.e.b.va s.e.b.vs.length s.e.b.vc)) (by kernel_rfl) (stHeld HS5.out HQ5.out) (fun hHeld => ?_)
 (refine ti 0 ?_; simp only [Act.put, tA, tB, tD, tE, tF])
 (refine ti 1 ?_; simp only [Act.put, tA, tB, tC, tD, tE, tF])
 (refine ti 2 ?_; simp only [Act.put, tA, tB, tC, tD, tE, tF])
 (refine ti 4 ?_; simp only [Act.put, tA, tB, tC, tD, tE, tF])
 (refine ti 5 ?_; simp only [Act.put, tA, tB, tC, tD, tE, tF])
 refine wpAnyH_ready (rs := [3]) (by kernel_rfl) (by simp) ?_
 refine AllReadyH.cons rfl (fun K hK => ?_) AllReadyH.nil
 go_simp
 go_wp2_with fail
 refine (all66 w5.drew).mono ?_
 rintro e w6 ⟨rfl, hb⟩
 have hbu := undrew hb
 have HB6 : Hid (RK B b w w6) := HB5.out.step HZ5.out hbu
 have HZ6 : Hid (B ≤ w6.heap.size) := Nat.le_trans HZ5.out hbu.size
 have HS6 : Hid (w6.heap[q]? = some (.cells (stV s) 46 (0, 0))) := hb_keep hbu HS5.out
 have HQ6 : Hid (w6.heap[q + 1]? = some (.cells (baV s) 39 (0, 0))) := hb_keep hbu HQ5.out
 have HI6 : Hid (Lib.IsBuilder 76 5 B b (bv L2) w6) := rBelow HI5.out hbu
 clear hb hbu HI5 HS5 HQ5
 go_wp2_with fail
 refine hK.out _ _ (stHeld HS6.out HQ6.out) (fun hHeld6 => ?_)
 clear hK K
 refine wpAnyH_ready (rs := [6]) (by kernel_rfl) (by simp) ?_
 refine AllReadyH.cons rfl (fun K hK => ?_) AllReadyH.nil
 go_simp
 go_wp2_with fail
 refine (iscan s.e.b.vs s.e.b.va s.e.b.vc allR s.e.b.cs (Nat.le_trans HF.out.e.b.vl (by omega)) HF.out.e.b.vf _ (HV.out _ HB6.out)).mono ?_
 rintro e w7 ⟨a7, c7, rfl, hd, hb⟩
 have hbu := hb
 have HB7 : Hid (RK B b w w7) := HB6.out.step HZ6.out hbu
 have HZ7 : Hid (B ≤ w7.heap.size) := Nat.le_trans HZ6.out hbu.size
 have HS7 : Hid (w7.heap[q]? = some (.cells (stV s) 46 (0, 0))) := hb_keep hbu HS6.out
 have HQ7 : Hid (w7.heap[q + 1]? = some (.cells (baV s) 39 (0, 0))) := hb_keep hbu HQ6.out
 have HI7 : Hid (Lib.IsBuilder 76 5 B b (bv L2) w7) := rBelow HI6.out hbu
 have HP7 : Hid (Calls Tryz.prog 49 #[.pointer (some ⟨b, 0, none⟩), .slice a7 (scanB s.e.b.vs allR s.e.b.cs).length c7] w7 fun e w' => e = .returned (.tuple #[]) ∧ Lib.IsBuilder 76 5 B b (bv (L2 ++ pairsL (scanB s.e.b.vs allR s.e.b.cs))) w' ∧ RK B b w7 w') := by
  have hlo : b < w6.heap.size := by
   rcases HI6.out with h | h
   ·exact h.lt
   ·exact h.lt
  exact ipairs B b L2 (scanB s.e.b.vs allR s.e.b.cs) a7 c7 _ rfl (Nat.le_trans (scan_len s.e.b.vs allR s.e.b.cs) HF.out.e.b.vl) (scan_rfit HF.out.e.b.vf allR s.e.b.cs) w7 HI7.out HZ7.out (by have := HL2.out; omega) (fun w' k => (own_rk hd hlo (by decide) k).grow)
 clear hb hbu hd HI6 HS6 HQ6
 go_wp2_with fail
 refine hK.out _ _ (stHeld HS7.out HQ7.out) (fun hHeld7 => ?_)
 clear hK K
 refine wpAnyH_ready (rs := [7]) (by kernel_rfl) (by simp) ?_
 refine AllReadyH.cons rfl (fun K hK => ?_) AllReadyH.nil
 go_simp
 go_wp2_with fail
 refine HP7.out.mono ?_
 rintro e w8 ⟨rfl, hi8, hb8⟩
 have HB8 : Hid (RK B b w w8) := HB7.out.trans hb8
 have HI8 : Hid (Lib.IsBuilder 76 5 B b (bv (l ++ stL s)) w8) := by
  show Lib.IsBuilder _ _ _ _ _ _
  rw [HST.out]; exact hi8
 have HS8 : Hid (w8.heap[q]? = some (.cells (stV s) 46 (0, 0))) := hb8.heap HS7.out (by have := HBS.out; omega) (by decide)
 have HQ8 : Hid (w8.heap[q + 1]? = some (.cells (baV s) 39 (0, 0))) := hb8.heap HQ7.out (by have := HBS.out; omega) (by decide)
 clear hi8 hb8 HP7
 go_wp2_with fail
 refine hK.out _ _ (stHeld HS8.out HQ8.out) (fun hHeld8 => ?_)
 clear hK K
 refine wpAnyH_done (by kernel_rfl) ?_ _
 go_wp2
 go_end0
 exact ⟨rfl, HI8.out, HB8.out⟩
end Go.Proofs.YtjieojfcmigcdaaGreatDoor

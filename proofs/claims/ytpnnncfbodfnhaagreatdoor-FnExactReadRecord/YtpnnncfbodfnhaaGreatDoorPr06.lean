/- Lists of those that look and change: their copy, their likeness. -/
import Derived.Test.YtpnnncfbodfnhaaGreatDoorPr01
import Derived.Test.YtpnnncfbodfnhaaGreatDoorPr05
namespace Go.Proofs.YtpnnncfbodfnhaaGreatDoor
open Go.RowKit
open KM
attribute [local go_sem ↓] Go.wp_at_zero Go.wp_at_succ

set_option maxRecDepth 100000 in
set_option maxHeartbeats 2000000 in
theorem eqL (xs ys : List Ta) (a1 a2 : Option Addr) (c1 c2 n : Nat) (hx : n = xs.length) (hy : n = ys.length) (hn : n ≤ 100000000) (ht : txs xs = txs ys) (hf : LFit (txs xs)) (w : World) (h1 : TRows w a1 xs) (h2 : TRows w a2 ys) :
  Calls Tryz.prog 70 #[.slice a1 n c1, .slice a2 n c2] w fun e w' => e = .returned (.bool true) ∧ Below w.heap.size w w' := by
 have H1 : Hid (TRows w a1 xs) := h1
 have H2 : Hid (TRows w a2 ys) := h2
 have HT : Hid (txs xs = txs ys) := ht
 have HF : Hid (LFit (txs xs)) := hf
 have HX : Hid (n = xs.length) := hx
 have HY : Hid (n = ys.length) := hy
 clear h1 h2 ht hf hx hy
 go_enter Tryz.func70, Tryz.ntmps70
 go_wp2
 go_loopw [5] (fun t wr => ∃ k : Nat, k ≤ n ∧ t = .int .i64 k ∧ Hid (Below w.heap.size w wr)) (fun t _ => n - (intOf t).toNat)
 case atStart => exact ⟨0, Nat.zero_le _, rfl, Below.refl _ _⟩
 case round =>
  obtain ⟨k, hk, rfl, HB⟩ := hrel
  by_cases hlt : k < n
  ·have hlt' : (k : Int) < (n : Int) := by omega
   have h0 : (0 : Int) ≤ (k : Int) := by omega
   have hkx : k < xs.length := by rw [← HX.out]; exact hlt
   have hky : k < ys.length := by rw [← HY.out]; exact hlt
   obtain ⟨b1, o1, rfl, hl1, q1, u1⟩ := (H1.out.below HB.out).cls k hkx
   obtain ⟨b2, o2, rfl, hl2, q2, u2⟩ := (H2.out.below HB.out).cls k hky
   have et : xs[k].t = ys[k].t := by
    have h := congrArg (fun l : List Tx => l[k]?) HT.out
    simpa [txs, List.getElem?_eq_getElem hkx, List.getElem?_eq_getElem hky] using h
   have hfx : TFit xs[k].t := HF.out.2 _ (List.mem_map.2 ⟨_, List.getElem_mem hkx, rfl⟩)
   obtain ⟨x, hx⟩ : ∃ x, x = xs[k] := ⟨_, rfl⟩
   obtain ⟨y, hy⟩ : ∃ y, y = ys[k] := ⟨_, rfl⟩
   rw [← hx] at q1 u1 et hfx
   rw [← hy] at q2 u2 et
   clear hx hy
   have HE : Hid (∀ W : World, TRow W x.t x.ra x.wa → TRow W x.t y.ra y.wa → Calls Tryz.prog 28 #[.agg #[.int .i64 x.t.id, .int .i64 x.t.st, .int .i64 x.t.snap, .int .i64 x.t.cs, .slice x.ra x.t.rs.length x.rc, .slice x.wa x.t.ws.length x.wc, .bool x.t.out, .string x.t.nm], .agg #[.int .i64 y.t.id, .int .i64 y.t.st, .int .i64 y.t.snap, .int .i64 y.t.cs, .slice y.ra y.t.rs.length y.rc, .slice y.wa y.t.ws.length y.wc, .bool y.t.out, .string y.t.nm]] W fun e w' => e = .returned (.bool true) ∧ Below W.heap.size W w') := by
    intro W g1 g2
    rw [← et]
    exact eqT x.t x.ra x.wa y.ra y.wa x.rc x.wc y.rc y.wc (Nat.le_trans hfx.1 (by omega)) (Nat.le_trans hfx.2.2.1 (by omega)) W g1 g2
   have U1 : Hid (TRow wr x.t x.ra x.wa) := u1
   have U2 : Hid (TRow wr x.t y.ra y.wa) := by rw [et]; exact u2
   have hHd : wr.cell? ⟨b1, o1 + k * 8, none⟩ = some (.int .i64 x.t.id) ∧ wr.cell? ⟨b1, o1 + k * 8 + 1, none⟩ = some (.int .i64 x.t.st) ∧ wr.cell? ⟨b1, o1 + k * 8 + 2, none⟩ = some (.int .i64 x.t.snap) ∧ wr.cell? ⟨b1, o1 + k * 8 + 3, none⟩ = some (.int .i64 x.t.cs) ∧ wr.cell? ⟨b1, o1 + k * 8 + 4, none⟩ = some (.slice x.ra x.t.rs.length x.rc) ∧ wr.cell? ⟨b1, o1 + k * 8 + 5, none⟩ = some (.slice x.wa x.t.ws.length x.wc) ∧ wr.cell? ⟨b1, o1 + k * 8 + 6, none⟩ = some (.bool x.t.out) ∧ wr.cell? ⟨b1, o1 + k * 8 + 7, none⟩ = some (.string x.t.nm) ∧ wr.cell? ⟨b2, o2 + k * 8, none⟩ = some (.int .i64 y.t.id) ∧ wr.cell? ⟨b2, o2 + k * 8 + 1, none⟩ = some (.int .i64 y.t.st) ∧ wr.cell? ⟨b2, o2 + k * 8 + 2, none⟩ = some (.int .i64 y.t.snap) ∧ wr.cell? ⟨b2, o2 + k * 8 + 3, none⟩ = some (.int .i64 y.t.cs) ∧ wr.cell? ⟨b2, o2 + k * 8 + 4, none⟩ = some (.slice y.ra y.t.rs.length y.rc) ∧ wr.cell? ⟨b2, o2 + k * 8 + 5, none⟩ = some (.slice y.wa y.t.ws.length y.wc) ∧ wr.cell? ⟨b2, o2 + k * 8 + 6, none⟩ = some (.bool y.t.out) ∧ wr.cell? ⟨b2, o2 + k * 8 + 7, none⟩ = some (.string y.t.nm) := ⟨q1.c0, q1.c1, q1.c2, q1.c3, q1.c4, q1.c5, q1.c6, q1.c7, q2.c0, q2.c1, q2.c2, q2.c3, q2.c4, q2.c5, q2.c6, q2.c7⟩
   have Q1 := hide q1
   have Q2 := hide q2
   clear q1 q2 u1 u2 et hfx hkx hky
   have HB0 := hide HB.out
   go_wp2
   refine wp_region_held_drew (S := fun w' => w'.cell? ⟨b1, o1 + k * 8, none⟩ = some (.int .i64 x.t.id) ∧ w'.cell? ⟨b1, o1 + k * 8 + 1, none⟩ = some (.int .i64 x.t.st) ∧ w'.cell? ⟨b1, o1 + k * 8 + 2, none⟩ = some (.int .i64 x.t.snap) ∧ w'.cell? ⟨b1, o1 + k * 8 + 3, none⟩ = some (.int .i64 x.t.cs) ∧ w'.cell? ⟨b1, o1 + k * 8 + 4, none⟩ = some (.slice x.ra x.t.rs.length x.rc) ∧ w'.cell? ⟨b1, o1 + k * 8 + 5, none⟩ = some (.slice x.wa x.t.ws.length x.wc) ∧ w'.cell? ⟨b1, o1 + k * 8 + 6, none⟩ = some (.bool x.t.out) ∧ w'.cell? ⟨b1, o1 + k * 8 + 7, none⟩ = some (.string x.t.nm) ∧ w'.cell? ⟨b2, o2 + k * 8, none⟩ = some (.int .i64 y.t.id) ∧ w'.cell? ⟨b2, o2 + k * 8 + 1, none⟩ = some (.int .i64 y.t.st) ∧ w'.cell? ⟨b2, o2 + k * 8 + 2, none⟩ = some (.int .i64 y.t.snap) ∧ w'.cell? ⟨b2, o2 + k * 8 + 3, none⟩ = some (.int .i64 y.t.cs) ∧ w'.cell? ⟨b2, o2 + k * 8 + 4, none⟩ = some (.slice y.ra y.t.rs.length y.rc) ∧ w'.cell? ⟨b2, o2 + k * 8 + 5, none⟩ = some (.slice y.wa y.t.ws.length y.wc) ∧ w'.cell? ⟨b2, o2 + k * 8 + 6, none⟩ = some (.bool y.t.out) ∧ w'.cell? ⟨b2, o2 + k * 8 + 7, none⟩ = some (.string y.t.nm)) (by kernel_rfl) hHd (fun hHeld => ?_)
   (refine ti 0 ?_; simp only [Act.put, tA, tB, tD, tE, tF])
   (refine ti 1 ?_; simp only [Act.put, tA, tB, tC, tD, tE, tF])
   (refine ti 2 ?_; simp only [Act.put, tA, tB, tC, tD, tE, tF])
   (refine ti 3 ?_; simp only [Act.put, tA, tB, tC, tD, tE, tF])
   (refine ti 4 ?_; simp only [Act.put, tA, tB, tC, tD, tE, tF])
   (refine ti 5 ?_; simp only [Act.put, tA, tB, tC, tD, tE, tF])
   (refine ti 6 ?_; simp only [Act.put, tA, tB, tC, tD, tE, tF])
   (refine ti 7 ?_; simp only [Act.put, tA, tB, tC, tD, tE, tF])
   refine wpAnyH_ready (rs := [8]) (by kernel_rfl) (by simp) ?_
   refine AllReadyH.cons rfl (fun K hK => ?_) AllReadyH.nil
   go_simp
   go_wp2_with fail
   refine (HE.out _ U1.out.drewT U2.out.drewT).mono ?_
   rintro e w2 ⟨rfl, hb2⟩
   have hbu := undrew hb2
   have hHd2 : w2.cell? ⟨b1, o1 + k * 8, none⟩ = some (.int .i64 x.t.id) ∧ w2.cell? ⟨b1, o1 + k * 8 + 1, none⟩ = some (.int .i64 x.t.st) ∧ w2.cell? ⟨b1, o1 + k * 8 + 2, none⟩ = some (.int .i64 x.t.snap) ∧ w2.cell? ⟨b1, o1 + k * 8 + 3, none⟩ = some (.int .i64 x.t.cs) ∧ w2.cell? ⟨b1, o1 + k * 8 + 4, none⟩ = some (.slice x.ra x.t.rs.length x.rc) ∧ w2.cell? ⟨b1, o1 + k * 8 + 5, none⟩ = some (.slice x.wa x.t.ws.length x.wc) ∧ w2.cell? ⟨b1, o1 + k * 8 + 6, none⟩ = some (.bool x.t.out) ∧ w2.cell? ⟨b1, o1 + k * 8 + 7, none⟩ = some (.string x.t.nm) ∧ w2.cell? ⟨b2, o2 + k * 8, none⟩ = some (.int .i64 y.t.id) ∧ w2.cell? ⟨b2, o2 + k * 8 + 1, none⟩ = some (.int .i64 y.t.st) ∧ w2.cell? ⟨b2, o2 + k * 8 + 2, none⟩ = some (.int .i64 y.t.snap) ∧ w2.cell? ⟨b2, o2 + k * 8 + 3, none⟩ = some (.int .i64 y.t.cs) ∧ w2.cell? ⟨b2, o2 + k * 8 + 4, none⟩ = some (.slice y.ra y.t.rs.length y.rc) ∧ w2.cell? ⟨b2, o2 + k * 8 + 5, none⟩ = some (.slice y.wa y.t.ws.length y.wc) ∧ w2.cell? ⟨b2, o2 + k * 8 + 6, none⟩ = some (.bool y.t.out) ∧ w2.cell? ⟨b2, o2 + k * 8 + 7, none⟩ = some (.string y.t.nm) := by
    have cb : ∀ o, w2.cell? ⟨b1, o, none⟩ = wr.cell? ⟨b1, o, none⟩ := fun o => hbu.cell (p := ⟨b1, o, none⟩) hl1
    have cc : ∀ o, w2.cell? ⟨b2, o, none⟩ = wr.cell? ⟨b2, o, none⟩ := fun o => hbu.cell (p := ⟨b2, o, none⟩) hl2
    simp only [cb, cc]
    exact hHd
   go_wp2_with fail
   refine hK.out _ _ hHd2 (fun hHeld2 => ?_)
   have HB2 : Hid (Below w.heap.size w w2) := HB0.out.trans (hbu.mono HB0.out.size)
   clear hK K hb2 hbu hHd hHd2
   (refine ti 9 ?_; simp only [Act.put, tA, tB, tC, tD, tE, tF])
   refine wpAnyH_done (by kernel_rfl) ?_ _
   go_wp2
   go_roundw
   case rel => exact ⟨k + 1, by omega, by go_num, HB2⟩
   case measure => simp [intOf]; omega
  ·have hd : ¬ (k : Int) < (n : Int) := by omega
   go_wp2
   go_ret
   exact ⟨rfl, HB.out⟩

end Go.Proofs.YtpnnncfbodfnhaaGreatDoor

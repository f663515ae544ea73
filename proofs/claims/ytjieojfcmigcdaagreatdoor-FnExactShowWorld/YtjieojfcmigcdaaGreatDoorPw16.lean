/- Lists of those that look and change: how they lie, their size, their copy, their likeness. -/
import Derived.Test.YtjieojfcmigcdaaGreatDoorPw08
import Derived.Deep.RegionHeld3
import Derived.Test.YtjieojfcmigcdaaGreatDoorPw01
import Derived.Test.YtjieojfcmigcdaaGreatDoorPw02
namespace Go.Proofs.YtjieojfcmigcdaaGreatDoor
open Go.RowKit
open KM
attribute [local go_sem ↓] Go.wp_at_zero Go.wp_at_succ

structure Ta where
 t : Tx
 ra : Option Addr
 rc : Nat
 wa : Option Addr
 wc : Nat
def someTa : Ta := ⟨⟨0, 0, 0, 0, [], [], false, ByteArray.empty⟩, none, 0, none, 0⟩
def encT : Enc Ta := ⟨fun x => [.int .i64 x.t.id, .int .i64 x.t.st, .int .i64 x.t.snap, .int .i64 x.t.cs, .slice x.ra x.t.rs.length x.rc, .slice x.wa x.t.ws.length x.wc, .bool x.t.out, .string x.t.nm], 8, by decide, fun _ => rfl⟩
theorem Tryz.info116 : (Tryz.prog.info? 116).map (fun i => (i.zero, i.size, i.bytes)) = some (some (.agg #[.int .i64 0, .int .i64 0, .int .i64 0, .int .i64 0, .slice none 0 0, .slice none 0 0, .bool false, .string ByteArray.empty]), 8, 104) := by kernel_rfl
structure Cls (w : World) (b o : Nat) (x : Ta) : Prop where
 c0 : w.cell? ⟨b, o, none⟩ = some (.int .i64 x.t.id)
 c1 : w.cell? ⟨b, o + 1, none⟩ = some (.int .i64 x.t.st)
 c2 : w.cell? ⟨b, o + 2, none⟩ = some (.int .i64 x.t.snap)
 c3 : w.cell? ⟨b, o + 3, none⟩ = some (.int .i64 x.t.cs)
 c4 : w.cell? ⟨b, o + 4, none⟩ = some (.slice x.ra x.t.rs.length x.rc)
 c5 : w.cell? ⟨b, o + 5, none⟩ = some (.slice x.wa x.t.ws.length x.wc)
 c6 : w.cell? ⟨b, o + 6, none⟩ = some (.bool x.t.out)
 c7 : w.cell? ⟨b, o + 7, none⟩ = some (.string x.t.nm)
theorem tat {w : World} {b off : Nat} {xs : List Ta} (hc : ∀ j (hj : j < xs.length) i, i < encT.size → w.cell? ⟨b, off + j * encT.size + i, none⟩ = (encT.enc xs[j])[i]?) (j : Nat) (hj : j < xs.length) : Cls w b (off + j * 8) xs[j] :=
 ⟨by simpa [encT] using hc j hj 0 (by decide), by simpa [encT] using hc j hj 1 (by decide), by simpa [encT] using hc j hj 2 (by decide), by simpa [encT] using hc j hj 3 (by decide), by simpa [encT] using hc j hj 4 (by decide), by simpa [encT] using hc j hj 5 (by decide), by simpa [encT] using hc j hj 6 (by decide), by simpa [encT] using hc j hj 7 (by decide)⟩
structure TRows (w : World) (a : Option Addr) (xs : List Ta) : Prop where
 row : GRow encT w a xs
 each : ∀ x ∈ xs, TRow w x.t x.ra x.wa
theorem TRows.below {w w' : World} {a : Option Addr} {xs : List Ta} (h : TRows w a xs) (hb : Below w.heap.size w w') : TRows w' a xs := ⟨h.row.below hb, fun x hx => (h.each x hx).below hb⟩
theorem TRows.cls {w : World} {a : Option Addr} {xs : List Ta} (h : TRows w a xs) (k : Nat) (hk : k < xs.length) : ∃ b off, a = some ⟨b, off, none⟩ ∧ b < w.heap.size ∧ Cls w b (off + k * 8) xs[k] ∧ TRow w xs[k].t xs[k].ra xs[k].wa := by
 obtain ⟨b, off, rfl, hbl, hc⟩ := h.row (by omega)
 exact ⟨b, off, rfl, hbl, tat hc k hk, h.each _ (List.getElem_mem hk)⟩
structure LArg (w : World) (a : Option Addr) (xs : List Ta) : Prop where
 len : xs.length ≤ maxLen
 each : ∀ x ∈ xs, TArg w x.t x.ra x.wa
 row : GRow encT w a xs
theorem LArg.rows {w : World} {a : Option Addr} {xs : List Ta} (h : LArg w a xs) : TRows w a xs := ⟨h.row, fun x hx => (h.each x hx).row⟩
theorem TArg.below {w w' : World} {t : Tx} {ra wa : Option Addr} (h : TArg w t ra wa) (hb : Below w.heap.size w w') : TArg w' t ra wa := ⟨h.rl, h.rf, h.wl, h.wf, h.nm, h.row.below hb⟩
theorem LArg.below {w w' : World} {a : Option Addr} {xs : List Ta} (h : LArg w a xs) (hb : Below w.heap.size w w') : LArg w' a xs := ⟨h.len, fun x hx => (h.each x hx).below hb, h.row.below hb⟩
def LFit (ts : List Tx) : Prop := ts.length ≤ 1048576 ∧ ∀ t ∈ ts, TFit t
def txs (xs : List Ta) : List Tx := xs.map (·.t)
theorem txs_len (xs : List Ta) : (txs xs).length = xs.length := by simp [txs]

set_option maxRecDepth 100000 in
set_option maxHeartbeats 2000000 in
theorem szL (xs : List Ta) (a : Option Addr) (c : Nat) (L : Int) (h0 : 0 ≤ L) (h1 : L ≤ 1048576) (w : World) (hp : LArg w a xs) :
  Calls Tryz.prog 28 #[.slice a xs.length c, .int .i64 L] w fun e w' => Below w.heap.size w w' ∧ ∃ r : Int, e = .returned (.int .i64 r) ∧ r ≤ 1048576 ∧ (0 ≤ r → LFit (txs xs)) := by
 have HP : Hid (LArg w a xs) := hp
 have hn := hp.len
 clear hp
 unfold maxLen at hn
 by_cases hneg : L - (xs.length : Int) < 0
 ·go_enter Tryz.func28, Tryz.ntmps28
  go_wp2
  go_ret
  exact ⟨belowRefl w, -1, rfl, by omega, fun h => by omega⟩
 ·have hneg' : decide (L - (xs.length : Int) < 0) = false := by simpa using hneg
  go_enter Tryz.func28, Tryz.ntmps28
  go_wp2
  go_loopw [1, 5] (fun tl t wr => ∃ (k : Nat) (l : Int), k ≤ xs.length ∧ t = .int .i64 k ∧ tl = .int .i64 l ∧ 0 ≤ l ∧ l ≤ 1048576 ∧ Hid (∀ j (hj : j < xs.length), j < k → TFit xs[j].t) ∧ Hid (Below w.heap.size w wr)) (fun _ t _ => xs.length - (intOf t).toNat)
  case atStart => exact ⟨0, L - (xs.length : Int), Nat.zero_le _, rfl, rfl, by omega, by omega, fun j hj h => by omega, belowRefl w⟩
  case round =>
   obtain ⟨k, l, hk, rfl, rfl, hl0, hl1, HA, HB⟩ := hrel
   by_cases hlt : k < xs.length
   ·have hlt' : (k : Int) < (xs.length : Int) := by omega
    have hk0 : (0 : Int) ≤ (k : Int) := by omega
    have HR0 := hide (HP.out.below HB.out)
    obtain ⟨b, off, rfl, hbl, hc, -⟩ := HR0.out.rows.cls k hlt
    obtain ⟨x, hx⟩ : ∃ x, x = xs[k] := ⟨_, rfl⟩
    rw [← hx] at hc
    have HX : Hid (x = xs[k]) := hx
    have HT : Hid (TArg wr x.t x.ra x.wa) := by rw [hx]; exact HR0.out.each _ (List.getElem_mem hlt)
    clear hx
    have r0 := hc.c0
    have r1 := hc.c1
    have r2 := hc.c2
    have r3 := hc.c3
    have r4 := hc.c4
    have r5 := hc.c5
    have r6 := hc.c6
    have r7 := hc.c7
    clear hc
    go_wp2_with fail
    refine (szT x.t x.ra x.wa x.rc x.wc l hl0 hl1 _ HT.out).mono ?_
    rintro e w2 ⟨hb2, r, rfl, hr1, hr⟩
    have HB2 : Hid (Below w.heap.size w w2) := HB.out.trans (hb2.mono HB.out.size)
    have HF : Hid (0 ≤ r → TFit x.t) := hr
    clear hb2 hr r0 r1 r2 r3 r4 r5 r6 r7
    by_cases hn2 : r < 0
    ·go_wp2
     go_ret
     exact ⟨HB2.out, -1, rfl, by omega, fun h => by omega⟩
    ·have hn3 : ¬ r < 0 := hn2
     have HA2 : Hid (∀ j (hj : j < xs.length), j < k + 1 → TFit xs[j].t) := fun j hj h => by
      by_cases e : j = k
      ·subst e; rw [← HX.out]; exact HF.out (by omega)
      ·exact HA.out j hj (by omega)
     have hr0 : 0 ≤ r := by omega
     clear hn2
     go_wp2
     go_roundw
     case rel => exact ⟨k + 1, r, by omega, by go_num, rfl, hr0, hr1, HA2, HB2⟩
     case measure => simp [intOf]; omega
   ·have hlt' : ¬ (k : Int) < (xs.length : Int) := by omega
    have HA2 : Hid (LFit (txs xs)) := ⟨by rw [txs_len]; omega, fun s hs => by
     obtain ⟨y, hy, rfl⟩ := List.mem_map.1 hs
     obtain ⟨j, hj, rfl⟩ := List.getElem_of_mem hy
     exact HA.out j hj (by omega)⟩
    go_wp2
    go_ret
    exact ⟨HB.out, l, rfl, hl1, fun _ => HA2.out⟩

end Go.Proofs.YtjieojfcmigcdaaGreatDoor

namespace Go.Proofs.YtjieojfcmigcdaaGreatDoor
open Go.RowKit
open KM
attribute [local go_sem ↓] Go.wp_at_zero Go.wp_at_succ

theorem mkRow8 (T e size bytes : Nat) (z : Value) (hT : Tryz.prog.underlying T = some (.slice e))
  (hinfo : (Tryz.prog.info? e).map (fun i => (i.zero, i.size, i.bytes)) = some (some z, size, bytes)) (n : Nat) (hn : n ≤ 100000000) (hby : bytes ≤ 128) (w : World) :
  (Instr.makeSlice T (.int .i64 (n : Int)) (.int .i64 (n : Int))).run Tryz.prog w = .ok (.slice (some ⟨w.heap.size, 0, none⟩) n n) (w.alloc (.cells (madeCells z.cells (n * size)) e)) := by
 obtain ⟨i0, hi, hz0, hz1, hz2⟩ := info_parts hinfo
 have hb : (bytes : Int) * (n : Int) ≤ 281474976710656 := by
  have h : bytes * n ≤ 128 * 100000000 := Nat.mul_le_mul hby hn
  have h2 : ((bytes * n : Nat) : Int) ≤ 281474976710656 := by omega
  rwa [Int.natCast_mul] at h2
 have h := run_make (P := Tryz.prog) w T e i0 z hT hi hz0 .i64 .i64 n n (by omega) (Int.le_refl _) (by rw [hz2]; exact hb) (by omega)
 rw [hz1] at h
 simpa using h

set_option maxRecDepth 100000 in
set_option maxHeartbeats 2000000 in
theorem eqL (xs ys : List Ta) (a1 a2 : Option Addr) (c1 c2 n : Nat) (hx : n = xs.length) (hy : n = ys.length) (hn : n ≤ 100000000) (ht : txs xs = txs ys) (hf : LFit (txs xs)) (w : World) (h1 : TRows w a1 xs) (h2 : TRows w a2 ys) :
  Calls Tryz.prog 35 #[.slice a1 n c1, .slice a2 n c2] w fun e w' => e = .returned (.bool true) ∧ Below w.heap.size w w' := by
 have H1 : Hid (TRows w a1 xs) := h1
 have H2 : Hid (TRows w a2 ys) := h2
 have HT : Hid (txs xs = txs ys) := ht
 have HF : Hid (LFit (txs xs)) := hf
 have HX : Hid (n = xs.length) := hx
 have HY : Hid (n = ys.length) := hy
 clear h1 h2 ht hf hx hy
 go_enter Tryz.func35, Tryz.ntmps35
 go_wp2
 go_loopw [5] (fun t wr => ∃ k : Nat, k ≤ n ∧ t = .int .i64 k ∧ Hid (Below w.heap.size w wr)) (fun t _ => n - (intOf t).toNat)
 case atStart => exact ⟨0, Nat.zero_le _, rfl, Below.refl _ _⟩
 case round =>
  obtain ⟨k, hk, rfl, HB⟩ := hrel
  by_cases hlt : k < n
  ·have hlt' : (k : Int) < (n : Int) := by omega
   have h0 : (0 : Int) ≤ (k : Int) := by omega
   have hkx : k < xs.length := by rw [← HX.out]; exact hlt
   have hky : k < ys.length := by rw [← HY.out]; exact hlt
   obtain ⟨b1, o1, rfl, hl1, q1, u1⟩ := (H1.out.below HB.out).cls k hkx
   obtain ⟨b2, o2, rfl, hl2, q2, u2⟩ := (H2.out.below HB.out).cls k hky
   have et : xs[k].t = ys[k].t := by
    have h := congrArg (fun l : List Tx => l[k]?) HT.out
    simpa [txs, List.getElem?_eq_getElem hkx, List.getElem?_eq_getElem hky] using h
   have hfx : TFit xs[k].t := HF.out.2 _ (List.mem_map.2 ⟨_, List.getElem_mem hkx, rfl⟩)
   obtain ⟨x, hx⟩ : ∃ x, x = xs[k] := ⟨_, rfl⟩
   obtain ⟨y, hy⟩ : ∃ y, y = ys[k] := ⟨_, rfl⟩
   rw [← hx] at q1 u1 et hfx
   rw [← hy] at q2 u2 et
   clear hx hy
   have HE : Hid (∀ W : World, TRow W x.t x.ra x.wa → TRow W x.t y.ra y.wa → Calls Tryz.prog 56 #[.agg #[.int .i64 x.t.id, .int .i64 x.t.st, .int .i64 x.t.snap, .int .i64 x.t.cs, .slice x.ra x.t.rs.length x.rc, .slice x.wa x.t.ws.length x.wc, .bool x.t.out, .string x.t.nm], .agg #[.int .i64 y.t.id, .int .i64 y.t.st, .int .i64 y.t.snap, .int .i64 y.t.cs, .slice y.ra y.t.rs.length y.rc, .slice y.wa y.t.ws.length y.wc, .bool y.t.out, .string y.t.nm]] W fun e w' => e = .returned (.bool true) ∧ Below W.heap.size W w') := by
    intro W g1 g2
    rw [← et]
    exact eqT x.t x.ra x.wa y.ra y.wa x.rc x.wc y.rc y.wc (Nat.le_trans hfx.1 (by omega)) (Nat.le_trans hfx.2.2.1 (by omega)) W g1 g2
   have U1 : Hid (TRow wr x.t x.ra x.wa) := u1
   have U2 : Hid (TRow wr x.t y.ra y.wa) := by rw [et]; exact u2
   have hHd : wr.cell? ⟨b1, o1 + k * 8, none⟩ = some (.int .i64 x.t.id) ∧ wr.cell? ⟨b1, o1 + k * 8 + 1, none⟩ = some (.int .i64 x.t.st) ∧ wr.cell? ⟨b1, o1 + k * 8 + 2, none⟩ = some (.int .i64 x.t.snap) ∧ wr.cell? ⟨b1, o1 + k * 8 + 3, none⟩ = some (.int .i64 x.t.cs) ∧ wr.cell? ⟨b1, o1 + k * 8 + 4, none⟩ = some (.slice x.ra x.t.rs.length x.rc) ∧ wr.cell? ⟨b1, o1 + k * 8 + 5, none⟩ = some (.slice x.wa x.t.ws.length x.wc) ∧ wr.cell? ⟨b1, o1 + k * 8 + 6, none⟩ = some (.bool x.t.out) ∧ wr.cell? ⟨b1, o1 + k * 8 + 7, none⟩ = some (.string x.t.nm) ∧ wr.cell? ⟨b2, o2 + k * 8, none⟩ = some (.int .i64 y.t.id) ∧ wr.cell? ⟨b2, o2 + k * 8 + 1, none⟩ = some (.int .i64 y.t.st) ∧ wr.cell? ⟨b2, o2 + k * 8 + 2, none⟩ = some (.int .i64 y.t.snap) ∧ wr.cell? ⟨b2, o2 + k * 8 + 3, none⟩ = some (.int .i64 y.t.cs) ∧ wr.cell? ⟨b2, o2 + k * 8 + 4, none⟩ = some (.slice y.ra y.t.rs.length y.rc) ∧ wr.cell? ⟨b2, o2 + k * 8 + 5, none⟩ = some (.slice y.wa y.t.ws.length y.wc) ∧ wr.cell? ⟨b2, o2 + k * 8 + 6, none⟩ = some (.bool y.t.out) ∧ wr.cell? ⟨b2, o2 + k * 8 + 7, none⟩ = some (.string y.t.nm) := ⟨q1.c0, q1.c1, q1.c2, q1.c3, q1.c4, q1.c5, q1.c6, q1.c7, q2.c0, q2.c1, q2.c2, q2.c3, q2.c4, q2.c5, q2.c6, q2.c7⟩
   have Q1 := hide q1
   have Q2 := hide q2
   clear q1 q2 u1 u2 et hfx hkx hky
   have HB0 := hide HB.out
   go_wp2
   refine wp_region_held_drew (S := fun w' => w'.cell? ⟨b1, o1 + k * 8, none⟩ = some (.int .i64 x.t.id) ∧ w'.cell? ⟨b1, o1 + k * 8 + 1, none⟩ = some (.int .i64 x.t.st) ∧ w'.cell? ⟨b1, o1 + k * 8 + 2, none⟩ = some (.int .i64 x.t.snap) ∧ w'.cell? ⟨b1, o1 + k * 8 + 3, none⟩ = some (.int .i64 x.t.cs) ∧ w'.cell? ⟨b1, o1 + k * 8 + 4, none⟩ = some (.slice x.ra x.t.rs.length x.rc) ∧ w'.cell? ⟨b1, o1 + k * 8 + 5, none⟩ = some (.slice x.wa x.t.ws.length x.wc) ∧ w'.cell? ⟨b1, o1 + k * 8 + 6, none⟩ = some (.bool x.t.out) ∧ w'.cell? ⟨b1, o1 + k * 8 + 7, none⟩ = some (.string x.t.nm) ∧ w'.cell? ⟨b2, o2 + k * 8, none⟩ = some (.int .i64 y.t.id) ∧ w'.cell? ⟨b2, o2 + k * 8 + 1, none⟩ = some (.int .i64 y.t.st) ∧ w'.cell? ⟨b2, o2 + k * 8 + 2, none⟩ = some (.int .i64 y.t.snap) ∧ w'.cell? ⟨b2, o2 + k * 8 + 3, none⟩ = some (.int .i64 y.t.cs) ∧ w'.cell? ⟨b2, o2 + k * 8 + 4, none⟩ = some (.slice y.ra y.t.rs.length y.rc) ∧ w'.cell? ⟨b2, o2 + k * 8 + 5, none⟩ = some (.slice y.wa y.t.ws.length y.wc) ∧ w'.cell? ⟨b2, o2 + k * 8 + 6, none⟩ = some (.bool y.t.out) ∧ w'.cell? ⟨b2, o2 + k * 8 + 7, none⟩ = some (.string y.t.nm)) (by kernel_rfl) hHd (fun hHeld => ?_)
   (refine ti 0 ?_; simp only [Act.put, tA, tB, tD, tE, tF])
   (refine ti 1 ?_; simp only [Act.put, tA, tB, tC, tD, tE, tF])
   (refine ti 2 ?_; simp only [Act.put, tA, tB, tC, tD, tE, tF])
   (refine ti 3 ?_; simp only [Act.put, tA, tB, tC, tD, tE, tF])
   (refine ti 4 ?_; simp only [Act.put, tA, tB, tC, tD, tE, tF])
   (refine ti 5 ?_; simp only [Act.put, tA, tB, tC, tD, tE, tF])
   (refine ti 6 ?_; simp only [Act.put, tA, tB, tC, tD, tE, tF])
   (refine ti 7 ?_; simp only [Act.put, tA, tB, tC, tD, tE, tF])
   refine wpAnyH_ready (rs := [8]) (by kernel_rfl) (by simp) ?_
   refine AllReadyH.cons rfl (fun K hK => ?_) AllReadyH.nil
   go_simp
   go_wp2_with fail
   refine (HE.out _ U1.out.drewT U2.out.drewT).mono ?_
   rintro e w2 ⟨rfl, hb2⟩
   have hbu := undrew hb2
   have hHd2 : w2.cell? ⟨b1, o1 + k * 8, none⟩ = some (.int .i64 x.t.id) ∧ w2.cell? ⟨b1, o1 + k * 8 + 1, none⟩ = some (.int .i64 x.t.st) ∧ w2.cell? ⟨b1, o1 + k * 8 + 2, none⟩ = some (.int .i64 x.t.snap) ∧ w2.cell? ⟨b1, o1 + k * 8 + 3, none⟩ = some (.int .i64 x.t.cs) ∧ w2.cell? ⟨b1, o1 + k * 8 + 4, none⟩ = some (.slice x.ra x.t.rs.length x.rc) ∧ w2.cell? ⟨b1, o1 + k * 8 + 5, none⟩ = some (.slice x.wa x.t.ws.length x.wc) ∧ w2.cell? ⟨b1, o1 + k * 8 + 6, none⟩ = some (.bool x.t.out) ∧ w2.cell? ⟨b1, o1 + k * 8 + 7, none⟩ = some (.string x.t.nm) ∧ w2.cell? ⟨b2, o2 + k * 8, none⟩ = some (.int .i64 y.t.id) ∧ w2.cell? ⟨b2, o2 + k * 8 + 1, none⟩ = some (.int .i64 y.t.st) ∧ w2.cell? ⟨b2, o2 + k * 8 + 2, none⟩ = some (.int .i64 y.t.snap) ∧ w2.cell? ⟨b2, o2 + k * 8 + 3, none⟩ = some (.int .i64 y.t.cs) ∧ w2.cell? ⟨b2, o2 + k * 8 + 4, none⟩ = some (.slice y.ra y.t.rs.length y.rc) ∧ w2.cell? ⟨b2, o2 + k * 8 + 5, none⟩ = some (.slice y.wa y.t.ws.length y.wc) ∧ w2.cell? ⟨b2, o2 + k * 8 + 6, none⟩ = some (.bool y.t.out) ∧ w2.cell? ⟨b2, o2 + k * 8 + 7, none⟩ = some (.string y.t.nm) := by
    have cb : ∀ o, w2.cell? ⟨b1, o, none⟩ = wr.cell? ⟨b1, o, none⟩ := fun o => hbu.cell (p := ⟨b1, o, none⟩) hl1
    have cc : ∀ o, w2.cell? ⟨b2, o, none⟩ = wr.cell? ⟨b2, o, none⟩ := fun o => hbu.cell (p := ⟨b2, o, none⟩) hl2
    simp only [cb, cc]
    exact hHd
   go_wp2_with fail
   refine hK.out _ _ hHd2 (fun hHeld2 => ?_)
   have HB2 : Hid (Below w.heap.size w w2) := HB0.out.trans (hbu.mono HB0.out.size)
   clear hK K hb2 hbu hHd hHd2
   (refine ti 9 ?_; simp only [Act.put, tA, tB, tC, tD, tE, tF])
   refine wpAnyH_done (by kernel_rfl) ?_ _
   go_wp2
   go_roundw
   case rel => exact ⟨k + 1, by omega, by go_num, HB2⟩
   case measure => simp [intOf]; omega
  ·have hd : ¬ (k : Int) < (n : Int) := by omega
   go_wp2
   go_ret
   exact ⟨rfl, HB.out⟩

end Go.Proofs.YtjieojfcmigcdaaGreatDoor

namespace Go.Proofs.YtjieojfcmigcdaaGreatDoor
open Go.RowKit
open KM
attribute [local go_sem ↓] Go.wp_at_zero Go.wp_at_succ

end Go.Proofs.YtjieojfcmigcdaaGreatDoor

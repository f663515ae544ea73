/- What laws' szTxn, toTxn and eqTxn do. -/
import Derived.Test.YtjeicgibddfifaaPa01
import Derived.Deep.RegionHeld
import Derived.Maps.OwnSet
import Derived.StringKeys
import Derived.Deep.RegionHeld3
namespace Go.Proofs.Ytjeicgibddfifaa
open Go.RowKit
open KM
attribute [local go_sem ↓] Go.wp_at_zero Go.wp_at_succ

theorem Lies.mono {α : Type} {E : Enc α} {e : TypeId} {w : World} {lo lo' hi hi' : Nat} {v : Value} {xs : List α} (h : Lies E e w lo hi v xs) (h1 : lo' ≤ lo) (h2 : hi ≤ hi') : Lies E e w lo' hi' v xs := ⟨h.own.mono h1, fun g hg => Nat.lt_of_lt_of_le (h.up g hg) h2⟩
structure TLie (w : World) (lo hi : Nat) (t : Tx) (ra : Option Addr) (rc : Nat) (wa : Option Addr) (wc : Nat) : Prop where
 ex : ∃ m, lo ≤ m ∧ m ≤ hi ∧ Lies encR 87 w lo m (.slice ra t.rs.length rc) t.rs ∧ Lies encW 89 w m hi (.slice wa t.ws.length wc) t.ws
theorem TLie.row {w : World} {lo hi : Nat} {t : Tx} {ra wa : Option Addr} {rc wc : Nat} (h : TLie w lo hi t ra rc wa wc) : TRow w t ra wa := by
 obtain ⟨m, _, _, h1, h2⟩ := h.ex
 exact ⟨h1.own.grow, h2.own.grow⟩
theorem TLie.below {w w' : World} {lo hi : Nat} {t : Tx} {ra wa : Option Addr} {rc wc : Nat} (h : TLie w lo hi t ra rc wa wc) (hb : Below w.heap.size w w') : TLie w' lo hi t ra rc wa wc := by
 obtain ⟨m, a, b, h1, h2⟩ := h.ex
 exact ⟨m, a, b, h1.below hb, h2.below hb⟩
theorem TLie.mono {w : World} {lo lo' hi hi' : Nat} {t : Tx} {ra wa : Option Addr} {rc wc : Nat} (h : TLie w lo hi t ra rc wa wc) (h1 : lo' ≤ lo) (h2 : hi ≤ hi') : TLie w lo' hi' t ra rc wa wc := by
 obtain ⟨m, p, q, k1, k2⟩ := h.ex
 exact ⟨m, Nat.le_trans h1 p, Nat.le_trans q h2, k1.mono h1 (Nat.le_refl _), k2.mono (Nat.le_refl _) h2⟩
structure TArg (w : World) (t : Tx) (ra wa : Option Addr) : Prop where
 rl : t.rs.length ≤ maxLen
 rf : ∀ x ∈ t.rs, x.1.size ≤ maxLen ∧ x.2.size ≤ maxLen
 wl : t.ws.length ≤ maxLen
 wf : ∀ x ∈ t.ws, x.1.size ≤ maxLen ∧ x.2.1.size ≤ maxLen
 nm : t.nm.size ≤ maxLen
 row : TRow w t ra wa

set_option maxRecDepth 100000 in
set_option maxHeartbeats 2000000 in
theorem eqT (t : Tx) (ra wa ra2 wa2 : Option Addr) (rc wc rc2 wc2 : Nat) (hr : t.rs.length ≤ 100000000) (hw : t.ws.length ≤ 100000000) (w : World) (hp : TRow w t ra wa) (hq : TRow w t ra2 wa2) :
  Calls Try.prog 37 #[.agg #[.int .i64 t.id, .int .i64 t.st, .int .i64 t.snap, .int .i64 t.cs, .slice ra t.rs.length rc, .slice wa t.ws.length wc, .bool t.out, .string t.nm], .agg #[.int .i64 t.id, .int .i64 t.st, .int .i64 t.snap, .int .i64 t.cs, .slice ra2 t.rs.length rc2, .slice wa2 t.ws.length wc2, .bool t.out, .string t.nm]] w fun e w' => e = .returned (.bool true) ∧ Below w.heap.size w w' := by
 have HP : Hid (TRow w t ra wa) := hp
 have HQ : Hid (TRow w t ra2 wa2) := hq
 clear hp hq
 have n0 := ne_self_int t.id
 have n1 := ne_self_int t.st
 have n2 := ne_self_int t.snap
 have n3 := ne_self_int t.cs
 have n6 := bne_self' t.out
 have BA0 : Hid (Bx ((w.alloc (.cells #[.int .i64 t.id, .int .i64 t.st, .int .i64 t.snap, .int .i64 t.cs, .slice ra t.rs.length rc, .slice wa t.ws.length wc, .bool t.out, .string t.nm] 51)).alloc (.cells #[.int .i64 t.id, .int .i64 t.st, .int .i64 t.snap, .int .i64 t.cs, .slice ra2 t.rs.length rc2, .slice wa2 t.ws.length wc2, .bool t.out, .string t.nm] 51)) w.heap.size [.int .i64 t.id, .int .i64 t.st, .int .i64 t.snap, .int .i64 t.cs, .slice ra t.rs.length rc, .slice wa t.ws.length wc, .bool t.out, .string t.nm]) := (Bx.new w [.int .i64 t.id, .int .i64 t.st, .int .i64 t.snap, .int .i64 t.cs, .slice ra t.rs.length rc, .slice wa t.ws.length wc, .bool t.out, .string t.nm] 51).alloc _
 have BB0 : Hid (Bx ((w.alloc (.cells #[.int .i64 t.id, .int .i64 t.st, .int .i64 t.snap, .int .i64 t.cs, .slice ra t.rs.length rc, .slice wa t.ws.length wc, .bool t.out, .string t.nm] 51)).alloc (.cells #[.int .i64 t.id, .int .i64 t.st, .int .i64 t.snap, .int .i64 t.cs, .slice ra2 t.rs.length rc2, .slice wa2 t.ws.length wc2, .bool t.out, .string t.nm] 51)) (w.heap.size + 1) [.int .i64 t.id, .int .i64 t.st, .int .i64 t.snap, .int .i64 t.cs, .slice ra2 t.rs.length rc2, .slice wa2 t.ws.length wc2, .bool t.out, .string t.nm]) := by
  have h := Bx.new (w.alloc (.cells #[.int .i64 t.id, .int .i64 t.st, .int .i64 t.snap, .int .i64 t.cs, .slice ra t.rs.length rc, .slice wa t.ws.length wc, .bool t.out, .string t.nm] 51)) [.int .i64 t.id, .int .i64 t.st, .int .i64 t.snap, .int .i64 t.cs, .slice ra2 t.rs.length rc2, .slice wa2 t.ws.length wc2, .bool t.out, .string t.nm] 51
  rw [show (w.alloc (.cells #[.int .i64 t.id, .int .i64 t.st, .int .i64 t.snap, .int .i64 t.cs, .slice ra t.rs.length rc, .slice wa t.ws.length wc, .bool t.out, .string t.nm] 51)).heap.size = w.heap.size + 1 by simp] at h
  exact h
 have HB0 : Hid (Below w.heap.size w ((w.alloc (.cells #[.int .i64 t.id, .int .i64 t.st, .int .i64 t.snap, .int .i64 t.cs, .slice ra t.rs.length rc, .slice wa t.ws.length wc, .bool t.out, .string t.nm] 51)).alloc (.cells #[.int .i64 t.id, .int .i64 t.st, .int .i64 t.snap, .int .i64 t.cs, .slice ra2 t.rs.length rc2, .slice wa2 t.ws.length wc2, .bool t.out, .string t.nm] 51))) := ((belowRefl w).alloc (Nat.le_refl _) _).alloc (by simp) _
 go_enter Try.func37, Try.ntmps37
 go_wp2_with fail
 refine (eqSR ra ra2 rc rc2 t.rs hr _ (HP.out.r.below HB0.out) (HQ.out.r.below HB0.out)).mono ?_
 rintro e w1 ⟨rfl, hb1⟩
 have BA1 : Hid (Bx w1 w.heap.size [.int .i64 t.id, .int .i64 t.st, .int .i64 t.snap, .int .i64 t.cs, .slice ra t.rs.length rc, .slice wa t.ws.length wc, .bool t.out, .string t.nm]) := BA0.out.below hb1
 have BB1 : Hid (Bx w1 (w.heap.size + 1) [.int .i64 t.id, .int .i64 t.st, .int .i64 t.snap, .int .i64 t.cs, .slice ra2 t.rs.length rc2, .slice wa2 t.ws.length wc2, .bool t.out, .string t.nm]) := BB0.out.below hb1
 have HB1 : Hid (Below w.heap.size w w1) := HB0.out.trans (hb1.mono HB0.out.size)
 clear hb1 BA0 BB0 HB0
 have x5 := BA1.out.c5
 have y5 := BB1.out.c5
 go_wp2_with fail
 refine (eqSW wa wa2 wc wc2 t.ws hw _ (HP.out.w.below HB1.out) (HQ.out.w.below HB1.out)).mono ?_
 rintro e w2 ⟨rfl, hb2⟩
 have BA2 : Hid (Bx w2 w.heap.size [.int .i64 t.id, .int .i64 t.st, .int .i64 t.snap, .int .i64 t.cs, .slice ra t.rs.length rc, .slice wa t.ws.length wc, .bool t.out, .string t.nm]) := BA1.out.below hb2
 have BB2 : Hid (Bx w2 (w.heap.size + 1) [.int .i64 t.id, .int .i64 t.st, .int .i64 t.snap, .int .i64 t.cs, .slice ra2 t.rs.length rc2, .slice wa2 t.ws.length wc2, .bool t.out, .string t.nm]) := BB1.out.below hb2
 have HB2 : Hid (Below w.heap.size w w2) := HB1.out.trans (hb2.mono HB1.out.size)
 clear hb2 BA1 BB1 HB1 x5 y5
 have x6 := BA2.out.c6
 have y6 := BB2.out.c6
 have x7 := BA2.out.c7
 have y7 := BB2.out.c7
 go_wp2
 go_ret
 exact ⟨rfl, HB2.out⟩
end Go.Proofs.Ytjeicgibddfifaa

namespace Go.Proofs.Ytjeicgibddfifaa
open Go.RowKit
open KM
attribute [local go_sem ↓] Go.wp_at_zero Go.wp_at_succ

end Go.Proofs.Ytjeicgibddfifaa

namespace Go.Proofs.Ytjeicgibddfifaa
open Go.RowKit
open KM
attribute [local go_sem ↓] Go.wp_at_zero Go.wp_at_succ

end Go.Proofs.Ytjeicgibddfifaa

namespace Go.Proofs.Ytjeicgibddfifaa
open Go.RowKit Go.WideMaps Go.Maps
open KM
attribute [local go_sem ↓] Go.wp_at_zero Go.wp_at_succ

end Go.Proofs.Ytjeicgibddfifaa

namespace Go.Proofs.Ytjeicgibddfifaa
open Go.RowKit
open KM
attribute [local go_sem ↓] Go.wp_at_zero Go.wp_at_succ

end Go.Proofs.Ytjeicgibddfifaa

namespace Go.Proofs.Ytjeicgibddfifaa
open Go.RowKit
open KM
attribute [local go_sem ↓] Go.wp_at_zero Go.wp_at_succ

end Go.Proofs.Ytjeicgibddfifaa

namespace Go.Proofs.Ytjeicgibddfifaa
open Go.RowKit
open KM
attribute [local go_sem ↓] Go.wp_at_zero Go.wp_at_succ

theorem TRow.drewT {w : World} {t : Tx} {ra wa : Option Addr} (h : TRow w t ra wa) : TRow w.drew t ra wa := ⟨h.r.drew, h.w.drew⟩
theorem undrew {w w' : World} (h : Below w.drew.heap.size w.drew w') : Below w.heap.size w w' := (belowRefl w).drew.trans h

end Go.Proofs.Ytjeicgibddfifaa

namespace Go.Proofs.Ytjeicgibddfifaa
open Go.RowKit
open KM
attribute [local go_sem ↓] Go.wp_at_zero Go.wp_at_succ

structure Ta where
 t : Tx
 ra : Option Addr
 rc : Nat
 wa : Option Addr
 wc : Nat
def encT : Enc Ta := ⟨fun x => [.int .i64 x.t.id, .int .i64 x.t.st, .int .i64 x.t.snap, .int .i64 x.t.cs, .slice x.ra x.t.rs.length x.rc, .slice x.wa x.t.ws.length x.wc, .bool x.t.out, .string x.t.nm], 8, by decide, fun _ => rfl⟩
structure Cls (w : World) (b o : Nat) (x : Ta) : Prop where
 c0 : w.cell? ⟨b, o, none⟩ = some (.int .i64 x.t.id)
 c1 : w.cell? ⟨b, o + 1, none⟩ = some (.int .i64 x.t.st)
 c2 : w.cell? ⟨b, o + 2, none⟩ = some (.int .i64 x.t.snap)
 c3 : w.cell? ⟨b, o + 3, none⟩ = some (.int .i64 x.t.cs)
 c4 : w.cell? ⟨b, o + 4, none⟩ = some (.slice x.ra x.t.rs.length x.rc)
 c5 : w.cell? ⟨b, o + 5, none⟩ = some (.slice x.wa x.t.ws.length x.wc)
 c6 : w.cell? ⟨b, o + 6, none⟩ = some (.bool x.t.out)
 c7 : w.cell? ⟨b, o + 7, none⟩ = some (.string x.t.nm)
theorem tat {w : World} {b off : Nat} {xs : List Ta} (hc : ∀ j (hj : j < xs.length) i, i < encT.size → w.cell? ⟨b, off + j * encT.size + i, none⟩ = (encT.enc xs[j])[i]?) (j : Nat) (hj : j < xs.length) : Cls w b (off + j * 8) xs[j] :=
 ⟨by simpa [encT] using hc j hj 0 (by decide), by simpa [encT] using hc j hj 1 (by decide), by simpa [encT] using hc j hj 2 (by decide), by simpa [encT] using hc j hj 3 (by decide), by simpa [encT] using hc j hj 4 (by decide), by simpa [encT] using hc j hj 5 (by decide), by simpa [encT] using hc j hj 6 (by decide), by simpa [encT] using hc j hj 7 (by decide)⟩
structure TRows (w : World) (a : Option Addr) (xs : List Ta) : Prop where
 row : GRow encT w a xs
 each : ∀ x ∈ xs, TRow w x.t x.ra x.wa
theorem TRows.below {w w' : World} {a : Option Addr} {xs : List Ta} (h : TRows w a xs) (hb : Below w.heap.size w w') : TRows w' a xs := ⟨h.row.below hb, fun x hx => (h.each x hx).below hb⟩
theorem TRows.cls {w : World} {a : Option Addr} {xs : List Ta} (h : TRows w a xs) (k : Nat) (hk : k < xs.length) : ∃ b off, a = some ⟨b, off, none⟩ ∧ b < w.heap.size ∧ Cls w b (off + k * 8) xs[k] ∧ TRow w xs[k].t xs[k].ra xs[k].wa := by
 obtain ⟨b, off, rfl, hbl, hc⟩ := h.row (by omega)
 exact ⟨b, off, rfl, hbl, tat hc k hk, h.each _ (List.getElem_mem hk)⟩
structure LArg (w : World) (a : Option Addr) (xs : List Ta) : Prop where
 len : xs.length ≤ maxLen
 each : ∀ x ∈ xs, TArg w x.t x.ra x.wa
 row : GRow encT w a xs
theorem TArg.below {w w' : World} {t : Tx} {ra wa : Option Addr} (h : TArg w t ra wa) (hb : Below w.heap.size w w') : TArg w' t ra wa := ⟨h.rl, h.rf, h.wl, h.wf, h.nm, h.row.below hb⟩
theorem LArg.below {w w' : World} {a : Option Addr} {xs : List Ta} (h : LArg w a xs) (hb : Below w.heap.size w w') : LArg w' a xs := ⟨h.len, fun x hx => (h.each x hx).below hb, h.row.below hb⟩
def LFit (ts : List Tx) : Prop := ts.length ≤ 1048576 ∧ ∀ t ∈ ts, TFit t
def LFw (ts : List Tx) : Prop := True ∧ ∀ t ∈ ts, TFit t
theorem LFit.w {ts : List Tx} (h : LFit ts) : LFw ts := ⟨trivial, h.2⟩
def txs (xs : List Ta) : List Tx := xs.map (·.t)
theorem txs_len (xs : List Ta) : (txs xs).length = xs.length := by simp [txs]

end Go.Proofs.Ytjeicgibddfifaa

namespace Go.Proofs.Ytjeicgibddfifaa
open Go.RowKit
open KM
attribute [local go_sem ↓] Go.wp_at_zero Go.wp_at_succ

set_option maxRecDepth 100000 in
set_option maxHeartbeats 2000000 in
theorem eqL (xs ys : List Ta) (a1 a2 : Option Addr) (c1 c2 n : Nat) (hx : n = xs.length) (hy : n = ys.length) (hn : n ≤ 100000000) (ht : txs xs = txs ys) (hf : LFit (txs xs)) (w : World) (h1 : TRows w a1 xs) (h2 : TRows w a2 ys) :
  Calls Try.prog 20 #[.slice a1 n c1, .slice a2 n c2] w fun e w' => e = .returned (.bool true) ∧ Below w.heap.size w w' := by
 have H1 : Hid (TRows w a1 xs) := h1
 have H2 : Hid (TRows w a2 ys) := h2
 have HT : Hid (txs xs = txs ys) := ht
 have HF : Hid (LFit (txs xs)) := hf
 have HX : Hid (n = xs.length) := hx
 have HY : Hid (n = ys.length) := hy
 clear h1 h2 ht hf hx hy
 go_enter Try.func20, Try.ntmps20
 go_wp2
 go_loopw [5] (fun t wr => ∃ k : Nat, k ≤ n ∧ t = .int .i64 k ∧ Hid (Below w.heap.size w wr)) (fun t _ => n - (intOf t).toNat)
 case atStart => exact ⟨0, Nat.zero_le _, rfl, Below.refl _ _⟩
 case round =>
  obtain ⟨k, hk, rfl, HB⟩ := hrel
  by_cases hlt : k < n
  ·have hlt' : (k : Int) < (n : Int) := by omega
   have h0 : (0 : Int) ≤ (k : Int) := by omega
   have hkx : k < xs.length := by rw [← HX.out]; exact hlt
   have hky : k < ys.length := by rw [← HY.out]; exact hlt
   obtain ⟨b1, o1, rfl, hl1, q1, u1⟩ := (H1.out.below HB.out).cls k hkx
   obtain ⟨b2, o2, rfl, hl2, q2, u2⟩ := (H2.out.below HB.out).cls k hky
   have et : xs[k].t = ys[k].t := by
    have h := congrArg (fun l : List Tx => l[k]?) HT.out
    simpa [txs, List.getElem?_eq_getElem hkx, List.getElem?_eq_getElem hky] using h
   have hfx : TFit xs[k].t := HF.out.2 _ (List.mem_map.2 ⟨_, List.getElem_mem hkx, rfl⟩)
   obtain ⟨x, hx⟩ : ∃ x, x = xs[k] := ⟨_, rfl⟩
   obtain ⟨y, hy⟩ : ∃ y, y = ys[k] := ⟨_, rfl⟩
   rw [← hx] at q1 u1 et hfx
   rw [← hy] at q2 u2 et
   clear hx hy
   have HE : Hid (∀ W : World, TRow W x.t x.ra x.wa → TRow W x.t y.ra y.wa → Calls Try.prog 37 #[.agg #[.int .i64 x.t.id, .int .i64 x.t.st, .int .i64 x.t.snap, .int .i64 x.t.cs, .slice x.ra x.t.rs.length x.rc, .slice x.wa x.t.ws.length x.wc, .bool x.t.out, .string x.t.nm], .agg #[.int .i64 y.t.id, .int .i64 y.t.st, .int .i64 y.t.snap, .int .i64 y.t.cs, .slice y.ra y.t.rs.length y.rc, .slice y.wa y.t.ws.length y.wc, .bool y.t.out, .string y.t.nm]] W fun e w' => e = .returned (.bool true) ∧ Below W.heap.size W w') := by
    intro W g1 g2
    rw [← et]
    exact eqT x.t x.ra x.wa y.ra y.wa x.rc x.wc y.rc y.wc (Nat.le_trans hfx.1 (by omega)) (Nat.le_trans hfx.2.2.1 (by omega)) W g1 g2
   have U1 : Hid (TRow wr x.t x.ra x.wa) := u1
   have U2 : Hid (TRow wr x.t y.ra y.wa) := by rw [et]; exact u2
   have hHd : wr.cell? ⟨b1, o1 + k * 8, none⟩ = some (.int .i64 x.t.id) ∧ wr.cell? ⟨b1, o1 + k * 8 + 1, none⟩ = some (.int .i64 x.t.st) ∧ wr.cell? ⟨b1, o1 + k * 8 + 2, none⟩ = some (.int .i64 x.t.snap) ∧ wr.cell? ⟨b1, o1 + k * 8 + 3, none⟩ = some (.int .i64 x.t.cs) ∧ wr.cell? ⟨b1, o1 + k * 8 + 4, none⟩ = some (.slice x.ra x.t.rs.length x.rc) ∧ wr.cell? ⟨b1, o1 + k * 8 + 5, none⟩ = some (.slice x.wa x.t.ws.length x.wc) ∧ wr.cell? ⟨b1, o1 + k * 8 + 6, none⟩ = some (.bool x.t.out) ∧ wr.cell? ⟨b1, o1 + k * 8 + 7, none⟩ = some (.string x.t.nm) ∧ wr.cell? ⟨b2, o2 + k * 8, none⟩ = some (.int .i64 y.t.id) ∧ wr.cell? ⟨b2, o2 + k * 8 + 1, none⟩ = some (.int .i64 y.t.st) ∧ wr.cell? ⟨b2, o2 + k * 8 + 2, none⟩ = some (.int .i64 y.t.snap) ∧ wr.cell? ⟨b2, o2 + k * 8 + 3, none⟩ = some (.int .i64 y.t.cs) ∧ wr.cell? ⟨b2, o2 + k * 8 + 4, none⟩ = some (.slice y.ra y.t.rs.length y.rc) ∧ wr.cell? ⟨b2, o2 + k * 8 + 5, none⟩ = some (.slice y.wa y.t.ws.length y.wc) ∧ wr.cell? ⟨b2, o2 + k * 8 + 6, none⟩ = some (.bool y.t.out) ∧ wr.cell? ⟨b2, o2 + k * 8 + 7, none⟩ = some (.string y.t.nm) := ⟨q1.c0, q1.c1, q1.c2, q1.c3, q1.c4, q1.c5, q1.c6, q1.c7, q2.c0, q2.c1, q2.c2, q2.c3, q2.c4, q2.c5, q2.c6, q2.c7⟩
   have Q1 := hide q1
   have Q2 := hide q2
   clear q1 q2 u1 u2 et hfx hkx hky
   have HB0 := hide HB.out
   go_wp2
   refine wp_region_held_drew (S := fun w' => w'.cell? ⟨b1, o1 + k * 8, none⟩ = some (.int .i64 x.t.id) ∧ w'.cell? ⟨b1, o1 + k * 8 + 1, none⟩ = some (.int .i64 x.t.st) ∧ w'.cell? ⟨b1, o1 + k * 8 + 2, none⟩ = some (.int .i64 x.t.snap) ∧ w'.cell? ⟨b1, o1 + k * 8 + 3, none⟩ = some (.int .i64 x.t.cs) ∧ w'.cell? ⟨b1, o1 + k * 8 + 4, none⟩ = some (.slice x.ra x.t.rs.length x.rc) ∧ w'.cell? ⟨b1, o1 + k * 8 + 5, none⟩ = some (.slice x.wa x.t.ws.length x.wc) ∧ w'.cell? ⟨b1, o1 + k * 8 + 6, none⟩ = some (.bool x.t.out) ∧ w'.cell? ⟨b1, o1 + k * 8 + 7, none⟩ = some (.string x.t.nm) ∧ w'.cell? ⟨b2, o2 + k * 8, none⟩ = some (.int .i64 y.t.id) ∧ w'.cell? ⟨b2, o2 + k * 8 + 1, none⟩ = some (.int .i64 y.t.st) ∧ w'.cell? ⟨b2, o2 + k * 8 + 2, none⟩ = some (.int .i64 y.t.snap) ∧ w'.cell? ⟨b2, o2 + k * 8 + 3, none⟩ = some (.int .i64 y.t.cs) ∧ w'.cell? ⟨b2, o2 + k * 8 + 4, none⟩ = some (.slice y.ra y.t.rs.length y.rc) ∧ w'.cell? ⟨b2, o2 + k * 8 + 5, none⟩ = some (.slice y.wa y.t.ws.length y.wc) ∧ w'.cell? ⟨b2, o2 + k * 8 + 6, none⟩ = some (.bool y.t.out) ∧ w'.cell? ⟨b2, o2 + k * 8 + 7, none⟩ = some (.string y.t.nm)) (by kernel_rfl) hHd (fun hHeld => ?_)
   (refine wpAnyH_take (i := 0) (v := ?_) rfl (by kernel_rfl) (by kernel_rfl) (by kernel_rfl) (fun _ _ _ h => h) (Or.inl ⟨by rfl, ?_⟩) (by assumption) ?_; rotate_left; (focus (intro w hSw; (try dsimp only at hSw); go_simp; (try with_reducible rfl); done)); simp only [Act.put, List.getElem_toArray, List.getElem_cons_zero, List.setIfInBounds_toArray, List.set_cons_zero, List.set_cons_succ])
   (refine wpAnyH_take (i := 1) (v := ?_) rfl (by kernel_rfl) (by kernel_rfl) (by kernel_rfl) (fun _ _ _ h => h) (Or.inl ⟨by rfl, ?_⟩) (by assumption) ?_; rotate_left; (focus (intro w hSw; (try dsimp only at hSw); go_simp; (try with_reducible rfl); done)); simp only [Act.put, List.getElem_toArray, List.getElem_cons_zero, List.getElem_cons_succ, List.setIfInBounds_toArray, List.set_cons_zero, List.set_cons_succ])
   (refine wpAnyH_take (i := 2) (v := ?_) rfl (by kernel_rfl) (by kernel_rfl) (by kernel_rfl) (fun _ _ _ h => h) (Or.inl ⟨by rfl, ?_⟩) (by assumption) ?_; rotate_left; (focus (intro w hSw; (try dsimp only at hSw); go_simp; (try with_reducible rfl); done)); simp only [Act.put, List.getElem_toArray, List.getElem_cons_zero, List.getElem_cons_succ, List.setIfInBounds_toArray, List.set_cons_zero, List.set_cons_succ])
   (refine wpAnyH_take (i := 3) (v := ?_) rfl (by kernel_rfl) (by kernel_rfl) (by kernel_rfl) (fun _ _ _ h => h) (Or.inl ⟨by rfl, ?_⟩) (by assumption) ?_; rotate_left; (focus (intro w hSw; (try dsimp only at hSw); go_simp; (try with_reducible rfl); done)); simp only [Act.put, List.getElem_toArray, List.getElem_cons_zero, List.getElem_cons_succ, List.setIfInBounds_toArray, List.set_cons_zero, List.set_cons_succ])
   (refine wpAnyH_take (i := 4) (v := ?_) rfl (by kernel_rfl) (by kernel_rfl) (by kernel_rfl) (fun _ _ _ h => h) (Or.inl ⟨by rfl, ?_⟩) (by assumption) ?_; rotate_left; (focus (intro w hSw; (try dsimp only at hSw); go_simp; (try with_reducible rfl); done)); simp only [Act.put, List.getElem_toArray, List.getElem_cons_zero, List.getElem_cons_succ, List.setIfInBounds_toArray, List.set_cons_zero, List.set_cons_succ])
   (refine wpAnyH_take (i := 5) (v := ?_) rfl (by kernel_rfl) (by kernel_rfl) (by kernel_rfl) (fun _ _ _ h => h) (Or.inl ⟨by rfl, ?_⟩) (by assumption) ?_; rotate_left; (focus (intro w hSw; (try dsimp only at hSw); go_simp; (try with_reducible rfl); done)); simp only [Act.put, List.getElem_toArray, List.getElem_cons_zero, List.getElem_cons_succ, List.setIfInBounds_toArray, List.set_cons_zero, List.set_cons_succ])
   (refine wpAnyH_take (i := 6) (v := ?_) rfl (by kernel_rfl) (by kernel_rfl) (by kernel_rfl) (fun _ _ _ h => h) (Or.inl ⟨by rfl, ?_⟩) (by assumption) ?_; rotate_left; (focus (intro w hSw; (try dsimp only at hSw); go_simp; (try with_reducible rfl); done)); simp only [Act.put, List.getElem_toArray, List.getElem_cons_zero, List.getElem_cons_succ, List.setIfInBounds_toArray, List.set_cons_zero, List.set_cons_succ])
   (refine wpAnyH_take (i := 7) (v := ?_) rfl (by kernel_rfl) (by kernel_rfl) (by kernel_rfl) (fun _ _ _ h => h) (Or.inl ⟨by rfl, ?_⟩) (by assumption) ?_; rotate_left; (focus (intro w hSw; (try dsimp only at hSw); go_simp; (try with_reducible rfl); done)); simp only [Act.put, List.getElem_toArray, List.getElem_cons_zero, List.getElem_cons_succ, List.setIfInBounds_toArray, List.set_cons_zero, List.set_cons_succ])
   refine wpAnyH_ready (rs := [8]) (by kernel_rfl) (by simp) ?_
   refine AllReadyH.cons rfl (fun K hK => ?_) AllReadyH.nil
   go_simp
   go_wp2_with fail
   refine (HE.out _ U1.out.drewT U2.out.drewT).mono ?_
   rintro e w2 ⟨rfl, hb2⟩
   have hbu := undrew hb2
   have hHd2 : w2.cell? ⟨b1, o1 + k * 8, none⟩ = some (.int .i64 x.t.id) ∧ w2.cell? ⟨b1, o1 + k * 8 + 1, none⟩ = some (.int .i64 x.t.st) ∧ w2.cell? ⟨b1, o1 + k * 8 + 2, none⟩ = some (.int .i64 x.t.snap) ∧ w2.cell? ⟨b1, o1 + k * 8 + 3, none⟩ = some (.int .i64 x.t.cs) ∧ w2.cell? ⟨b1, o1 + k * 8 + 4, none⟩ = some (.slice x.ra x.t.rs.length x.rc) ∧ w2.cell? ⟨b1, o1 + k * 8 + 5, none⟩ = some (.slice x.wa x.t.ws.length x.wc) ∧ w2.cell? ⟨b1, o1 + k * 8 + 6, none⟩ = some (.bool x.t.out) ∧ w2.cell? ⟨b1, o1 + k * 8 + 7, none⟩ = some (.string x.t.nm) ∧ w2.cell? ⟨b2, o2 + k * 8, none⟩ = some (.int .i64 y.t.id) ∧ w2.cell? ⟨b2, o2 + k * 8 + 1, none⟩ = some (.int .i64 y.t.st) ∧ w2.cell? ⟨b2, o2 + k * 8 + 2, none⟩ = some (.int .i64 y.t.snap) ∧ w2.cell? ⟨b2, o2 + k * 8 + 3, none⟩ = some (.int .i64 y.t.cs) ∧ w2.cell? ⟨b2, o2 + k * 8 + 4, none⟩ = some (.slice y.ra y.t.rs.length y.rc) ∧ w2.cell? ⟨b2, o2 + k * 8 + 5, none⟩ = some (.slice y.wa y.t.ws.length y.wc) ∧ w2.cell? ⟨b2, o2 + k * 8 + 6, none⟩ = some (.bool y.t.out) ∧ w2.cell? ⟨b2, o2 + k * 8 + 7, none⟩ = some (.string y.t.nm) := by
    have cb : ∀ o, w2.cell? ⟨b1, o, none⟩ = wr.cell? ⟨b1, o, none⟩ := fun o => hbu.cell (p := ⟨b1, o, none⟩) hl1
    have cc : ∀ o, w2.cell? ⟨b2, o, none⟩ = wr.cell? ⟨b2, o, none⟩ := fun o => hbu.cell (p := ⟨b2, o, none⟩) hl2
    simp only [cb, cc]
    exact hHd
   go_wp2_with fail
   refine hK.out _ _ hHd2 (fun hHeld2 => ?_)
   have HB2 : Hid (Below w.heap.size w w2) := HB0.out.trans (hbu.mono HB0.out.size)
   clear hK K hb2 hbu hHd hHd2
   (refine wpAnyH_take (i := 9) (v := ?_) rfl (by kernel_rfl) (by kernel_rfl) (by kernel_rfl) (fun _ _ _ h => h) (Or.inl ⟨by rfl, ?_⟩) (by assumption) ?_; rotate_left; (focus (intro w hSw; (try dsimp only at hSw); go_simp; (try with_reducible rfl); done)); simp only [Act.put, List.getElem_toArray, List.getElem_cons_zero, List.getElem_cons_succ, List.setIfInBounds_toArray, List.set_cons_zero, List.set_cons_succ])
   refine wpAnyH_done (by kernel_rfl) ?_ _
   go_wp2
   go_roundw
   case rel => exact ⟨k + 1, by omega, by go_num, HB2⟩
   case measure => simp [intOf]; omega
  ·have hd : ¬ (k : Int) < (n : Int) := by omega
   go_wp2
   go_ret
   exact ⟨rfl, HB.out⟩

end Go.Proofs.Ytjeicgibddfifaa

namespace Go.Proofs.Ytjeicgibddfifaa
open Go.RowKit
open KM
attribute [local go_sem ↓] Go.wp_at_zero Go.wp_at_succ

end Go.Proofs.Ytjeicgibddfifaa

namespace Go.Proofs.Ytjeicgibddfifaa
open Go.RowKit
open KM

end Go.Proofs.Ytjeicgibddfifaa

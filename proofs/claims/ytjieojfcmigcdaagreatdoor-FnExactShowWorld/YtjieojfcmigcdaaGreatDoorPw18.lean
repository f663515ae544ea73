/- Lists of those that look and change, in memory of their own: one row, and a zone for each. -/
import Derived.Test.YtjieojfcmigcdaaGreatDoorPw16
import Derived.Test.YtjieojfcmigcdaaGreatDoorPw17
namespace Go.Proofs.YtjieojfcmigcdaaGreatDoor
open Go.RowKit
open KM
attribute [local go_sem ↓] Go.wp_at_zero Go.wp_at_succ

def Av (v : Value) (p q : Nat) : Prop := ∀ g, v.ownBlock = some g → g < p ∨ q ≤ g
def Zs (w : World) (v : Value) : Nat → Nat → List Ta → Prop
 | lo, hi, [] => lo ≤ hi
 | lo, hi, y :: ys => ∃ p q, lo ≤ p ∧ p ≤ q ∧ TLie w p q y.t y.ra y.rc y.wa y.wc ∧ Av v p q ∧ Zs w v q hi ys
theorem Zs.le {w : World} {v : Value} : ∀ {ys : List Ta} {lo hi : Nat}, Zs w v lo hi ys → lo ≤ hi
 | [], _, _, h => h
 | _ :: _, _, _, ⟨_, _, h1, h2, _, _, h5⟩ => Nat.le_trans (Nat.le_trans h1 h2) h5.le
theorem Zs.below {w w' : World} {v : Value} (hb : Below w.heap.size w w') : ∀ {ys : List Ta} {lo hi : Nat}, Zs w v lo hi ys → Zs w' v lo hi ys
 | [], _, _, h => h
 | _ :: _, _, _, ⟨p, q, h1, h2, h3, h4, h5⟩ => ⟨p, q, h1, h2, h3.below hb, h4, h5.below hb⟩
theorem Zs.set {w : World} {v : Value} {a : Addr} (u : Value) : ∀ {ys : List Ta} {lo hi : Nat}, Zs w v lo hi ys → a.block < lo → Zs (w.setCell a u) v lo hi ys
 | [], _, _, h, _ => h
 | _ :: _, _, _, ⟨p, q, h1, h2, h3, h4, h5⟩, ha => ⟨p, q, h1, h2, h3.set (Nat.lt_of_lt_of_le ha h1) u, h4, h5.set u (by omega)⟩
theorem Zs.mono {w : World} {v : Value} : ∀ {ys : List Ta} {lo hi lo' hi' : Nat}, Zs w v lo hi ys → lo' ≤ lo → hi ≤ hi' → Zs w v lo' hi' ys
 | [], _, _, _, _, h, h1, h2 => Nat.le_trans h1 (Nat.le_trans h h2)
 | _ :: _, _, _, _, _, ⟨p, q, h1, h2, h3, h4, h5⟩, k1, k2 => ⟨p, q, Nat.le_trans k1 h1, h2, h3, h4, h5.mono (Nat.le_refl _) k2⟩
theorem Zs.snoc {w : World} {v : Value} {p q m hi : Nat} {y : Ta} (hm : m ≤ p) (hpq : p ≤ q) (hq : q ≤ hi) (hl : TLie w p q y.t y.ra y.rc y.wa y.wc) (ha : Av v p q) : ∀ {ys : List Ta} {lo : Nat}, Zs w v lo m ys → Zs w v lo hi (ys ++ [y])
 | [], _, h => ⟨p, q, Nat.le_trans h hm, hpq, hl, ha, hq⟩
 | _ :: _, _, ⟨p', q', h1, h2, h3, h4, h5⟩ => ⟨p', q', h1, h2, h3, h4, h5.snoc hm hpq hq hl ha⟩
theorem Zs.each {w : World} {v : Value} : ∀ {ys : List Ta} {lo hi : Nat}, Zs w v lo hi ys → ∀ y ∈ ys, TRow w y.t y.ra y.wa
 | [], _, _, _, _, hy => by cases hy
 | _ :: _, _, _, ⟨_, _, _, _, h3, _, h5⟩, y, hy => by
  rcases List.mem_cons.1 hy with rfl | hy
  ·exact h3.row
  ·exact h5.each y hy
theorem Zs.av {w : World} {v v' : Value} : ∀ {ys : List Ta} {lo hi : Nat}, Zs w v lo hi ys → (∀ p q, lo ≤ p → q ≤ hi → Av v p q → Av v' p q) → Zs w v' lo hi ys
 | [], _, _, h, _ => h
 | _ :: _, _, _, ⟨p, q, h1, h2, h3, h4, h5⟩, k => ⟨p, q, h1, h2, h3, k p q h1 h5.le h4, h5.av (fun a b ha hb => k a b (by omega) hb)⟩
theorem Zs.filter {w : World} {v : Value} (f : Ta → Bool) : ∀ {ys : List Ta} {lo hi : Nat}, Zs w v lo hi ys → Zs w v lo hi (ys.filter f)
 | [], _, _, h => h
 | y :: ys, _, _, ⟨p, q, h1, h2, h3, h4, h5⟩ => by
  rw [List.filter_cons]
  split
  ·exact ⟨p, q, h1, h2, h3, h4, h5.filter f⟩
  ·exact (h5.filter f).mono (by omega) (Nat.le_refl _)
structure LLie (w : World) (lo hi : Nat) (v : Value) (ys : List Ta) : Prop where
 own : Lies encT 116 w lo hi v ys
 zs : Zs w v lo hi ys
theorem LLie.below {w w' : World} {lo hi : Nat} {v : Value} {ys : List Ta} (h : LLie w lo hi v ys) (hb : Below w.heap.size w w') : LLie w' lo hi v ys := ⟨h.own.below hb, h.zs.below hb⟩
theorem LLie.mono {w : World} {lo hi lo' hi' : Nat} {v : Value} {ys : List Ta} (h : LLie w lo hi v ys) (h1 : lo' ≤ lo) (h2 : hi ≤ hi') : LLie w lo' hi' v ys := ⟨h.own.mono h1 h2, h.zs.mono h1 h2⟩
theorem LLie.set {w : World} {lo hi : Nat} {v : Value} {ys : List Ta} (h : LLie w lo hi v ys) {a : Addr} (ha : a.block < lo) (u : Value) : LLie (w.setCell a u) lo hi v ys := ⟨h.own.set ha u, h.zs.set u ha⟩
theorem LLie.rows {w : World} {lo hi c : Nat} {a : Option Addr} {ys : List Ta} (h : LLie w lo hi (.slice a ys.length c) ys) : TRows w a ys := ⟨h.own.own.grow, h.zs.each⟩

set_option maxRecDepth 100000 in
set_option maxHeartbeats 2000000 in
theorem toL2 (xs : List Ta) (a : Option Addr) (c : Nat) (hn : xs.length ≤ 100000000) (hf : LFit (txs xs)) (w : World) (hp : TRows w a xs) :
  Calls Tryz.prog 31 #[.slice a xs.length c] w fun e w' => ∃ (ys : List Ta) (a1 : Option Addr) (c1 : Nat), e = .returned (.slice a1 xs.length c1) ∧ txs ys = txs xs ∧ ys.length = xs.length ∧ LLie w' w.heap.size w'.heap.size (.slice a1 ys.length c1) ys ∧ Below w.heap.size w w' := by
 have HP : Hid (TRows w a xs) := hp
 have HF : Hid (LFit (txs xs)) := hf
 clear hp hf
 have hmk := mkRow8 37 116 8 _ _ Tryz.underlying37 Tryz.info116 xs.length hn (by omega)
 go_enter Tryz.func31, Tryz.ntmps31
 go_wp2
 clear hmk
 obtain ⟨cs0, hcs0⟩ : ∃ cs, cs = madeCells (Value.agg #[.int .i64 0, .int .i64 0, .int .i64 0, .int .i64 0, .slice none 0 0, .slice none 0 0, .bool false, .string ByteArray.empty]).cells (xs.length * 8) := ⟨_, rfl⟩
 have HO : Hid ((w.alloc (.cells cs0 116)).ownsRow w.heap.size 116 8 (.slice (some ⟨w.heap.size, 0, none⟩) xs.length xs.length) xs.length cs0.toList) :=
  World.ownsRow_lit w _ _ (Nat.le_refl _) (by unfold maxLen; omega) (by rw [hcs0, size_madeCells])
 rw [hcs0] at HO
 clear hcs0 cs0
 go_loopw [4] (fun t wr => ∃ (k : Nat) (cs : List Value) (ys : List Ta), k ≤ xs.length ∧ t = .int .i64 k ∧ Hid (ys.length = k) ∧ Hid (txs ys = (txs xs).take k) ∧ Hid (wr.ownsRow w.heap.size 116 8 (.slice (some ⟨w.heap.size, 0, none⟩) xs.length xs.length) xs.length cs) ∧ Hid (∀ j, j < k * 8 → cs[j]? = (encT.cells ys)[j]?) ∧ Hid (Zs wr (.slice (some ⟨w.heap.size, 0, none⟩) xs.length xs.length) (w.heap.size + 1) wr.heap.size ys) ∧ Hid (Below w.heap.size w wr)) (fun t _ => xs.length - (intOf t).toNat)
 case atStart => exact ⟨0, _, [], Nat.zero_le _, rfl, rfl, rfl, HO, (fun j hj => by omega), (show _ ≤ _ by simp), (belowRefl w).alloc (Nat.le_refl _) _⟩
 case round =>
  obtain ⟨k, cs, ys, hk, rfl, HYL, HYT, HX, HA, HY, HB⟩ := hrel
  by_cases hlt : k < xs.length
  ·have hlt' : (k : Int) < (xs.length : Int) := by omega
   have h0 : (0 : Int) ≤ (k : Int) := by omega
   obtain ⟨b, off, rfl, hbl, hc, ht⟩ := (HP.out.below HB.out).cls k hlt
   have hfx : TFit xs[k].t := HF.out.2 _ (List.mem_map.2 ⟨_, List.getElem_mem hlt, rfl⟩)
   obtain ⟨x, hx⟩ : ∃ x, x = xs[k] := ⟨_, rfl⟩
   rw [← hx] at hc ht hfx
   have HXX : Hid (x = xs[k]) := hx
   have HT : Hid (TRow wr x.t x.ra x.wa) := ht
   clear hx ht
   have r0 := hc.c0
   have r1 := hc.c1
   have r2 := hc.c2
   have r3 := hc.c3
   have r4 := hc.c4
   have r5 := hc.c5
   have r6 := hc.c6
   have r7 := hc.c7
   clear hc
   have hgl : w.heap.size < wr.heap.size := (World.ownsRow.lt HX.out _ rfl).2
   go_wp2_with fail
   refine (toT x.t x.ra x.wa x.rc x.wc (Nat.le_trans hfx.1 (by omega)) (Nat.le_trans hfx.2.2.1 (by omega)) _ HT.out).mono ?_
   rintro e w2 ⟨pa, pc, qa, qc, rfl, hl, hb2⟩
   have HL : Hid (TLie w2 wr.heap.size w2.heap.size x.t pa pc qa qc) := hl
   have HZ2 : Hid (wr.heap.size ≤ w2.heap.size) := hb2.size
   have HX0 : Hid (w2.ownsRow w.heap.size 116 8 (.slice (some ⟨w.heap.size, 0, none⟩) xs.length xs.length) xs.length cs) := ownsBelow HX.out hb2
   have HB2 : Hid (Below w.heap.size w w2) := HB.out.trans (hb2.mono HB.out.size)
   have HY2 : Hid (Zs w2 (.slice (some ⟨w.heap.size, 0, none⟩) xs.length xs.length) (w.heap.size + 1) wr.heap.size ys) := HY.out.below hb2
   clear r0 r1 r2 r3 r4 r5 r6 r7 hb2 hl hfx
   have hlen := HX0.out.1
   have hq0 : w2.cell? ⟨w.heap.size, k * 8, none⟩ = some (cs[k * 8]'(by omega)) := by
    rw [World.ownsRow.cellAt HX0.out (k * 8) (by omega)]; simp
   have hf0 := World.ownsRow.frozenAt HX0.out (k * 8)
   have hq1 : w2.cell? ⟨w.heap.size, k * 8 + 1, none⟩ = some (cs[k * 8 + 1]'(by omega)) := by
    rw [World.ownsRow.cellAt HX0.out (k * 8 + 1) (by omega)]; simp
   have hf1 := World.ownsRow.frozenAt HX0.out (k * 8 + 1)
   have hq2 : w2.cell? ⟨w.heap.size, k * 8 + 2, none⟩ = some (cs[k * 8 + 2]'(by omega)) := by
    rw [World.ownsRow.cellAt HX0.out (k * 8 + 2) (by omega)]; simp
   have hf2 := World.ownsRow.frozenAt HX0.out (k * 8 + 2)
   have hq3 : w2.cell? ⟨w.heap.size, k * 8 + 3, none⟩ = some (cs[k * 8 + 3]'(by omega)) := by
    rw [World.ownsRow.cellAt HX0.out (k * 8 + 3) (by omega)]; simp
   have hf3 := World.ownsRow.frozenAt HX0.out (k * 8 + 3)
   have hq4 : w2.cell? ⟨w.heap.size, k * 8 + 4, none⟩ = some (cs[k * 8 + 4]'(by omega)) := by
    rw [World.ownsRow.cellAt HX0.out (k * 8 + 4) (by omega)]; simp
   have hf4 := World.ownsRow.frozenAt HX0.out (k * 8 + 4)
   have hq5 : w2.cell? ⟨w.heap.size, k * 8 + 5, none⟩ = some (cs[k * 8 + 5]'(by omega)) := by
    rw [World.ownsRow.cellAt HX0.out (k * 8 + 5) (by omega)]; simp
   have hf5 := World.ownsRow.frozenAt HX0.out (k * 8 + 5)
   have hq6 : w2.cell? ⟨w.heap.size, k * 8 + 6, none⟩ = some (cs[k * 8 + 6]'(by omega)) := by
    rw [World.ownsRow.cellAt HX0.out (k * 8 + 6) (by omega)]; simp
   have hf6 := World.ownsRow.frozenAt HX0.out (k * 8 + 6)
   have hq7 : w2.cell? ⟨w.heap.size, k * 8 + 7, none⟩ = some (cs[k * 8 + 7]'(by omega)) := by
    rw [World.ownsRow.cellAt HX0.out (k * 8 + 7) (by omega)]; simp
   have hf7 := World.ownsRow.frozenAt HX0.out (k * 8 + 7)
   have hx2 := ((World.ownsRow.stored (World.ownsRow.stored (World.ownsRow.stored (World.ownsRow.stored (World.ownsRow.stored (World.ownsRow.stored (World.ownsRow.stored (World.ownsRow.stored HX0.out (k * 8) (.int .i64 x.t.id)).1 (k * 8 + 1) (.int .i64 x.t.st)).1 (k * 8 + 2) (.int .i64 x.t.snap)).1 (k * 8 + 3) (.int .i64 x.t.cs)).1 (k * 8 + 4) (.slice pa x.t.rs.length pc)).1 (k * 8 + 5) (.slice qa x.t.ws.length qc)).1 (k * 8 + 6) (.bool x.t.out)).1 (k * 8 + 7) (.string x.t.nm))).1
   have HX3 : Hid _ := hx2
   clear hx2
   have HA2 : Hid (∀ j, j < (k + 1) * 8 → (((((((((cs.set (k * 8) (.int .i64 x.t.id)).set (k * 8 + 1) (.int .i64 x.t.st)).set (k * 8 + 2) (.int .i64 x.t.snap)).set (k * 8 + 3) (.int .i64 x.t.cs)).set (k * 8 + 4) (.slice pa x.t.rs.length pc)).set (k * 8 + 5) (.slice qa x.t.ws.length qc)).set (k * 8 + 6) (.bool x.t.out)).set (k * 8 + 7) (.string x.t.nm)))[j]? = (encT.cells (ys ++ [⟨x.t, pa, pc, qa, qc⟩]))[j]?) := fun j hj => by
    have hyl : ys.length = k := HYL.out
    by_cases e0 : j = k * 8
    ·subst e0
     rw [List.getElem?_set_ne (by omega), List.getElem?_set_ne (by omega), List.getElem?_set_ne (by omega), List.getElem?_set_ne (by omega), List.getElem?_set_ne (by omega), List.getElem?_set_ne (by omega), List.getElem?_set_ne (by omega), List.getElem?_set_self (by omega)]
     have := encT.cells_at (ys ++ [⟨x.t, pa, pc, qa, qc⟩]) k (by simp; omega) 0 (by decide)
     simp only [encT, Nat.add_zero] at this ⊢
     rw [this]; simp [hyl.symm]
    by_cases e1 : j = k * 8 + 1
    ·subst e1
     rw [List.getElem?_set_ne (by omega), List.getElem?_set_ne (by omega), List.getElem?_set_ne (by omega), List.getElem?_set_ne (by omega), List.getElem?_set_ne (by omega), List.getElem?_set_ne (by omega), List.getElem?_set_self (by simp; omega)]
     have := encT.cells_at (ys ++ [⟨x.t, pa, pc, qa, qc⟩]) k (by simp; omega) 1 (by decide)
     simp only [encT] at this ⊢
     rw [this]; simp [hyl.symm]
    by_cases e2 : j = k * 8 + 2
    ·subst e2
     rw [List.getElem?_set_ne (by omega), List.getElem?_set_ne (by omega), List.getElem?_set_ne (by omega), List.getElem?_set_ne (by omega), List.getElem?_set_ne (by omega), List.getElem?_set_self (by simp; omega)]
     have := encT.cells_at (ys ++ [⟨x.t, pa, pc, qa, qc⟩]) k (by simp; omega) 2 (by decide)
     simp only [encT] at this ⊢
     rw [this]; simp [hyl.symm]
    by_cases e3 : j = k * 8 + 3
    ·subst e3
     rw [List.getElem?_set_ne (by omega), List.getElem?_set_ne (by omega), List.getElem?_set_ne (by omega), List.getElem?_set_ne (by omega), List.getElem?_set_self (by simp; omega)]
     have := encT.cells_at (ys ++ [⟨x.t, pa, pc, qa, qc⟩]) k (by simp; omega) 3 (by decide)
     simp only [encT] at this ⊢
     rw [this]; simp [hyl.symm]
    by_cases e4 : j = k * 8 + 4
    ·subst e4
     rw [List.getElem?_set_ne (by omega), List.getElem?_set_ne (by omega), List.getElem?_set_ne (by omega), List.getElem?_set_self (by simp; omega)]
     have := encT.cells_at (ys ++ [⟨x.t, pa, pc, qa, qc⟩]) k (by simp; omega) 4 (by decide)
     simp only [encT] at this ⊢
     rw [this]; simp [hyl.symm]
    by_cases e5 : j = k * 8 + 5
    ·subst e5
     rw [List.getElem?_set_ne (by omega), List.getElem?_set_ne (by omega), List.getElem?_set_self (by simp; omega)]
     have := encT.cells_at (ys ++ [⟨x.t, pa, pc, qa, qc⟩]) k (by simp; omega) 5 (by decide)
     simp only [encT] at this ⊢
     rw [this]; simp [hyl.symm]
    by_cases e6 : j = k * 8 + 6
    ·subst e6
     rw [List.getElem?_set_ne (by omega), List.getElem?_set_self (by simp; omega)]
     have := encT.cells_at (ys ++ [⟨x.t, pa, pc, qa, qc⟩]) k (by simp; omega) 6 (by decide)
     simp only [encT] at this ⊢
     rw [this]; simp [hyl.symm]
    by_cases e7 : j = k * 8 + 7
    ·subst e7
     rw [List.getElem?_set_self (by simp; omega)]
     have := encT.cells_at (ys ++ [⟨x.t, pa, pc, qa, qc⟩]) k (by simp; omega) 7 (by decide)
     simp only [encT] at this ⊢
     rw [this]; simp [hyl.symm]
    rw [List.getElem?_set_ne (by omega), List.getElem?_set_ne (by omega), List.getElem?_set_ne (by omega), List.getElem?_set_ne (by omega), List.getElem?_set_ne (by omega), List.getElem?_set_ne (by omega), List.getElem?_set_ne (by omega), List.getElem?_set_ne (by omega), HA.out j (by omega), encT.cells_app, List.getElem?_append_left (by rw [encT.cells_len, hyl]; show j < k * 8; omega)]
   have HYL2 : Hid ((ys ++ [(⟨x.t, pa, pc, qa, qc⟩ : Ta)]).length = k + 1) := by show _ = _; simp [HYL.out]
   have HYT2 : Hid (txs (ys ++ [(⟨x.t, pa, pc, qa, qc⟩ : Ta)]) = (txs xs).take (k + 1)) := by
    show _ = _
    rw [List.take_add_one, ← HYT.out]
    simp [txs, List.getElem?_eq_getElem hlt, HXX.out]
   have HB3 : Hid (Below w.heap.size w ((((((((w2.setCell ⟨w.heap.size, k * 8, none⟩ (.int .i64 x.t.id)).setCell ⟨w.heap.size, k * 8 + 1, none⟩ (.int .i64 x.t.st)).setCell ⟨w.heap.size, k * 8 + 2, none⟩ (.int .i64 x.t.snap)).setCell ⟨w.heap.size, k * 8 + 3, none⟩ (.int .i64 x.t.cs)).setCell ⟨w.heap.size, k * 8 + 4, none⟩ (.slice pa x.t.rs.length pc)).setCell ⟨w.heap.size, k * 8 + 5, none⟩ (.slice qa x.t.ws.length qc)).setCell ⟨w.heap.size, k * 8 + 6, none⟩ (.bool x.t.out)).setCell ⟨w.heap.size, k * 8 + 7, none⟩ (.string x.t.nm))) := ((((((((HB2.out.setCell (Nat.le_refl _) _).setCell (Nat.le_refl _) _).setCell (Nat.le_refl _) _).setCell (Nat.le_refl _) _).setCell (Nat.le_refl _) _).setCell (Nat.le_refl _) _).setCell (Nat.le_refl _) _).setCell (Nat.le_refl _) _)
   have HY3 : Hid (Zs ((((((((w2.setCell ⟨w.heap.size, k * 8, none⟩ (.int .i64 x.t.id)).setCell ⟨w.heap.size, k * 8 + 1, none⟩ (.int .i64 x.t.st)).setCell ⟨w.heap.size, k * 8 + 2, none⟩ (.int .i64 x.t.snap)).setCell ⟨w.heap.size, k * 8 + 3, none⟩ (.int .i64 x.t.cs)).setCell ⟨w.heap.size, k * 8 + 4, none⟩ (.slice pa x.t.rs.length pc)).setCell ⟨w.heap.size, k * 8 + 5, none⟩ (.slice qa x.t.ws.length qc)).setCell ⟨w.heap.size, k * 8 + 6, none⟩ (.bool x.t.out)).setCell ⟨w.heap.size, k * 8 + 7, none⟩ (.string x.t.nm)) (.slice (some ⟨w.heap.size, 0, none⟩) xs.length xs.length) (w.heap.size + 1) ((((((((w2.setCell ⟨w.heap.size, k * 8, none⟩ (.int .i64 x.t.id)).setCell ⟨w.heap.size, k * 8 + 1, none⟩ (.int .i64 x.t.st)).setCell ⟨w.heap.size, k * 8 + 2, none⟩ (.int .i64 x.t.snap)).setCell ⟨w.heap.size, k * 8 + 3, none⟩ (.int .i64 x.t.cs)).setCell ⟨w.heap.size, k * 8 + 4, none⟩ (.slice pa x.t.rs.length pc)).setCell ⟨w.heap.size, k * 8 + 5, none⟩ (.slice qa x.t.ws.length qc)).setCell ⟨w.heap.size, k * 8 + 6, none⟩ (.bool x.t.out)).setCell ⟨w.heap.size, k * 8 + 7, none⟩ (.string x.t.nm)).heap.size (ys ++ [(⟨x.t, pa, pc, qa, qc⟩ : Ta)])) := by
    have hsz : w2.heap.size ≤ ((((((((w2.setCell ⟨w.heap.size, k * 8, none⟩ (.int .i64 x.t.id)).setCell ⟨w.heap.size, k * 8 + 1, none⟩ (.int .i64 x.t.st)).setCell ⟨w.heap.size, k * 8 + 2, none⟩ (.int .i64 x.t.snap)).setCell ⟨w.heap.size, k * 8 + 3, none⟩ (.int .i64 x.t.cs)).setCell ⟨w.heap.size, k * 8 + 4, none⟩ (.slice pa x.t.rs.length pc)).setCell ⟨w.heap.size, k * 8 + 5, none⟩ (.slice qa x.t.ws.length qc)).setCell ⟨w.heap.size, k * 8 + 6, none⟩ (.bool x.t.out)).setCell ⟨w.heap.size, k * 8 + 7, none⟩ (.string x.t.nm)).heap.size := by simp [World.setCell]
    exact Zs.snoc (y := ⟨x.t, pa, pc, qa, qc⟩) (Nat.le_refl _) HZ2.out hsz ((((((((HL.out.set hgl _).set hgl _).set hgl _).set hgl _).set hgl _).set hgl _).set hgl _).set hgl _) (fun g hg => by cases hg; exact Or.inl hgl) ((((((((HY2.out.set _ (Nat.lt_succ_self _)).set _ (Nat.lt_succ_self _)).set _ (Nat.lt_succ_self _)).set _ (Nat.lt_succ_self _)).set _ (Nat.lt_succ_self _)).set _ (Nat.lt_succ_self _)).set _ (Nat.lt_succ_self _)).set _ (Nat.lt_succ_self _))
   clear HL HY2 HB2 HX0 HZ2
   go_wp2
   go_roundw
   case rel => exact ⟨k + 1, _, _, by omega, by go_num, HYL2, HYT2, HX3, HA2, HY3, HB3⟩
   case measure => simp [intOf]; omega
  ·have hlt' : ¬ (k : Int) < (xs.length : Int) := by omega
   have hkn : k = xs.length := by omega
   have HD : Hid (GOwn encT 116 wr w.heap.size (.slice (some ⟨w.heap.size, 0, none⟩) ys.length xs.length) ys) := gown_of (by rw [HYL.out, hkn]) HX.out (fun j hj => HA.out j (Nat.lt_of_lt_of_le hj (Nat.mul_le_mul_right _ (by omega))))
   have HE : Hid (txs ys = txs xs) := by show _ = _; rw [HYT.out, List.take_of_length_le (by rw [txs_len]; omega)]
   have HLn : Hid (ys.length = xs.length) := by show _ = _; rw [HYL.out, hkn]
   clear hkn
   go_wp2
   go_ret
   exact ⟨ys, _, _, rfl, HE.out, HLn.out, ⟨Lies.of HD.out, (HY.out.av (v' := .slice (some ⟨w.heap.size, 0, none⟩) ys.length xs.length) (fun p q _ _ h => h)).mono (Nat.le_succ _) (Nat.le_refl _)⟩, HB.out⟩

end Go.Proofs.YtjieojfcmigcdaaGreatDoor

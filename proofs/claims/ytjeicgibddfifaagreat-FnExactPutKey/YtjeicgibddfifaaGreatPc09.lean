/- Lists of those that look and change, in memory of their own: one row, and a zone for each. -/
import Derived.Test.YtjeicgibddfifaaGreatPc08
import Derived.Deep.RegionHeld3
import Derived.Deep.Cut
import Derived.Deep.CutRange
namespace Go.Proofs.YtjeicgibddfifaaGreat
open Go.RowKit
open KM
attribute [local go_sem ↓] Go.wp_at_zero Go.wp_at_succ

def Av (v : Value) (p q : Nat) : Prop := ∀ g, v.ownBlock = some g → g < p ∨ q ≤ g
def Zs (w : World) (v : Value) : Nat → Nat → List Ta → Prop
 | lo, hi, [] => lo ≤ hi
 | lo, hi, y :: ys => ∃ p q, lo ≤ p ∧ p ≤ q ∧ TLie w p q y.t y.ra y.rc y.wa y.wc ∧ Av v p q ∧ Zs w v q hi ys
theorem Zs.le {w : World} {v : Value} : ∀ {ys : List Ta} {lo hi : Nat}, Zs w v lo hi ys → lo ≤ hi
 | [], _, _, h => h
 | _ :: _, _, _, ⟨_, _, h1, h2, _, _, h5⟩ => Nat.le_trans (Nat.le_trans h1 h2) h5.le
theorem Zs.below {w w' : World} {v : Value} (hb : Below w.heap.size w w') : ∀ {ys : List Ta} {lo hi : Nat}, Zs w v lo hi ys → Zs w' v lo hi ys
 | [], _, _, h => h
 | _ :: _, _, _, ⟨p, q, h1, h2, h3, h4, h5⟩ => ⟨p, q, h1, h2, h3.below hb, h4, h5.below hb⟩
theorem Zs.set {w : World} {v : Value} {a : Addr} (u : Value) : ∀ {ys : List Ta} {lo hi : Nat}, Zs w v lo hi ys → a.block < lo → Zs (w.setCell a u) v lo hi ys
 | [], _, _, h, _ => h
 | _ :: _, _, _, ⟨p, q, h1, h2, h3, h4, h5⟩, ha => ⟨p, q, h1, h2, h3.set (Nat.lt_of_lt_of_le ha h1) u, h4, h5.set u (by omega)⟩
theorem Zs.mono {w : World} {v : Value} : ∀ {ys : List Ta} {lo hi lo' hi' : Nat}, Zs w v lo hi ys → lo' ≤ lo → hi ≤ hi' → Zs w v lo' hi' ys
 | [], _, _, _, _, h, h1, h2 => Nat.le_trans h1 (Nat.le_trans h h2)
 | _ :: _, _, _, _, _, ⟨p, q, h1, h2, h3, h4, h5⟩, k1, k2 => ⟨p, q, Nat.le_trans k1 h1, h2, h3, h4, h5.mono (Nat.le_refl _) k2⟩
theorem Zs.snoc {w : World} {v : Value} {p q m hi : Nat} {y : Ta} (hm : m ≤ p) (hpq : p ≤ q) (hq : q ≤ hi) (hl : TLie w p q y.t y.ra y.rc y.wa y.wc) (ha : Av v p q) : ∀ {ys : List Ta} {lo : Nat}, Zs w v lo m ys → Zs w v lo hi (ys ++ [y])
 | [], _, h => ⟨p, q, Nat.le_trans h hm, hpq, hl, ha, hq⟩
 | _ :: _, _, ⟨p', q', h1, h2, h3, h4, h5⟩ => ⟨p', q', h1, h2, h3, h4, h5.snoc hm hpq hq hl ha⟩
theorem Zs.each {w : World} {v : Value} : ∀ {ys : List Ta} {lo hi : Nat}, Zs w v lo hi ys → ∀ y ∈ ys, TRow w y.t y.ra y.wa
 | [], _, _, _, _, hy => by cases hy
 | _ :: _, _, _, ⟨_, _, _, _, h3, _, h5⟩, y, hy => by
  rcases List.mem_cons.1 hy with rfl | hy
  ·exact h3.row
  ·exact h5.each y hy
theorem Zs.zn {w w' : World} {v : Value} {l h : Nat} (hz : Zn l h w w') : ∀ {ys : List Ta} {lo hi : Nat}, Zs w v lo hi ys → (hi ≤ l ∨ h ≤ lo) → Zs w' v lo hi ys
 | [], _, _, k, _ => k
 | _ :: _, lo, hi, ⟨p, q, h1, h2, h3, h4, h5⟩, k => ⟨p, q, h1, h2, h3.zn hz (by have := h5.le; omega), h4, h5.zn hz (by omega)⟩
theorem Zs.av {w : World} {v v' : Value} : ∀ {ys : List Ta} {lo hi : Nat}, Zs w v lo hi ys → (∀ p q, lo ≤ p → q ≤ hi → Av v p q → Av v' p q) → Zs w v' lo hi ys
 | [], _, _, h, _ => h
 | _ :: _, _, _, ⟨p, q, h1, h2, h3, h4, h5⟩, k => ⟨p, q, h1, h2, h3, k p q h1 h5.le h4, h5.av (fun a b ha hb => k a b (by omega) hb)⟩
theorem Zs.filter {w : World} {v : Value} (f : Ta → Bool) : ∀ {ys : List Ta} {lo hi : Nat}, Zs w v lo hi ys → Zs w v lo hi (ys.filter f)
 | [], _, _, h => h
 | y :: ys, _, _, ⟨p, q, h1, h2, h3, h4, h5⟩ => by
  rw [List.filter_cons]
  split
  ·exact ⟨p, q, h1, h2, h3, h4, h5.filter f⟩
  ·exact (h5.filter f).mono (by omega) (Nat.le_refl _)
structure LLie (w : World) (lo hi : Nat) (v : Value) (ys : List Ta) : Prop where
 own : Lies encT 56 w lo hi v ys
 zs : Zs w v lo hi ys
theorem LLie.below {w w' : World} {lo hi : Nat} {v : Value} {ys : List Ta} (h : LLie w lo hi v ys) (hb : Below w.heap.size w w') : LLie w' lo hi v ys := ⟨h.own.below hb, h.zs.below hb⟩
theorem LLie.mono {w : World} {lo hi lo' hi' : Nat} {v : Value} {ys : List Ta} (h : LLie w lo hi v ys) (h1 : lo' ≤ lo) (h2 : hi ≤ hi') : LLie w lo' hi' v ys := ⟨h.own.mono h1 h2, h.zs.mono h1 h2⟩
theorem LLie.zn {w w' : World} {lo hi l h : Nat} {v : Value} {ys : List Ta} (k : LLie w lo hi v ys) (hz : Zn l h w w') (hne : hi ≤ l ∨ h ≤ lo) : LLie w' lo hi v ys := ⟨k.own.zn hz hne, k.zs.zn hz hne⟩
theorem LLie.set {w : World} {lo hi : Nat} {v : Value} {ys : List Ta} (h : LLie w lo hi v ys) {a : Addr} (ha : a.block < lo) (u : Value) : LLie (w.setCell a u) lo hi v ys := ⟨h.own.set ha u, h.zs.set u ha⟩
theorem LLie.rows {w : World} {lo hi c : Nat} {a : Option Addr} {ys : List Ta} (h : LLie w lo hi (.slice a ys.length c) ys) : TRows w a ys := ⟨h.own.own.grow, h.zs.each⟩

set_option maxRecDepth 100000 in
set_option maxHeartbeats 2000000 in
theorem toL2 (xs : List Ta) (a : Option Addr) (c : Nat) (hn : xs.length ≤ 100000000) (hf : LFit (txs xs)) (w : World) (hp : TRows w a xs) :
  Calls Tryz.prog 24 #[.slice a xs.length c] w fun e w' => ∃ (ys : List Ta) (a1 : Option Addr) (c1 : Nat), e = .returned (.slice a1 xs.length c1) ∧ txs ys = txs xs ∧ ys.length = xs.length ∧ LLie w' w.heap.size w'.heap.size (.slice a1 ys.length c1) ys ∧ Below w.heap.size w w' := by
 have HP : Hid (TRows w a xs) := hp
 have HF : Hid (LFit (txs xs)) := hf
 clear hp hf
 have hmk := mkRow8 31 56 8 _ _ Tryz.underlying31 Tryz.info56 xs.length hn (by omega)
 go_enter Tryz.func24, Tryz.ntmps24
 go_wp2
 clear hmk
 obtain ⟨cs0, hcs0⟩ : ∃ cs, cs = madeCells (Value.agg #[.int .i64 0, .int .i64 0, .int .i64 0, .int .i64 0, .slice none 0 0, .slice none 0 0, .bool false, .string ByteArray.empty]).cells (xs.length * 8) := ⟨_, rfl⟩
 have HO : Hid ((w.alloc (.cells cs0 56)).ownsRow w.heap.size 56 8 (.slice (some ⟨w.heap.size, 0, none⟩) xs.length xs.length) xs.length cs0.toList) :=
  World.ownsRow_lit w _ _ (Nat.le_refl _) (by unfold maxLen; omega) (by rw [hcs0, size_madeCells])
 rw [hcs0] at HO
 clear hcs0 cs0
 go_loopw [4] (fun t wr => ∃ (k : Nat) (cs : List Value) (ys : List Ta), k ≤ xs.length ∧ t = .int .i64 k ∧ Hid (ys.length = k) ∧ Hid (txs ys = (txs xs).take k) ∧ Hid (wr.ownsRow w.heap.size 56 8 (.slice (some ⟨w.heap.size, 0, none⟩) xs.length xs.length) xs.length cs) ∧ Hid (∀ j, j < k * 8 → cs[j]? = (encT.cells ys)[j]?) ∧ Hid (Zs wr (.slice (some ⟨w.heap.size, 0, none⟩) xs.length xs.length) (w.heap.size + 1) wr.heap.size ys) ∧ Hid (Below w.heap.size w wr)) (fun t _ => xs.length - (intOf t).toNat)
 case atStart => exact ⟨0, _, [], Nat.zero_le _, rfl, rfl, rfl, HO, (fun j hj => by omega), (show _ ≤ _ by simp), (belowRefl w).alloc (Nat.le_refl _) _⟩
 case round =>
  obtain ⟨k, cs, ys, hk, rfl, HYL, HYT, HX, HA, HY, HB⟩ := hrel
  by_cases hlt : k < xs.length
  ·have hlt' : (k : Int) < (xs.length : Int) := by omega
   have h0 : (0 : Int) ≤ (k : Int) := by omega
   obtain ⟨b, off, rfl, hbl, hc, ht⟩ := (HP.out.below HB.out).cls k hlt
   have hfx : TFit xs[k].t := HF.out.2 _ (List.mem_map.2 ⟨_, List.getElem_mem hlt, rfl⟩)
   obtain ⟨x, hx⟩ : ∃ x, x = xs[k] := ⟨_, rfl⟩
   rw [← hx] at hc ht hfx
   have HXX : Hid (x = xs[k]) := hx
   have HT : Hid (TRow wr x.t x.ra x.wa) := ht
   clear hx ht
   have r0 := hc.c0
   have r1 := hc.c1
   have r2 := hc.c2
   have r3 := hc.c3
   have r4 := hc.c4
   have r5 := hc.c5
   have r6 := hc.c6
   have r7 := hc.c7
   clear hc
   have hgl : w.heap.size < wr.heap.size := (World.ownsRow.lt HX.out _ rfl).2
   go_wp2_with fail
   refine (toT x.t x.ra x.wa x.rc x.wc (Nat.le_trans hfx.1 (by omega)) (Nat.le_trans hfx.2.2.1 (by omega)) _ HT.out).mono ?_
   rintro e w2 ⟨pa, pc, qa, qc, rfl, hl, hb2⟩
   have HL : Hid (TLie w2 wr.heap.size w2.heap.size x.t pa pc qa qc) := hl
   have HZ2 : Hid (wr.heap.size ≤ w2.heap.size) := hb2.size
   have HX0 : Hid (w2.ownsRow w.heap.size 56 8 (.slice (some ⟨w.heap.size, 0, none⟩) xs.length xs.length) xs.length cs) := ownsBelow HX.out hb2
   have HB2 : Hid (Below w.heap.size w w2) := HB.out.trans (hb2.mono HB.out.size)
   have HY2 : Hid (Zs w2 (.slice (some ⟨w.heap.size, 0, none⟩) xs.length xs.length) (w.heap.size + 1) wr.heap.size ys) := HY.out.below hb2
   clear r0 r1 r2 r3 r4 r5 r6 r7 hb2 hl hfx
   have hlen := HX0.out.1
   have hq0 : w2.cell? ⟨w.heap.size, k * 8, none⟩ = some (cs[k * 8]'(by omega)) := by
    rw [World.ownsRow.cellAt HX0.out (k * 8) (by omega)]; simp
   have hf0 := World.ownsRow.frozenAt HX0.out (k * 8)
   have hq1 : w2.cell? ⟨w.heap.size, k * 8 + 1, none⟩ = some (cs[k * 8 + 1]'(by omega)) := by
    rw [World.ownsRow.cellAt HX0.out (k * 8 + 1) (by omega)]; simp
   have hf1 := World.ownsRow.frozenAt HX0.out (k * 8 + 1)
   have hq2 : w2.cell? ⟨w.heap.size, k * 8 + 2, none⟩ = some (cs[k * 8 + 2]'(by omega)) := by
    rw [World.ownsRow.cellAt HX0.out (k * 8 + 2) (by omega)]; simp
   have hf2 := World.ownsRow.frozenAt HX0.out (k * 8 + 2)
   have hq3 : w2.cell? ⟨w.heap.size, k * 8 + 3, none⟩ = some (cs[k * 8 + 3]'(by omega)) := by
    rw [World.ownsRow.cellAt HX0.out (k * 8 + 3) (by omega)]; simp
   have hf3 := World.ownsRow.frozenAt HX0.out (k * 8 + 3)
   have hq4 : w2.cell? ⟨w.heap.size, k * 8 + 4, none⟩ = some (cs[k * 8 + 4]'(by omega)) := by
    rw [World.ownsRow.cellAt HX0.out (k * 8 + 4) (by omega)]; simp
   have hf4 := World.ownsRow.frozenAt HX0.out (k * 8 + 4)
   have hq5 : w2.cell? ⟨w.heap.size, k * 8 + 5, none⟩ = some (cs[k * 8 + 5]'(by omega)) := by
    rw [World.ownsRow.cellAt HX0.out (k * 8 + 5) (by omega)]; simp
   have hf5 := World.ownsRow.frozenAt HX0.out (k * 8 + 5)
   have hq6 : w2.cell? ⟨w.heap.size, k * 8 + 6, none⟩ = some (cs[k * 8 + 6]'(by omega)) := by
    rw [World.ownsRow.cellAt HX0.out (k * 8 + 6) (by omega)]; simp
   have hf6 := World.ownsRow.frozenAt HX0.out (k * 8 + 6)
   have hq7 : w2.cell? ⟨w.heap.size, k * 8 + 7, none⟩ = some (cs[k * 8 + 7]'(by omega)) := by
    rw [World.ownsRow.cellAt HX0.out (k * 8 + 7) (by omega)]; simp
   have hf7 := World.ownsRow.frozenAt HX0.out (k * 8 + 7)
   have hx2 := ((World.ownsRow.stored (World.ownsRow.stored (World.ownsRow.stored (World.ownsRow.stored (World.ownsRow.stored (World.ownsRow.stored (World.ownsRow.stored (World.ownsRow.stored HX0.out (k * 8) (.int .i64 x.t.id)).1 (k * 8 + 1) (.int .i64 x.t.st)).1 (k * 8 + 2) (.int .i64 x.t.snap)).1 (k * 8 + 3) (.int .i64 x.t.cs)).1 (k * 8 + 4) (.slice pa x.t.rs.length pc)).1 (k * 8 + 5) (.slice qa x.t.ws.length qc)).1 (k * 8 + 6) (.bool x.t.out)).1 (k * 8 + 7) (.string x.t.nm))).1
   have HX3 : Hid _ := hx2
   clear hx2
   have HA2 : Hid (∀ j, j < (k + 1) * 8 → (((((((((cs.set (k * 8) (.int .i64 x.t.id)).set (k * 8 + 1) (.int .i64 x.t.st)).set (k * 8 + 2) (.int .i64 x.t.snap)).set (k * 8 + 3) (.int .i64 x.t.cs)).set (k * 8 + 4) (.slice pa x.t.rs.length pc)).set (k * 8 + 5) (.slice qa x.t.ws.length qc)).set (k * 8 + 6) (.bool x.t.out)).set (k * 8 + 7) (.string x.t.nm)))[j]? = (encT.cells (ys ++ [⟨x.t, pa, pc, qa, qc⟩]))[j]?) := fun j hj => by
    have hyl : ys.length = k := HYL.out
    by_cases e0 : j = k * 8
    ·subst e0
     rw [List.getElem?_set_ne (by omega), List.getElem?_set_ne (by omega), List.getElem?_set_ne (by omega), List.getElem?_set_ne (by omega), List.getElem?_set_ne (by omega), List.getElem?_set_ne (by omega), List.getElem?_set_ne (by omega), List.getElem?_set_self (by omega)]
     have := encT.cells_at (ys ++ [⟨x.t, pa, pc, qa, qc⟩]) k (by simp; omega) 0 (by decide)
     simp only [encT, Nat.add_zero] at this ⊢
     rw [this]; simp [hyl.symm]
    by_cases e1 : j = k * 8 + 1
    ·subst e1
     rw [List.getElem?_set_ne (by omega), List.getElem?_set_ne (by omega), List.getElem?_set_ne (by omega), List.getElem?_set_ne (by omega), List.getElem?_set_ne (by omega), List.getElem?_set_ne (by omega), List.getElem?_set_self (by simp; omega)]
     have := encT.cells_at (ys ++ [⟨x.t, pa, pc, qa, qc⟩]) k (by simp; omega) 1 (by decide)
     simp only [encT] at this ⊢
     rw [this]; simp [hyl.symm]
    by_cases e2 : j = k * 8 + 2
    ·subst e2
     rw [List.getElem?_set_ne (by omega), List.getElem?_set_ne (by omega), List.getElem?_set_ne (by omega), List.getElem?_set_ne (by omega), List.getElem?_set_ne (by omega), List.getElem?_set_self (by simp; omega)]
     have := encT.cells_at (ys ++ [⟨x.t, pa, pc, qa, qc⟩]) k (by simp; omega) 2 (by decide)
     simp only [encT] at this ⊢
     rw [this]; simp [hyl.symm]
    by_cases e3 : j = k * 8 + 3
    ·subst e3
     rw [List.getElem?_set_ne (by omega), List.getElem?_set_ne (by omega), List.getElem?_set_ne (by omega), List.getElem?_set_ne (by omega), List.getElem?_set_self (by simp; omega)]
     have := encT.cells_at (ys ++ [⟨x.t, pa, pc, qa, qc⟩]) k (by simp; omega) 3 (by decide)
     simp only [encT] at this ⊢
     rw [this]; simp [hyl.symm]
    by_cases e4 : j = k * 8 + 4
    ·subst e4
     rw [List.getElem?_set_ne (by omega), List.getElem?_set_ne (by omega), List.getElem?_set_ne (by omega), List.getElem?_set_self (by simp; omega)]
     have := encT.cells_at (ys ++ [⟨x.t, pa, pc, qa, qc⟩]) k (by simp; omega) 4 (by decide)
     simp only [encT] at this ⊢
     rw [this]; simp [hyl.symm]
    by_cases e5 : j = k * 8 + 5
    ·subst e5
     rw [List.getElem?_set_ne (by omega), List.getElem?_set_ne (by omega), List.getElem?_set_self (by simp; omega)]
     have := encT.cells_at (ys ++ [⟨x.t, pa, pc, qa, qc⟩]) k (by simp; omega) 5 (by decide)
     simp only [encT] at this ⊢
     rw [this]; simp [hyl.symm]
    by_cases e6 : j = k * 8 + 6
    ·subst e6
     rw [List.getElem?_set_ne (by omega), List.getElem?_set_self (by simp; omega)]
     have := encT.cells_at (ys ++ [⟨x.t, pa, pc, qa, qc⟩]) k (by simp; omega) 6 (by decide)
     simp only [encT] at this ⊢
     rw [this]; simp [hyl.symm]
    by_cases e7 : j = k * 8 + 7
    ·subst e7
     rw [List.getElem?_set_self (by simp; omega)]
     have := encT.cells_at (ys ++ [⟨x.t, pa, pc, qa, qc⟩]) k (by simp; omega) 7 (by decide)
     simp only [encT] at this ⊢
     rw [this]; simp [hyl.symm]
    rw [List.getElem?_set_ne (by omega), List.getElem?_set_ne (by omega), List.getElem?_set_ne (by omega), List.getElem?_set_ne (by omega), List.getElem?_set_ne (by omega), List.getElem?_set_ne (by omega), List.getElem?_set_ne (by omega), List.getElem?_set_ne (by omega), HA.out j (by omega), encT.cells_app, List.getElem?_append_left (by rw [encT.cells_len, hyl]; show j < k * 8; omega)]
   have HYL2 : Hid ((ys ++ [(⟨x.t, pa, pc, qa, qc⟩ : Ta)]).length = k + 1) := by show _ = _; simp [HYL.out]
   have HYT2 : Hid (txs (ys ++ [(⟨x.t, pa, pc, qa, qc⟩ : Ta)]) = (txs xs).take (k + 1)) := by
    show _ = _
    rw [List.take_add_one, ← HYT.out]
    simp [txs, List.getElem?_eq_getElem hlt, HXX.out]
   have HB3 : Hid (Below w.heap.size w ((((((((w2.setCell ⟨w.heap.size, k * 8, none⟩ (.int .i64 x.t.id)).setCell ⟨w.heap.size, k * 8 + 1, none⟩ (.int .i64 x.t.st)).setCell ⟨w.heap.size, k * 8 + 2, none⟩ (.int .i64 x.t.snap)).setCell ⟨w.heap.size, k * 8 + 3, none⟩ (.int .i64 x.t.cs)).setCell ⟨w.heap.size, k * 8 + 4, none⟩ (.slice pa x.t.rs.length pc)).setCell ⟨w.heap.size, k * 8 + 5, none⟩ (.slice qa x.t.ws.length qc)).setCell ⟨w.heap.size, k * 8 + 6, none⟩ (.bool x.t.out)).setCell ⟨w.heap.size, k * 8 + 7, none⟩ (.string x.t.nm))) := ((((((((HB2.out.setCell (Nat.le_refl _) _).setCell (Nat.le_refl _) _).setCell (Nat.le_refl _) _).setCell (Nat.le_refl _) _).setCell (Nat.le_refl _) _).setCell (Nat.le_refl _) _).setCell (Nat.le_refl _) _).setCell (Nat.le_refl _) _)
   have HY3 : Hid (Zs ((((((((w2.setCell ⟨w.heap.size, k * 8, none⟩ (.int .i64 x.t.id)).setCell ⟨w.heap.size, k * 8 + 1, none⟩ (.int .i64 x.t.st)).setCell ⟨w.heap.size, k * 8 + 2, none⟩ (.int .i64 x.t.snap)).setCell ⟨w.heap.size, k * 8 + 3, none⟩ (.int .i64 x.t.cs)).setCell ⟨w.heap.size, k * 8 + 4, none⟩ (.slice pa x.t.rs.length pc)).setCell ⟨w.heap.size, k * 8 + 5, none⟩ (.slice qa x.t.ws.length qc)).setCell ⟨w.heap.size, k * 8 + 6, none⟩ (.bool x.t.out)).setCell ⟨w.heap.size, k * 8 + 7, none⟩ (.string x.t.nm)) (.slice (some ⟨w.heap.size, 0, none⟩) xs.length xs.length) (w.heap.size + 1) ((((((((w2.setCell ⟨w.heap.size, k * 8, none⟩ (.int .i64 x.t.id)).setCell ⟨w.heap.size, k * 8 + 1, none⟩ (.int .i64 x.t.st)).setCell ⟨w.heap.size, k * 8 + 2, none⟩ (.int .i64 x.t.snap)).setCell ⟨w.heap.size, k * 8 + 3, none⟩ (.int .i64 x.t.cs)).setCell ⟨w.heap.size, k * 8 + 4, none⟩ (.slice pa x.t.rs.length pc)).setCell ⟨w.heap.size, k * 8 + 5, none⟩ (.slice qa x.t.ws.length qc)).setCell ⟨w.heap.size, k * 8 + 6, none⟩ (.bool x.t.out)).setCell ⟨w.heap.size, k * 8 + 7, none⟩ (.string x.t.nm)).heap.size (ys ++ [(⟨x.t, pa, pc, qa, qc⟩ : Ta)])) := by
    have hsz : w2.heap.size ≤ ((((((((w2.setCell ⟨w.heap.size, k * 8, none⟩ (.int .i64 x.t.id)).setCell ⟨w.heap.size, k * 8 + 1, none⟩ (.int .i64 x.t.st)).setCell ⟨w.heap.size, k * 8 + 2, none⟩ (.int .i64 x.t.snap)).setCell ⟨w.heap.size, k * 8 + 3, none⟩ (.int .i64 x.t.cs)).setCell ⟨w.heap.size, k * 8 + 4, none⟩ (.slice pa x.t.rs.length pc)).setCell ⟨w.heap.size, k * 8 + 5, none⟩ (.slice qa x.t.ws.length qc)).setCell ⟨w.heap.size, k * 8 + 6, none⟩ (.bool x.t.out)).setCell ⟨w.heap.size, k * 8 + 7, none⟩ (.string x.t.nm)).heap.size := by simp [World.setCell]
    exact Zs.snoc (y := ⟨x.t, pa, pc, qa, qc⟩) (Nat.le_refl _) HZ2.out hsz ((((((((HL.out.set hgl _).set hgl _).set hgl _).set hgl _).set hgl _).set hgl _).set hgl _).set hgl _) (fun g hg => by cases hg; exact Or.inl hgl) ((((((((HY2.out.set _ (Nat.lt_succ_self _)).set _ (Nat.lt_succ_self _)).set _ (Nat.lt_succ_self _)).set _ (Nat.lt_succ_self _)).set _ (Nat.lt_succ_self _)).set _ (Nat.lt_succ_self _)).set _ (Nat.lt_succ_self _)).set _ (Nat.lt_succ_self _))
   clear HL HY2 HB2 HX0 HZ2
   go_wp2
   go_roundw
   case rel => exact ⟨k + 1, _, _, by omega, by go_num, HYL2, HYT2, HX3, HA2, HY3, HB3⟩
   case measure => simp [intOf]; omega
  ·have hlt' : ¬ (k : Int) < (xs.length : Int) := by omega
   have hkn : k = xs.length := by omega
   have HD : Hid (GOwn encT 56 wr w.heap.size (.slice (some ⟨w.heap.size, 0, none⟩) ys.length xs.length) ys) := gown_of (by rw [HYL.out, hkn]) HX.out (fun j hj => HA.out j (Nat.lt_of_lt_of_le hj (Nat.mul_le_mul_right _ (by omega))))
   have HE : Hid (txs ys = txs xs) := by show _ = _; rw [HYT.out, List.take_of_length_le (by rw [txs_len]; omega)]
   have HLn : Hid (ys.length = xs.length) := by show _ = _; rw [HYL.out, hkn]
   clear hkn
   go_wp2
   go_ret
   exact ⟨ys, _, _, rfl, HE.out, HLn.out, ⟨Lies.of HD.out, (HY.out.av (v' := .slice (some ⟨w.heap.size, 0, none⟩) ys.length xs.length) (fun p q _ _ h => h)).mono (Nat.le_succ _) (Nat.le_refl _)⟩, HB.out⟩

end Go.Proofs.YtjeicgibddfifaaGreat

namespace Go.Proofs.YtjeicgibddfifaaGreat
open Go.RowKit
open KM
attribute [local go_sem ↓] Go.wp_at_zero Go.wp_at_succ

structure BLie (w : World) (lo hi : Nat) (c : Bb) : Prop where
 ex : ∃ m1 m2, lo ≤ m1 ∧ m1 ≤ m2 ∧ m2 ≤ hi ∧ Lies encV 85 w lo m1 (.slice c.va c.vs.length c.vc) c.vs ∧ LLie w m1 m2 (.slice c.pa c.ps.length c.pc) c.ps ∧ LLie w m2 hi (.slice c.qa c.qs.length c.qc) c.qs
theorem BLie.rows {w : World} {lo hi : Nat} {c : Bb} (h : BLie w lo hi c) : BRows w c := by
 obtain ⟨m1, m2, _, _, _, h1, h2, h3⟩ := h.ex
 exact ⟨h1.own.grow, h2.rows, h3.rows⟩
theorem BLie.below {w w' : World} {lo hi : Nat} {c : Bb} (h : BLie w lo hi c) (hb : Below w.heap.size w w') : BLie w' lo hi c := by
 obtain ⟨m1, m2, a, b, d, h1, h2, h3⟩ := h.ex
 exact ⟨m1, m2, a, b, d, h1.below hb, h2.below hb, h3.below hb⟩
theorem BLie.set {w : World} {lo hi : Nat} {c : Bb} (h : BLie w lo hi c) {a : Addr} (ha : a.block < lo) (u : Value) : BLie (w.setCell a u) lo hi c := by
 obtain ⟨m1, m2, k1, k2, k3, h1, h2, h3⟩ := h.ex
 exact ⟨m1, m2, k1, k2, k3, h1.set ha u, h2.set (by omega) u, h3.set (by omega) u⟩
theorem BLie.mono {w : World} {lo hi lo' hi' : Nat} {c : Bb} (h : BLie w lo hi c) (k : lo' ≤ lo) (k' : hi ≤ hi') : BLie w lo' hi' c := by
 obtain ⟨m1, m2, k1, k2, k3, h1, h2, h3⟩ := h.ex
 exact ⟨m1, m2, by omega, k2, by omega, h1.mono k (Nat.le_refl _), h2, h3.mono (Nat.le_refl _) k'⟩
theorem BLie.zn {w w' : World} {lo hi l h : Nat} {c : Bb} (k : BLie w lo hi c) (hz : Zn l h w w') (hne : hi ≤ l ∨ h ≤ lo) : BLie w' lo hi c := by
 obtain ⟨m1, m2, k1, k2, k3, h1, h2, h3⟩ := k.ex
 exact ⟨m1, m2, k1, k2, k3, h1.zn hz (by omega), h2.zn hz (by omega), h3.zn hz (by omega)⟩

set_option maxRecDepth 100000 in
set_option maxHeartbeats 4000000 in
theorem toB (b : Bb) (hf : BFit b) (w : World) (hp : BRows w b) :
  Calls Tryz.prog 23 #[.agg #[.slice b.va b.vs.length b.vc, .slice b.pa b.ps.length b.pc, .slice b.qa b.qs.length b.qc, .int .i64 b.cs, .int .i64 b.nx]] w fun e w' => ∃ c : Bb, e = .returned (.agg #[.slice c.va c.vs.length c.vc, .slice c.pa c.ps.length c.pc, .slice c.qa c.qs.length c.qc, .int .i64 c.cs, .int .i64 c.nx]) ∧ BSame b c ∧ BLie w' w.heap.size w'.heap.size c ∧ Below w.heap.size w w' := by
 have HP : Hid (BRows w b) := hp
 have HF : Hid (BFit b) := hf
 clear hp hf
 have BA0 : Hid (Bx (((w.alloc (.cells #[.slice b.va b.vs.length b.vc, .slice b.pa b.ps.length b.pc, .slice b.qa b.qs.length b.qc, .int .i64 b.cs, .int .i64 b.nx] 25)).alloc (.cells #[.slice none 0 0, .slice none 0 0, .slice none 0 0, .int .i64 0, .int .i64 0] 33)).alloc (.cells #[.slice none 0 0, .slice none 0 0, .slice none 0 0, .int .i64 0, .int .i64 0] 33)) w.heap.size [.slice b.va b.vs.length b.vc, .slice b.pa b.ps.length b.pc, .slice b.qa b.qs.length b.qc, .int .i64 b.cs, .int .i64 b.nx]) := ((Bx.new w [.slice b.va b.vs.length b.vc, .slice b.pa b.ps.length b.pc, .slice b.qa b.qs.length b.qc, .int .i64 b.cs, .int .i64 b.nx] 25).alloc _).alloc _
 have BR0 : Hid (Bx (((w.alloc (.cells #[.slice b.va b.vs.length b.vc, .slice b.pa b.ps.length b.pc, .slice b.qa b.qs.length b.qc, .int .i64 b.cs, .int .i64 b.nx] 25)).alloc (.cells #[.slice none 0 0, .slice none 0 0, .slice none 0 0, .int .i64 0, .int .i64 0] 33)).alloc (.cells #[.slice none 0 0, .slice none 0 0, .slice none 0 0, .int .i64 0, .int .i64 0] 33)) (w.heap.size + 1) [.slice none 0 0, .slice none 0 0, .slice none 0 0, .int .i64 0, .int .i64 0]) := by
  have h := (Bx.new (w.alloc (.cells #[.slice b.va b.vs.length b.vc, .slice b.pa b.ps.length b.pc, .slice b.qa b.qs.length b.qc, .int .i64 b.cs, .int .i64 b.nx] 25)) [.slice none 0 0, .slice none 0 0, .slice none 0 0, .int .i64 0, .int .i64 0] 33).alloc (.cells #[.slice none 0 0, .slice none 0 0, .slice none 0 0, .int .i64 0, .int .i64 0] 33)
  rw [show (w.alloc (.cells #[.slice b.va b.vs.length b.vc, .slice b.pa b.ps.length b.pc, .slice b.qa b.qs.length b.qc, .int .i64 b.cs, .int .i64 b.nx] 25)).heap.size = w.heap.size + 1 by simp] at h
  exact h
 have BO0 : Hid (Bx (((w.alloc (.cells #[.slice b.va b.vs.length b.vc, .slice b.pa b.ps.length b.pc, .slice b.qa b.qs.length b.qc, .int .i64 b.cs, .int .i64 b.nx] 25)).alloc (.cells #[.slice none 0 0, .slice none 0 0, .slice none 0 0, .int .i64 0, .int .i64 0] 33)).alloc (.cells #[.slice none 0 0, .slice none 0 0, .slice none 0 0, .int .i64 0, .int .i64 0] 33)) (w.heap.size + 1 + 1) [.slice none 0 0, .slice none 0 0, .slice none 0 0, .int .i64 0, .int .i64 0]) := by
  have h := Bx.new ((w.alloc (.cells #[.slice b.va b.vs.length b.vc, .slice b.pa b.ps.length b.pc, .slice b.qa b.qs.length b.qc, .int .i64 b.cs, .int .i64 b.nx] 25)).alloc (.cells #[.slice none 0 0, .slice none 0 0, .slice none 0 0, .int .i64 0, .int .i64 0] 33)) [.slice none 0 0, .slice none 0 0, .slice none 0 0, .int .i64 0, .int .i64 0] 33
  rw [show ((w.alloc (.cells #[.slice b.va b.vs.length b.vc, .slice b.pa b.ps.length b.pc, .slice b.qa b.qs.length b.qc, .int .i64 b.cs, .int .i64 b.nx] 25)).alloc (.cells #[.slice none 0 0, .slice none 0 0, .slice none 0 0, .int .i64 0, .int .i64 0] 33)).heap.size = w.heap.size + 1 + 1 by simp] at h
  exact h
 have HB0 : Hid (Below w.heap.size w (((w.alloc (.cells #[.slice b.va b.vs.length b.vc, .slice b.pa b.ps.length b.pc, .slice b.qa b.qs.length b.qc, .int .i64 b.cs, .int .i64 b.nx] 25)).alloc (.cells #[.slice none 0 0, .slice none 0 0, .slice none 0 0, .int .i64 0, .int .i64 0] 33)).alloc (.cells #[.slice none 0 0, .slice none 0 0, .slice none 0 0, .int .i64 0, .int .i64 0] 33))) := (((belowRefl w).alloc (Nat.le_refl _) _).alloc (by simp) _).alloc (by simp; omega) _
 have S0 : Hid ((((w.alloc (.cells #[.slice b.va b.vs.length b.vc, .slice b.pa b.ps.length b.pc, .slice b.qa b.qs.length b.qc, .int .i64 b.cs, .int .i64 b.nx] 25)).alloc (.cells #[.slice none 0 0, .slice none 0 0, .slice none 0 0, .int .i64 0, .int .i64 0] 33)).alloc (.cells #[.slice none 0 0, .slice none 0 0, .slice none 0 0, .int .i64 0, .int .i64 0] 33)).heap.size = w.heap.size + 1 + 1 + 1) := by show _ = _; simp
 have HSZ : Hid (w.heap.size + 1 + 1 + 1 ≤ (((w.alloc (.cells #[.slice b.va b.vs.length b.vc, .slice b.pa b.ps.length b.pc, .slice b.qa b.qs.length b.qc, .int .i64 b.cs, .int .i64 b.nx] 25)).alloc (.cells #[.slice none 0 0, .slice none 0 0, .slice none 0 0, .int .i64 0, .int .i64 0] 33)).alloc (.cells #[.slice none 0 0, .slice none 0 0, .slice none 0 0, .int .i64 0, .int .i64 0] 33)).heap.size) := by show _ ≤ _; rw [S0.out]; exact Nat.le_refl _
 have CV : Hid (∀ W : World, Below w.heap.size w W → Calls Tryz.prog 51 #[.slice b.va b.vs.length b.vc] W fun e w' => ∃ a1 c1, e = .returned (.slice a1 b.vs.length c1) ∧ GOwn encV 85 w' W.heap.size (.slice a1 b.vs.length c1) b.vs ∧ Below W.heap.size W w') := fun W h => toSV b.vs b.va b.vc (Nat.le_trans HF.out.vl (by omega)) W (HP.out.v.below h)
 have CP : Hid (∀ W : World, Below w.heap.size w W → Calls Tryz.prog 24 #[.slice b.pa b.ps.length b.pc] W fun e w' => ∃ (ys : List Ta) (a1 : Option Addr) (c1 : Nat), e = .returned (.slice a1 b.ps.length c1) ∧ txs ys = txs b.ps ∧ ys.length = b.ps.length ∧ LLie w' W.heap.size w'.heap.size (.slice a1 ys.length c1) ys ∧ Below W.heap.size W w') := fun W h => toL2 b.ps b.pa b.pc (Nat.le_trans HF.out.pl (by omega)) HF.out.p W (HP.out.p.below h)
 have CQ : Hid (∀ W : World, Below w.heap.size w W → Calls Tryz.prog 24 #[.slice b.qa b.qs.length b.qc] W fun e w' => ∃ (ys : List Ta) (a1 : Option Addr) (c1 : Nat), e = .returned (.slice a1 b.qs.length c1) ∧ txs ys = txs b.qs ∧ ys.length = b.qs.length ∧ LLie w' W.heap.size w'.heap.size (.slice a1 ys.length c1) ys ∧ Below W.heap.size W w') := fun W h => toL2 b.qs b.qa b.qc (Nat.le_trans HF.out.ql (by omega)) HF.out.q W (HP.out.q.below h)
 clear HP HF S0
 go_enter Tryz.func23, Tryz.ntmps23
 go_upto_region 2 with fail
 generalize (((w.alloc (.cells #[.slice b.va b.vs.length b.vc, .slice b.pa b.ps.length b.pc, .slice b.qa b.qs.length b.qc, .int .i64 b.cs, .int .i64 b.nx] 25)).alloc (.cells #[.slice none 0 0, .slice none 0 0, .slice none 0 0, .int .i64 0, .int .i64 0] 33)).alloc (.cells #[.slice none 0 0, .slice none 0 0, .slice none 0 0, .int .i64 0, .int .i64 0] 33)) = w0 at *
 have x0 := BA0.out.c0
 go_wp2_with fail
 refine (CV.out _ HB0.out).mono ?_
 rintro e w1 ⟨va1, vc1, rfl, ho, hb⟩
 have BA1 : Hid (Bx w1 w.heap.size [.slice b.va b.vs.length b.vc, .slice b.pa b.ps.length b.pc, .slice b.qa b.qs.length b.qc, .int .i64 b.cs, .int .i64 b.nx]) := BA0.out.below hb
 have BR1 : Hid (Bx w1 (w.heap.size + 1) [.slice none 0 0, .slice none 0 0, .slice none 0 0, .int .i64 0, .int .i64 0]) := BR0.out.below hb
 have BO1 : Hid (Bx w1 (w.heap.size + 1 + 1) [.slice none 0 0, .slice none 0 0, .slice none 0 0, .int .i64 0, .int .i64 0]) := BO0.out.below hb
 have HB1 : Hid (Below w.heap.size w w1) := HB0.out.trans (hb.mono HB0.out.size)
 have Y1 : Hid (w0.heap.size ≤ w1.heap.size) := hb.size
 have R1 : Hid (Lies encV 85 w1 w0.heap.size w1.heap.size (.slice va1 b.vs.length vc1) b.vs) := Lies.of ho
 clear ho
 clear hb x0 BA0 BR0 BO0 HB0
 have o4 := BO1.out.c0
 have f4 := BO1.out.fz 0
 go_upto_region 3 with fail
 clear o4 f4
 replace BA1 : Hid (Bx (w1.setCell ⟨w.heap.size + 1 + 1, 0, none⟩ (.slice va1 b.vs.length vc1)) w.heap.size [.slice b.va b.vs.length b.vc, .slice b.pa b.ps.length b.pc, .slice b.qa b.qs.length b.qc, .int .i64 b.cs, .int .i64 b.nx]) := BA1.out.setO (by show w.heap.size + 1 + 1 ≠ w.heap.size; omega) _
 replace BR1 : Hid (Bx (w1.setCell ⟨w.heap.size + 1 + 1, 0, none⟩ (.slice va1 b.vs.length vc1)) (w.heap.size + 1) [.slice none 0 0, .slice none 0 0, .slice none 0 0, .int .i64 0, .int .i64 0]) := BR1.out.setO (by show w.heap.size + 1 + 1 ≠ w.heap.size + 1; omega) _
 replace BO1 : Hid (Bx (w1.setCell ⟨w.heap.size + 1 + 1, 0, none⟩ (.slice va1 b.vs.length vc1)) (w.heap.size + 1 + 1) [.slice va1 b.vs.length vc1, .slice none 0 0, .slice none 0 0, .int .i64 0, .int .i64 0]) := BO1.out.set 0 _
 replace HB1 : Hid (Below w.heap.size w (w1.setCell ⟨w.heap.size + 1 + 1, 0, none⟩ (.slice va1 b.vs.length vc1))) := HB1.out.setCell (by show _ ≤ _ + 1 + 1; omega) _
 replace R1 : Hid (Lies encV 85 (w1.setCell ⟨w.heap.size + 1 + 1, 0, none⟩ (.slice va1 b.vs.length vc1)) w0.heap.size w1.heap.size (.slice va1 b.vs.length vc1) b.vs) := R1.out.set (by have := HSZ.out; have := Y1.out; show w.heap.size + 1 + 1 < _; omega) _
 have YG1 : Hid (w1.heap.size ≤ (w1.setCell ⟨w.heap.size + 1 + 1, 0, none⟩ (.slice va1 b.vs.length vc1)).heap.size) := by show _ ≤ _; simp [World.setCell]
 generalize (w1.setCell ⟨w.heap.size + 1 + 1, 0, none⟩ (.slice va1 b.vs.length vc1)) = v1 at *
 have x1 := BA1.out.c1
 go_wp2_with fail
 refine (CP.out _ HB1.out).mono ?_
 rintro e w2 ⟨ys1, pa1, pc1, rfl, ht, hl, ho, hb⟩
 have BA2 : Hid (Bx w2 w.heap.size [.slice b.va b.vs.length b.vc, .slice b.pa b.ps.length b.pc, .slice b.qa b.qs.length b.qc, .int .i64 b.cs, .int .i64 b.nx]) := BA1.out.below hb
 have BR2 : Hid (Bx w2 (w.heap.size + 1) [.slice none 0 0, .slice none 0 0, .slice none 0 0, .int .i64 0, .int .i64 0]) := BR1.out.below hb
 have BO2 : Hid (Bx w2 (w.heap.size + 1 + 1) [.slice va1 b.vs.length vc1, .slice none 0 0, .slice none 0 0, .int .i64 0, .int .i64 0]) := BO1.out.below hb
 have HB2 : Hid (Below w.heap.size w w2) := HB1.out.trans (hb.mono HB1.out.size)
 replace R1 : Hid (Lies encV 85 w2 w0.heap.size w1.heap.size (.slice va1 b.vs.length vc1) b.vs) := R1.out.below hb
 have Y2 : Hid (v1.heap.size ≤ w2.heap.size) := hb.size
 have T1 : Hid (txs ys1 = txs b.ps) := ht
 have L1 : Hid (ys1.length = b.ps.length) := hl
 have R2 : Hid (LLie w2 v1.heap.size w2.heap.size (.slice pa1 ys1.length pc1) ys1) := ho
 clear ho ht hl
 clear hb x1 BA1 BR1 BO1 HB1
 have o4 := BO2.out.c1
 have f4 := BO2.out.fz 1
 go_upto_region 4 with fail
 clear o4 f4
 replace BA2 : Hid (Bx (w2.setCell ⟨w.heap.size + 1 + 1, 1, none⟩ (.slice pa1 b.ps.length pc1)) w.heap.size [.slice b.va b.vs.length b.vc, .slice b.pa b.ps.length b.pc, .slice b.qa b.qs.length b.qc, .int .i64 b.cs, .int .i64 b.nx]) := BA2.out.setO (by show w.heap.size + 1 + 1 ≠ w.heap.size; omega) _
 replace BR2 : Hid (Bx (w2.setCell ⟨w.heap.size + 1 + 1, 1, none⟩ (.slice pa1 b.ps.length pc1)) (w.heap.size + 1) [.slice none 0 0, .slice none 0 0, .slice none 0 0, .int .i64 0, .int .i64 0]) := BR2.out.setO (by show w.heap.size + 1 + 1 ≠ w.heap.size + 1; omega) _
 replace BO2 : Hid (Bx (w2.setCell ⟨w.heap.size + 1 + 1, 1, none⟩ (.slice pa1 b.ps.length pc1)) (w.heap.size + 1 + 1) [.slice va1 b.vs.length vc1, .slice pa1 b.ps.length pc1, .slice none 0 0, .int .i64 0, .int .i64 0]) := BO2.out.set 1 _
 replace HB2 : Hid (Below w.heap.size w (w2.setCell ⟨w.heap.size + 1 + 1, 1, none⟩ (.slice pa1 b.ps.length pc1))) := HB2.out.setCell (by show _ ≤ _ + 1 + 1; omega) _
 replace R1 : Hid (Lies encV 85 (w2.setCell ⟨w.heap.size + 1 + 1, 1, none⟩ (.slice pa1 b.ps.length pc1)) w0.heap.size w1.heap.size (.slice va1 b.vs.length vc1) b.vs) := R1.out.set (by have := HSZ.out; have := Y1.out; have := YG1.out; have := Y2.out; show w.heap.size + 1 + 1 < _; omega) _
 replace R2 : Hid (LLie (w2.setCell ⟨w.heap.size + 1 + 1, 1, none⟩ (.slice pa1 b.ps.length pc1)) v1.heap.size w2.heap.size (.slice pa1 ys1.length pc1) ys1) := R2.out.set (by have := HSZ.out; have := Y1.out; have := YG1.out; have := Y2.out; show w.heap.size + 1 + 1 < _; omega) _
 have YG2 : Hid (w2.heap.size ≤ (w2.setCell ⟨w.heap.size + 1 + 1, 1, none⟩ (.slice pa1 b.ps.length pc1)).heap.size) := by show _ ≤ _; simp [World.setCell]
 generalize (w2.setCell ⟨w.heap.size + 1 + 1, 1, none⟩ (.slice pa1 b.ps.length pc1)) = v2 at *
 have x2 := BA2.out.c2
 go_wp2_with fail
 refine (CQ.out _ HB2.out).mono ?_
 rintro e w3 ⟨ys2, qa1, qc1, rfl, ht, hl, ho, hb⟩
 have BA3 : Hid (Bx w3 w.heap.size [.slice b.va b.vs.length b.vc, .slice b.pa b.ps.length b.pc, .slice b.qa b.qs.length b.qc, .int .i64 b.cs, .int .i64 b.nx]) := BA2.out.below hb
 have BR3 : Hid (Bx w3 (w.heap.size + 1) [.slice none 0 0, .slice none 0 0, .slice none 0 0, .int .i64 0, .int .i64 0]) := BR2.out.below hb
 have BO3 : Hid (Bx w3 (w.heap.size + 1 + 1) [.slice va1 b.vs.length vc1, .slice pa1 b.ps.length pc1, .slice none 0 0, .int .i64 0, .int .i64 0]) := BO2.out.below hb
 have HB3 : Hid (Below w.heap.size w w3) := HB2.out.trans (hb.mono HB2.out.size)
 replace R1 : Hid (Lies encV 85 w3 w0.heap.size w1.heap.size (.slice va1 b.vs.length vc1) b.vs) := R1.out.below hb
 replace R2 : Hid (LLie w3 v1.heap.size w2.heap.size (.slice pa1 ys1.length pc1) ys1) := R2.out.below hb
 have Y3 : Hid (v2.heap.size ≤ w3.heap.size) := hb.size
 have T2 : Hid (txs ys2 = txs b.qs) := ht
 have L2 : Hid (ys2.length = b.qs.length) := hl
 have R3 : Hid (LLie w3 v2.heap.size w3.heap.size (.slice qa1 ys2.length qc1) ys2) := ho
 clear ho ht hl
 clear hb x2 BA2 BR2 BO2 HB2
 have o4 := BO3.out.c2
 have f4 := BO3.out.fz 2
 go_upto_region 5 with fail
 clear o4 f4
 replace BA3 : Hid (Bx (w3.setCell ⟨w.heap.size + 1 + 1, 2, none⟩ (.slice qa1 b.qs.length qc1)) w.heap.size [.slice b.va b.vs.length b.vc, .slice b.pa b.ps.length b.pc, .slice b.qa b.qs.length b.qc, .int .i64 b.cs, .int .i64 b.nx]) := BA3.out.setO (by show w.heap.size + 1 + 1 ≠ w.heap.size; omega) _
 replace BR3 : Hid (Bx (w3.setCell ⟨w.heap.size + 1 + 1, 2, none⟩ (.slice qa1 b.qs.length qc1)) (w.heap.size + 1) [.slice none 0 0, .slice none 0 0, .slice none 0 0, .int .i64 0, .int .i64 0]) := BR3.out.setO (by show w.heap.size + 1 + 1 ≠ w.heap.size + 1; omega) _
 replace BO3 : Hid (Bx (w3.setCell ⟨w.heap.size + 1 + 1, 2, none⟩ (.slice qa1 b.qs.length qc1)) (w.heap.size + 1 + 1) [.slice va1 b.vs.length vc1, .slice pa1 b.ps.length pc1, .slice qa1 b.qs.length qc1, .int .i64 0, .int .i64 0]) := BO3.out.set 2 _
 replace HB3 : Hid (Below w.heap.size w (w3.setCell ⟨w.heap.size + 1 + 1, 2, none⟩ (.slice qa1 b.qs.length qc1))) := HB3.out.setCell (by show _ ≤ _ + 1 + 1; omega) _
 replace R1 : Hid (Lies encV 85 (w3.setCell ⟨w.heap.size + 1 + 1, 2, none⟩ (.slice qa1 b.qs.length qc1)) w0.heap.size w1.heap.size (.slice va1 b.vs.length vc1) b.vs) := R1.out.set (by have := HSZ.out; have := Y1.out; have := YG1.out; have := Y2.out; have := YG2.out; have := Y3.out; show w.heap.size + 1 + 1 < _; omega) _
 replace R2 : Hid (LLie (w3.setCell ⟨w.heap.size + 1 + 1, 2, none⟩ (.slice qa1 b.qs.length qc1)) v1.heap.size w2.heap.size (.slice pa1 ys1.length pc1) ys1) := R2.out.set (by have := HSZ.out; have := Y1.out; have := YG1.out; have := Y2.out; have := YG2.out; have := Y3.out; show w.heap.size + 1 + 1 < _; omega) _
 replace R3 : Hid (LLie (w3.setCell ⟨w.heap.size + 1 + 1, 2, none⟩ (.slice qa1 b.qs.length qc1)) v2.heap.size w3.heap.size (.slice qa1 ys2.length qc1) ys2) := R3.out.set (by have := HSZ.out; have := Y1.out; have := YG1.out; have := Y2.out; have := YG2.out; have := Y3.out; show w.heap.size + 1 + 1 < _; omega) _
 have YG3 : Hid (w3.heap.size ≤ (w3.setCell ⟨w.heap.size + 1 + 1, 2, none⟩ (.slice qa1 b.qs.length qc1)).heap.size) := by show _ ≤ _; simp [World.setCell]
 generalize (w3.setCell ⟨w.heap.size + 1 + 1, 2, none⟩ (.slice qa1 b.qs.length qc1)) = v3 at *
 have HL : Hid (BLie v3 (w.heap.size + 1 + 1 + 1) v3.heap.size ⟨b.vs, ys1, ys2, b.cs, b.nx, va1, vc1, pa1, pc1, qa1, qc1⟩) :=
  ⟨w1.heap.size, w2.heap.size, by have := HSZ.out; have := Y1.out; omega, by have := YG1.out; have := Y2.out; omega, by have := YG2.out; have := Y3.out; have := YG3.out; omega, R1.out.mono HSZ.out (Nat.le_refl _), R2.out.mono YG1.out (Nat.le_refl _), R3.out.mono YG2.out YG3.out⟩
 have HSM : Hid (BSame b ⟨b.vs, ys1, ys2, b.cs, b.nx, va1, vc1, pa1, pc1, qa1, qc1⟩) := ⟨rfl, T1.out, T2.out, rfl, rfl⟩
 clear R1 R2 R3 T1 T2
 have x3 := BA3.out.c3
 have x4 := BA3.out.c4
 have o0 := BO3.out.c0
 have fo0 := BO3.out.fz 0
 have q0 := BR3.out.c0
 have fq0 := BR3.out.fz 0
 have o1 := BO3.out.c1
 have fo1 := BO3.out.fz 1
 have q1 := BR3.out.c1
 have fq1 := BR3.out.fz 1
 have o2 := BO3.out.c2
 have fo2 := BO3.out.fz 2
 have q2 := BR3.out.c2
 have fq2 := BR3.out.fz 2
 have o3 := BO3.out.c3
 have fo3 := BO3.out.fz 3
 have q3 := BR3.out.c3
 have fq3 := BR3.out.fz 3
 have o4 := BO3.out.c4
 have fo4 := BO3.out.fz 4
 have q4 := BR3.out.c4
 have fq4 := BR3.out.fz 4
 go_wp2
 refine bodyPost_ret (v := .agg #[.slice va1 b.vs.length vc1, .slice pa1 b.ps.length pc1, .slice qa1 b.qs.length qc1, .int .i64 b.cs, .int .i64 b.nx]) (by simp [results, Tryz.results23, go_sem, q0, q1, q2, q3, q4]) rfl ⟨⟨b.vs, ys1, ys2, b.cs, b.nx, va1, vc1, pa1, pc1, qa1, qc1⟩, by show _ = Ending.returned (.agg #[.slice va1 b.vs.length vc1, .slice pa1 ys1.length pc1, .slice qa1 ys2.length qc1, .int .i64 b.cs, .int .i64 b.nx]); rw [L1.out, L2.out], HSM.out, ?_, ?_⟩
 ·exact (((((((HL.out.set (by show _ + 1 + 1 < _; omega) _).set (by show _ + 1 + 1 < _; omega) _).set (by show _ + 1 < _; omega) _).set (by show _ + 1 < _; omega) _).set (by show _ + 1 < _; omega) _).set (by show _ + 1 < _; omega) _).set (by show _ + 1 < _; omega) _).mono (by omega) (by simp [World.setCell])
 ·exact (((((((HB3.out.setCell (by show _ ≤ _ + 1 + 1; omega) _).setCell (by show _ ≤ _ + 1 + 1; omega) _).setCell (by show _ ≤ _ + 1; omega) _).setCell (by show _ ≤ _ + 1; omega) _).setCell (by show _ ≤ _ + 1; omega) _).setCell (by show _ ≤ _ + 1; omega) _).setCell (by show _ ≤ _ + 1; omega) _)

end Go.Proofs.YtjeicgibddfifaaGreat

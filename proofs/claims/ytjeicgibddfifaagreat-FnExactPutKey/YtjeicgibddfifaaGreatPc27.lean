/- PutKey: how what is put lies, and what comes of it. -/
import Derived.Test.YtjeicgibddfifaaGreatPc14
import Derived.Test.YtjeicgibddfifaaGreatPc21
import Derived.Test.YtjeicgibddfifaaGreatPc22
import Derived.Test.YtjeicgibddfifaaGreatPc26
import Derived.Deep.RegionHeld3
import Derived.Deep.Cut
import Derived.Deep.CutRange
namespace Go.Proofs.YtjeicgibddfifaaGreat
open Go.RowKit
open KM
attribute [local go_sem ↓] Go.wp_at_zero Go.wp_at_succ

set_option maxRecDepth 100000 in
theorem own_put8 {W : World} {base g n c i : Nat} {zs : List Ta} (hn : n = zs.length) (h0 : GOwn encT 56 W base (.slice (some ⟨g, 0, none⟩) n c) zs) (hi : i < n) (y : Ta) : GOwn encT 56 ((((((((W.setCell ⟨g, i * 8, none⟩ (.int .i64 y.t.id)).setCell ⟨g, i * 8 + 1, none⟩ (.int .i64 y.t.st)).setCell ⟨g, i * 8 + 2, none⟩ (.int .i64 y.t.snap)).setCell ⟨g, i * 8 + 3, none⟩ (.int .i64 y.t.cs)).setCell ⟨g, i * 8 + 4, none⟩ (.slice y.ra y.t.rs.length y.rc)).setCell ⟨g, i * 8 + 5, none⟩ (.slice y.wa y.t.ws.length y.wc)).setCell ⟨g, i * 8 + 6, none⟩ (.bool y.t.out)).setCell ⟨g, i * 8 + 7, none⟩ (.string y.t.nm)) base (.slice (some ⟨g, 0, none⟩) n c) (zs.set i y) ∧ W.grownBy ((((((((W.setCell ⟨g, i * 8, none⟩ (.int .i64 y.t.id)).setCell ⟨g, i * 8 + 1, none⟩ (.int .i64 y.t.st)).setCell ⟨g, i * 8 + 2, none⟩ (.int .i64 y.t.snap)).setCell ⟨g, i * 8 + 3, none⟩ (.int .i64 y.t.cs)).setCell ⟨g, i * 8 + 4, none⟩ (.slice y.ra y.t.rs.length y.rc)).setCell ⟨g, i * 8 + 5, none⟩ (.slice y.wa y.t.ws.length y.wc)).setCell ⟨g, i * 8 + 6, none⟩ (.bool y.t.out)).setCell ⟨g, i * 8 + 7, none⟩ (.string y.t.nm)) (some g) := by
 subst hn
 have h : W.ownsRow base 56 8 (.slice (some ⟨g, 0, none⟩) zs.length c) zs.length (encT.cells zs) := h0
 have hlen := h.1
 have s0 := World.ownsRow.stored h (i * 8) (.int .i64 y.t.id)
 have s1 := World.ownsRow.stored s0.1 (i * 8 + 1) (.int .i64 y.t.st)
 have s2 := World.ownsRow.stored s1.1 (i * 8 + 2) (.int .i64 y.t.snap)
 have s3 := World.ownsRow.stored s2.1 (i * 8 + 3) (.int .i64 y.t.cs)
 have s4 := World.ownsRow.stored s3.1 (i * 8 + 4) (.slice y.ra y.t.rs.length y.rc)
 have s5 := World.ownsRow.stored s4.1 (i * 8 + 5) (.slice y.wa y.t.ws.length y.wc)
 have s6 := World.ownsRow.stored s5.1 (i * 8 + 6) (.bool y.t.out)
 have s7 := World.ownsRow.stored s6.1 (i * 8 + 7) (.string y.t.nm)
 refine ⟨?_, grown_trans s0.2 (grown_trans s1.2 (grown_trans s2.2 (grown_trans s3.2 (grown_trans s4.2 (grown_trans s5.2 (grown_trans s6.2 s7.2))))))⟩
 have e : encT.cells (zs.set i y) = ((((((((encT.cells zs).set (i * 8) (.int .i64 y.t.id)).set (i * 8 + 1) (.int .i64 y.t.st)).set (i * 8 + 2) (.int .i64 y.t.snap)).set (i * 8 + 3) (.int .i64 y.t.cs)).set (i * 8 + 4) (.slice y.ra y.t.rs.length y.rc)).set (i * 8 + 5) (.slice y.wa y.t.ws.length y.wc)).set (i * 8 + 6) (.bool y.t.out)).set (i * 8 + 7) (.string y.t.nm) := by
  apply List.ext_getElem?
  intro j
  by_cases hj : j < zs.length * 8
  ·obtain ⟨q, r, hr, rfl⟩ : ∃ q r, r < 8 ∧ j = q * 8 + r := ⟨j / 8, j % 8, Nat.mod_lt _ (by omega), by omega⟩
   have hq : q < zs.length := by omega
   have c1 := encT.cells_at (zs.set i y) q (by simpa using hq) r hr
   have c2 := encT.cells_at zs q hq r hr
   have e8 : encT.size = 8 := rfl
   rw [e8] at c1 c2
   rw [c1]
   by_cases hqi : q = i
   ·subst hqi
    simp only [List.getElem_set_self]
    have hr8 : r = 0 ∨ r = 1 ∨ r = 2 ∨ r = 3 ∨ r = 4 ∨ r = 5 ∨ r = 6 ∨ r = 7 := by omega
    rcases hr8 with rfl | rfl | rfl | rfl | rfl | rfl | rfl | rfl
    ·simp only [Nat.add_zero]; rw [List.getElem?_set_ne (by omega), List.getElem?_set_ne (by omega), List.getElem?_set_ne (by omega), List.getElem?_set_ne (by omega), List.getElem?_set_ne (by omega), List.getElem?_set_ne (by omega), List.getElem?_set_ne (by omega), List.getElem?_set_self (by omega)]; rfl
    ·rw [List.getElem?_set_ne (by omega), List.getElem?_set_ne (by omega), List.getElem?_set_ne (by omega), List.getElem?_set_ne (by omega), List.getElem?_set_ne (by omega), List.getElem?_set_ne (by omega), List.getElem?_set_self (by simp only [List.length_set]; omega)]; rfl
    ·rw [List.getElem?_set_ne (by omega), List.getElem?_set_ne (by omega), List.getElem?_set_ne (by omega), List.getElem?_set_ne (by omega), List.getElem?_set_ne (by omega), List.getElem?_set_self (by simp only [List.length_set]; omega)]; rfl
    ·rw [List.getElem?_set_ne (by omega), List.getElem?_set_ne (by omega), List.getElem?_set_ne (by omega), List.getElem?_set_ne (by omega), List.getElem?_set_self (by simp only [List.length_set]; omega)]; rfl
    ·rw [List.getElem?_set_ne (by omega), List.getElem?_set_ne (by omega), List.getElem?_set_ne (by omega), List.getElem?_set_self (by simp only [List.length_set]; omega)]; rfl
    ·rw [List.getElem?_set_ne (by omega), List.getElem?_set_ne (by omega), List.getElem?_set_self (by simp only [List.length_set]; omega)]; rfl
    ·rw [List.getElem?_set_ne (by omega), List.getElem?_set_self (by simp only [List.length_set]; omega)]; rfl
    ·rw [List.getElem?_set_self (by simp only [List.length_set]; omega)]; rfl
   ·rw [List.getElem_set_ne (fun e => hqi e.symm)]
    rw [List.getElem?_set_ne (by omega), List.getElem?_set_ne (by omega), List.getElem?_set_ne (by omega), List.getElem?_set_ne (by omega), List.getElem?_set_ne (by omega), List.getElem?_set_ne (by omega), List.getElem?_set_ne (by omega), List.getElem?_set_ne (by omega), c2]
  ·rw [List.getElem?_eq_none (by rw [encT.cells_len]; show (zs.set i y).length * 8 ≤ j; simp; omega), List.getElem?_eq_none (by simp only [List.length_set]; omega)]
 unfold GOwn
 rw [e, List.length_set]
 exact s7.1

theorem Zq.grown {w w' : World} {v : Value} (hg : w.grownBy w' v.ownBlock) : ∀ {Z : List (Nat × Nat)} {ys : List Ta}, Zq w v Z ys → Zq w' v Z ys
 | [], [], h => h
 | _ :: _, _ :: _, ⟨h1, h2, h3, h4⟩ => ⟨h1, h2.grown hg h3, h3, Zq.grown hg h4⟩
 | [], _ :: _, h => h.elim
 | _ :: _, [], h => h.elim
theorem Zq.put {w : World} {v : Value} {p q : Nat} {y : Ta} (hpq : p ≤ q) (hl : TLie w p q y.t y.ra y.rc y.wa y.wc) (ha : Av v p q) : ∀ {Z : List (Nat × Nat)} {ys : List Ta} (k : Nat), Zq w v Z ys → Zq w v (Z.set k (p, q)) (ys.set k y)
 | [], [], _, h => h
 | _ :: _, _ :: _, 0, ⟨_, _, _, h4⟩ => ⟨hpq, hl, ha, h4⟩
 | _ :: _, _ :: _, k + 1, ⟨h1, h2, h3, h4⟩ => ⟨h1, h2, h3, Zq.put hpq hl ha k h4⟩
 | [], _ :: _, _, h => h.elim
 | _ :: _, [], _, h => h.elim
structure EnQ (w : World) (lo m g p q : Nat) (d : En) : Prop where
 lm : lo ≤ m
 mg : m ≤ g
 gp : g ≤ p
 pq : p ≤ q
 b : BLie w lo m d.b
 o : Lies encT 56 w m g (.slice d.oa d.os.length d.oc) d.os
 z : ∃ Z, (∀ z ∈ Z, (m ≤ z.1 ∧ z.2 ≤ g) ∨ (z.1 = p ∧ z.2 = q)) ∧ Z.Pairwise (fun a b => a.2 ≤ b.1 ∨ b.2 ≤ a.1) ∧ Zq w (.slice d.oa d.os.length d.oc) Z d.os
theorem EnQ.below {w w' : World} {lo m g p q : Nat} {d : En} (k : EnQ w lo m g p q d) (hb : Below w.heap.size w w') : EnQ w' lo m g p q d := by
 obtain ⟨Z, z1, z2, z3⟩ := k.z
 exact ⟨k.lm, k.mg, k.gp, k.pq, k.b.below hb, k.o.below hb, Z, z1, z2, z3.below hb⟩
theorem EnQ.setr {w : World} {lo m g p q : Nat} {d : En} (k : EnQ w lo m g p q d) {a : Addr} (ha : a.block < lo ∨ (g ≤ a.block ∧ (a.block < p ∨ q ≤ a.block))) (u : Value) : EnQ (w.setCell a u) lo m g p q d := by
 obtain ⟨Z, z1, z2, z3⟩ := k.z
 have h1 := k.lm
 have h2 := k.mg
 have h3 := k.gp
 have h4 := k.pq
 exact ⟨k.lm, k.mg, k.gp, k.pq, k.b.zn (zn_set w a u) (by omega), k.o.zn (zn_set w a u) (by omega), Z, z1, z2, z3.zn (zn_set w a u) (fun z hz => by have := z1 z hz; omega)⟩
theorem EnLx.q0 {w : World} {lo m g : Nat} {d : En} (k : EnLx w lo m g g g d) (p : Nat) (hp : g ≤ p) : EnQ w lo m g p p d := by
 obtain ⟨Z, ⟨d1, d2⟩, hz⟩ := k.z.zq
 exact ⟨k.lm, k.mg, hp, Nat.le_refl _, k.b, k.o, Z, fun z h => Or.inl (d1 z h), d2, hz⟩
structure EnLq (w : World) (lo hi : Nat) (c : En) : Prop where
 ex : ∃ m, lo ≤ m ∧ m ≤ hi ∧ BLie w lo m c.b ∧ LLq w m hi (.slice c.oa c.os.length c.oc) c.os
theorem EnLq.rows {w : World} {lo hi : Nat} {c : En} (h : EnLq w lo hi c) : EnRows w c := by
 obtain ⟨m, _, _, h1, h2⟩ := h.ex
 exact ⟨h1.rows, h2.rows⟩
theorem EnLq.below {w w' : World} {lo hi : Nat} {c : En} (h : EnLq w lo hi c) (hb : Below w.heap.size w w') : EnLq w' lo hi c := by
 obtain ⟨m, a, b, h1, h2⟩ := h.ex
 exact ⟨m, a, b, h1.below hb, h2.below hb⟩
theorem EnLq.zn {w w' : World} {lo hi l h : Nat} {c : En} (k : EnLq w lo hi c) (hz : Zn l h w w') (hne : hi ≤ l ∨ h ≤ lo) : EnLq w' lo hi c := by
 obtain ⟨m, k1, k2, h1, h2⟩ := k.ex
 exact ⟨m, k1, k2, h1.zn hz (by omega), h2.zn hz (by omega)⟩
theorem EnQ.lq {w : World} {lo m g p q lo' hi : Nat} {d : En} (k : EnQ w lo m g p q d) (h1 : lo' ≤ lo) (h2 : q ≤ hi) : EnLq w lo' hi d := by
 obtain ⟨Z, z1, z2, z3⟩ := k.z
 have := k.lm
 have := k.mg
 have := k.gp
 have := k.pq
 exact ⟨m, by omega, by omega, k.b.mono h1 (Nat.le_refl _), k.o.mono (Nat.le_refl _) (by omega), Z, ⟨fun z hz => by have := z1 z hz; omega, z2⟩, z3⟩
theorem pair_set {Z : List (Nat × Nat)} {m g p q : Nat} (k : Nat) (h1 : ∀ z ∈ Z, m ≤ z.1 ∧ z.2 ≤ g) (hg : g ≤ p) (h2 : Z.Pairwise (fun a b => a.2 ≤ b.1 ∨ b.2 ≤ a.1)) :
  (∀ z ∈ Z.set k (p, q), (m ≤ z.1 ∧ z.2 ≤ g) ∨ (z.1 = p ∧ z.2 = q)) ∧ (Z.set k (p, q)).Pairwise (fun a b => a.2 ≤ b.1 ∨ b.2 ≤ a.1) := by
 refine ⟨fun z hz => ?_, ?_⟩
 ·rcases List.mem_or_eq_of_mem_set hz with h | h
  ·exact Or.inl (h1 z h)
  ·subst h; exact Or.inr ⟨rfl, rfl⟩
 ·rw [List.pairwise_iff_getElem]
  intro i j hi hj hij
  rw [List.length_set] at hi hj
  have h3 := (List.pairwise_iff_getElem.1 h2) i j hi hj hij
  have hi' := h1 _ (List.getElem_mem hi)
  have hj' := h1 _ (List.getElem_mem hj)
  rw [List.getElem_set, List.getElem_set]
  split
  ·split
   ·omega
   ·right; show Z[j].2 ≤ p; omega
  ·split
   ·left; show Z[i].2 ≤ p; omega
   ·exact h3
theorem EnLx.put {w w' : World} {lo m g p q k ba : Nat} {c : En} {y : Ta} (h : EnLx w lo m g g g c) (hgp : g ≤ p) (hpq : p ≤ q) (hl : TLie w' p q y.t y.ra y.rc y.wa y.wc) (hba : c.oa = some ⟨ba, 0, none⟩) (hg : w.grownBy w' (some ba))
  (ho : GOwn encT 56 w' m (.slice (some ⟨ba, 0, none⟩) c.os.length c.oc) (c.os.set k y)) : EnQ w' lo m g p q ⟨c.b, c.os.set k y, c.oa, c.oc⟩ := by
 have hv : (Value.slice c.oa c.os.length c.oc).ownBlock = some ba := by rw [hba]; rfl
 have hbl := h.o.lo ba hv
 have hz : Zn m g w w' := Zn.ofGrown hg (fun b e => by cases e; exact hbl)
 obtain ⟨Z, ⟨d1, d2⟩, zz⟩ := h.z.zq
 have z2 : Zq w' (.slice c.oa c.os.length c.oc) Z c.os := zz.grown (by rw [hv]; exact hg)
 obtain ⟨q1, q2⟩ := pair_set (q := q) k d1 hgp d2
 have hlen : (c.os.set k y).length = c.os.length := List.length_set
 refine ⟨h.lm, h.mg, hgp, hpq, h.b.zn hz (Or.inl (Nat.le_refl _)), ?_, Z.set k (p, q), q1, q2, ?_⟩
 ·show Lies encT 56 w' m g (.slice c.oa (c.os.set k y).length c.oc) (c.os.set k y)
  rw [hlen, hba]
  exact ⟨ho, fun b e => by cases e; exact hbl.2⟩
 ·show Zq w' (.slice c.oa (c.os.set k y).length c.oc) (Z.set k (p, q)) (c.os.set k y)
  rw [hlen]
  exact z2.put hpq hl (fun b e => by rw [hv] at e; cases e; left; omega) k
def pkC (t : Tx) (x : Wt) : Int := if writeB x = true then (if wkB t x = true then 0 else 3) else 2
def pkT (t : Tx) (x : Wt) : Tx := if writeB x = true ∧ wkB t x = true then setW t (putS t.ws x) else t
def pkCode (e : En) (i : Int) (x : Wt) : Int := if idxZ (ids e.os) i 0 < 0 then 1 else match (txs e.os)[(idxZ (ids e.os) i 0).toNat]? with
 | some t => pkC t x
 | none => 0
def pkOs (ts : List Tx) (k : Nat) (x : Wt) : List Tx := match ts[k]? with
 | some t => ts.set k (pkT t x)
 | none => ts
def pkTxs (e : En) (i : Int) (x : Wt) : List Tx := if idxZ (ids e.os) i 0 < 0 then txs e.os else pkOs (txs e.os) (idxZ (ids e.os) i 0).toNat x
def pkE (e : En) (i : Int) (x : Wt) : En := ⟨e.b, (pkTxs e i x).map (fun t => ⟨t, none, 0, none, 0⟩), none, 0⟩
theorem pkE_txs (e : En) (i : Int) (x : Wt) : txs (pkE e i x).os = pkTxs e i x := by unfold pkE txs; simp [Function.comp_def]
theorem pk_same {e c : En} (h : EnSame e c) (i : Int) (x : Wt) : pkCode c i x = pkCode e i x ∧ EnSame (pkE e i x) (pkE c i x) := by
 have h1 : ids c.os = ids e.os := by rw [ids_txs, ids_txs, h.o]
 have h2 : pkTxs c i x = pkTxs e i x := by unfold pkTxs; rw [h1, h.o]
 refine ⟨by unfold pkCode; rw [h1, h.o], ⟨h.b, ?_⟩⟩
 rw [pkE_txs, pkE_txs, h2]
theorem pkT_fit {t : Tx} {x : Wt} (h : TFit t) (hx : x.1.size ≤ 1048576 ∧ x.2.1.size ≤ 1048576) : TFit (pkT t x) := by
 unfold pkT
 split
 ·rename_i hk
  have hw := hk.2
  unfold wkB at hw
  simp only [Bool.and_eq_true] at hw
  have h8 : writesB (putS t.ws x) = true := hw.2
  have hl : (putS t.ws x).length ≤ 8 := by unfold writesB at h8; simp only [Bool.and_eq_true, decide_eq_true_eq] at h8; exact h8.1
  exact ⟨h.1, h.2.1, by show (putS t.ws x).length ≤ _; omega, fit_putS h.2.2.2.1 hx, h.2.2.2.2⟩
 ·exact h
theorem pkE_fit {e : En} (h : EnFit e) (i : Int) (x : Wt) (hx : x.1.size ≤ 1048576 ∧ x.2.1.size ≤ 1048576) : EnFit (pkE e i x) := by
 refine ⟨h.b, ?_⟩
 rw [pkE_txs]
 unfold pkTxs
 split
 ·exact h.o
 ·unfold pkOs
  split
  ·rename_i t ht
   refine ⟨by rw [List.length_set]; exact h.o.1, fun y hy => ?_⟩
   rcases List.mem_or_eq_of_mem_set hy with k | k
   ·exact h.o.2 y k
   ·subst k
    exact pkT_fit (h.o.2 t (List.mem_of_getElem? ht)) hx
  ·exact h.o

end Go.Proofs.YtjeicgibddfifaaGreat

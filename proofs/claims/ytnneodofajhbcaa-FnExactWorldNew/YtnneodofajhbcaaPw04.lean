/- Memory that is marked, and what stays; markTxn, heldTxn. -/
import Derived.Test.YtnneodofajhbcaaPw03
import Derived.Test.YtnneodofajhbcaaPw02
import Derived.Deep.RegionHeld3
import Derived.Deep.Cut
import Derived.Deep.CutRange
import Derived.Test.YtnneodofajhbcaaProg
import Derived.WalkKit
import Derived.Test.YtnneodofajhbcaaPw01
import Derived.WalkSpells
import Derived.WalkLawsBesides
import Derived.Deep.QuietTactic
import Derived.BigQuiet
import Derived.Deep.DrawnRows
import Derived.Deep.AppendLies
import Derived.Sort.OwnSorted
import Derived.Lib.RowBridge
namespace Go.Proofs.Ytnneodofajhbcaa
open Go.RowKit
open KM
attribute [local go_sem ↓] Go.wp_at_zero Go.wp_at_succ

structure Zn (lo hi : Nat) (w w' : World) : Prop where
  os : w'.os = w.os
  tape : w'.tape = w.tape
  output : w'.output = w.output
  size : w.heap.size ≤ w'.heap.size
  block : ∀ j, j < w.heap.size → (j < lo ∨ hi ≤ j) → w'.heap[j]? = w.heap[j]?
theorem Zn.trans {lo hi : Nat} {a b c : World} (h : Zn lo hi a b) (k : Zn lo hi b c) : Zn lo hi a c :=
  ⟨k.os.trans h.os, k.tape.trans h.tape, k.output.trans h.output, Nat.le_trans h.size k.size, fun j hj hn => (k.block j (Nat.lt_of_lt_of_le hj h.size) hn).trans (h.block j hj hn)⟩
theorem Zn.ofBelow (lo hi : Nat) {w w' : World} (h : Below w.heap.size w w') : Zn lo hi w w' := ⟨h.os, h.tape, h.output, h.size, fun j hj _ => h.block j hj⟩
theorem Zn.ofGrown {lo hi : Nat} {w w' : World} {row : Option Nat} (h : w.grownBy w' row) (hr : ∀ g, row = some g → lo ≤ g ∧ g < hi) : Zn lo hi w w' :=
  ⟨h.os, h.tape, h.output, h.size, fun j hj hn => h.block j hj (fun e => by have := hr j e.symm; omega)⟩
theorem Zn.below {lo hi base : Nat} {w w' : World} (h : Zn lo hi w w') (hb : base ≤ lo) (hs : base ≤ w.heap.size) : Below base w w' :=
  ⟨h.os, h.tape, h.output, h.size, fun j hj => h.block j (by omega) (Or.inl (by omega))⟩
theorem Bx.zn {lo hi b : Nat} {w w' : World} {cs : List Value} (h : Bx w b cs) (hg : Zn lo hi w w') (hne : b < lo ∨ hi ≤ b) : Bx w' b cs := by
  have hb := hg.block b h.lt hne
  refine ⟨Nat.lt_of_lt_of_le h.lt hg.size, fun j hj => (World.cell?_of_block (w := w) (a := ⟨b, j, none⟩) hb).trans (h.at' j hj), fun j => ?_⟩
  have := h.fz j
  unfold World.frozen? at this ⊢
  simp only at this ⊢
  rw [hb]; exact this
theorem Lies.zn {α : Type} {E : Enc α} {e : TypeId} {w w' : World} {l h' lo hi : Nat} {v : Value} {xs : List α} (h : Lies E e w l h' v xs) (hz : Zn lo hi w w') (hne : h' ≤ lo ∨ hi ≤ l) : Lies E e w' l h' v xs := by
  refine ⟨?_, h.up⟩
  obtain ⟨h1, h2⟩ := h.own
  refine ⟨h1, ?_⟩
  rcases h2 with h2 | ⟨g, cap, cur, hv, hg', hh, r⟩
  · exact Or.inl h2
  · refine Or.inr ⟨g, cap, cur, hv, hg', ?_, r⟩
    have hlt : g < w.heap.size := (Array.getElem?_eq_some_iff.1 hh).1
    have hup := h.up g (by rw [hv]; rfl)
    rw [hz.block g hlt (by omega)]
    exact hh
theorem TLie.zn {w w' : World} {l h' lo hi : Nat} {t : Tx} {ra wa : Option Addr} {rc wc : Nat} (h : TLie w l h' t ra rc wa wc) (hz : Zn lo hi w w') (hne : h' ≤ lo ∨ hi ≤ l) : TLie w' l h' t ra rc wa wc := by
  obtain ⟨m, p, q, h1, h2⟩ := h.ex
  exact ⟨m, p, q, h1.zn hz (by omega), h2.zn hz (by omega)⟩
end Go.Proofs.Ytnneodofajhbcaa

namespace Go.Proofs.Ytnneodofajhbcaa
open Go.RowKit
open KM
attribute [local go_sem ↓] Go.wp_at_zero Go.wp_at_succ

def Av (v : Value) (p q : Nat) : Prop := ∀ g, v.ownBlock = some g → g < p ∨ q ≤ g
def Zs (w : World) (v : Value) : Nat → Nat → List Ta → Prop
  | lo, hi, [] => lo ≤ hi
  | lo, hi, y :: ys => ∃ p q, lo ≤ p ∧ p ≤ q ∧ TLie w p q y.t y.ra y.rc y.wa y.wc ∧ Av v p q ∧ Zs w v q hi ys
theorem Zs.le {w : World} {v : Value} : ∀ {ys : List Ta} {lo hi : Nat}, Zs w v lo hi ys → lo ≤ hi
  | [], _, _, h => h
  | _ :: _, _, _, ⟨_, _, h1, h2, _, _, h5⟩ => Nat.le_trans (Nat.le_trans h1 h2) h5.le
theorem Zs.below {w w' : World} {v : Value} (hb : Below w.heap.size w w') : ∀ {ys : List Ta} {lo hi : Nat}, Zs w v lo hi ys → Zs w' v lo hi ys
  | [], _, _, h => h
  | _ :: _, _, _, ⟨p, q, h1, h2, h3, h4, h5⟩ => ⟨p, q, h1, h2, h3.below hb, h4, h5.below hb⟩
theorem Zs.set {w : World} {v : Value} {a : Addr} (u : Value) : ∀ {ys : List Ta} {lo hi : Nat}, Zs w v lo hi ys → a.block < lo → Zs (w.setCell a u) v lo hi ys
  | [], _, _, h, _ => h
  | _ :: _, _, _, ⟨p, q, h1, h2, h3, h4, h5⟩, ha => ⟨p, q, h1, h2, h3.set (Nat.lt_of_lt_of_le ha h1) u, h4, h5.set u (by omega)⟩
theorem Zs.mono {w : World} {v : Value} : ∀ {ys : List Ta} {lo hi lo' hi' : Nat}, Zs w v lo hi ys → lo' ≤ lo → hi ≤ hi' → Zs w v lo' hi' ys
  | [], _, _, _, _, h, h1, h2 => Nat.le_trans h1 (Nat.le_trans h h2)
  | _ :: _, _, _, _, _, ⟨p, q, h1, h2, h3, h4, h5⟩, k1, k2 => ⟨p, q, Nat.le_trans k1 h1, h2, h3, h4, h5.mono (Nat.le_refl _) k2⟩
theorem Zs.snoc {w : World} {v : Value} {p q m hi : Nat} {y : Ta} (hm : m ≤ p) (hpq : p ≤ q) (hq : q ≤ hi) (hl : TLie w p q y.t y.ra y.rc y.wa y.wc) (ha : Av v p q) : ∀ {ys : List Ta} {lo : Nat}, Zs w v lo m ys → Zs w v lo hi (ys ++ [y])
  | [], _, h => ⟨p, q, Nat.le_trans h hm, hpq, hl, ha, hq⟩
  | _ :: _, _, ⟨p', q', h1, h2, h3, h4, h5⟩ => ⟨p', q', h1, h2, h3, h4, h5.snoc hm hpq hq hl ha⟩
theorem Zs.each {w : World} {v : Value} : ∀ {ys : List Ta} {lo hi : Nat}, Zs w v lo hi ys → ∀ y ∈ ys, TRow w y.t y.ra y.wa
  | [], _, _, _, _, hy => by cases hy
  | _ :: _, _, _, ⟨_, _, _, _, h3, _, h5⟩, y, hy => by
    rcases List.mem_cons.1 hy with rfl | hy
    · exact h3.row
    · exact h5.each y hy
theorem Zs.zn {w w' : World} {v : Value} {l h : Nat} (hz : Zn l h w w') : ∀ {ys : List Ta} {lo hi : Nat}, Zs w v lo hi ys → (hi ≤ l ∨ h ≤ lo) → Zs w' v lo hi ys
  | [], _, _, k, _ => k
  | _ :: _, lo, hi, ⟨p, q, h1, h2, h3, h4, h5⟩, k => ⟨p, q, h1, h2, h3.zn hz (by have := h5.le; omega), h4, h5.zn hz (by omega)⟩
structure LLie (w : World) (lo hi : Nat) (v : Value) (ys : List Ta) : Prop where
  own : Lies encT 68 w lo hi v ys
  zs : Zs w v lo hi ys
theorem LLie.below {w w' : World} {lo hi : Nat} {v : Value} {ys : List Ta} (h : LLie w lo hi v ys) (hb : Below w.heap.size w w') : LLie w' lo hi v ys := ⟨h.own.below hb, h.zs.below hb⟩
theorem LLie.mono {w : World} {lo hi lo' hi' : Nat} {v : Value} {ys : List Ta} (h : LLie w lo hi v ys) (h1 : lo' ≤ lo) (h2 : hi ≤ hi') : LLie w lo' hi' v ys := ⟨h.own.mono h1 h2, h.zs.mono h1 h2⟩
theorem LLie.zn {w w' : World} {lo hi l h : Nat} {v : Value} {ys : List Ta} (k : LLie w lo hi v ys) (hz : Zn l h w w') (hne : hi ≤ l ∨ h ≤ lo) : LLie w' lo hi v ys := ⟨k.own.zn hz hne, k.zs.zn hz hne⟩
theorem LLie.set {w : World} {lo hi : Nat} {v : Value} {ys : List Ta} (h : LLie w lo hi v ys) {a : Addr} (ha : a.block < lo) (u : Value) : LLie (w.setCell a u) lo hi v ys := ⟨h.own.set ha u, h.zs.set u ha⟩
theorem LLie.rows {w : World} {lo hi c : Nat} {a : Option Addr} {ys : List Ta} (h : LLie w lo hi (.slice a ys.length c) ys) : TRows w a ys := ⟨h.own.own.grow, h.zs.each⟩

end Go.Proofs.Ytnneodofajhbcaa

namespace Go.Proofs.Ytnneodofajhbcaa
open Go.RowKit
open KM
attribute [local go_sem ↓] Go.wp_at_zero Go.wp_at_succ

structure BLie (w : World) (lo hi : Nat) (c : Bb) : Prop where
  ex : ∃ m1 m2, lo ≤ m1 ∧ m1 ≤ m2 ∧ m2 ≤ hi ∧ Lies encV 104 w lo m1 (.slice c.va c.vs.length c.vc) c.vs ∧ LLie w m1 m2 (.slice c.pa c.ps.length c.pc) c.ps ∧ LLie w m2 hi (.slice c.qa c.qs.length c.qc) c.qs
theorem BLie.rows {w : World} {lo hi : Nat} {c : Bb} (h : BLie w lo hi c) : BRows w c := by
  obtain ⟨m1, m2, _, _, _, h1, h2, h3⟩ := h.ex
  exact ⟨h1.own.grow, h2.rows, h3.rows⟩
theorem BLie.below {w w' : World} {lo hi : Nat} {c : Bb} (h : BLie w lo hi c) (hb : Below w.heap.size w w') : BLie w' lo hi c := by
  obtain ⟨m1, m2, a, b, d, h1, h2, h3⟩ := h.ex
  exact ⟨m1, m2, a, b, d, h1.below hb, h2.below hb, h3.below hb⟩
theorem BLie.set {w : World} {lo hi : Nat} {c : Bb} (h : BLie w lo hi c) {a : Addr} (ha : a.block < lo) (u : Value) : BLie (w.setCell a u) lo hi c := by
  obtain ⟨m1, m2, k1, k2, k3, h1, h2, h3⟩ := h.ex
  exact ⟨m1, m2, k1, k2, k3, h1.set ha u, h2.set (by omega) u, h3.set (by omega) u⟩
theorem BLie.mono {w : World} {lo hi lo' hi' : Nat} {c : Bb} (h : BLie w lo hi c) (k : lo' ≤ lo) (k' : hi ≤ hi') : BLie w lo' hi' c := by
  obtain ⟨m1, m2, k1, k2, k3, h1, h2, h3⟩ := h.ex
  exact ⟨m1, m2, by omega, k2, by omega, h1.mono k (Nat.le_refl _), h2, h3.mono (Nat.le_refl _) k'⟩
theorem BLie.zn {w w' : World} {lo hi l h : Nat} {c : Bb} (k : BLie w lo hi c) (hz : Zn l h w w') (hne : hi ≤ l ∨ h ≤ lo) : BLie w' lo hi c := by
  obtain ⟨m1, m2, k1, k2, k3, h1, h2, h3⟩ := k.ex
  exact ⟨m1, m2, k1, k2, k3, h1.zn hz (by omega), h2.zn hz (by omega), h3.zn hz (by omega)⟩

end Go.Proofs.Ytnneodofajhbcaa

namespace Go.Proofs.Ytnneodofajhbcaa
open Go.RowKit
open KM
attribute [local go_sem ↓] Go.wp_at_zero Go.wp_at_succ

structure En where
  b : Bb
  os : List Ta
  oa : Option Addr
  oc : Nat
structure EnRows (w : World) (e : En) : Prop where
  b : BRows w e.b
  o : TRows w e.oa e.os
theorem EnRows.below {w w' : World} {e : En} (h : EnRows w e) (hb : Below w.heap.size w w') : EnRows w' e := ⟨h.b.below hb, h.o.below hb⟩
structure EnArg (w : World) (e : En) : Prop where
  b : BArg w e.b
  o : LArg w e.oa e.os
theorem EnArg.below {w w' : World} {e : En} (h : EnArg w e) (hb : Below w.heap.size w w') : EnArg w' e := ⟨h.b.below hb, h.o.below hb⟩
theorem EnArg.rows {w : World} {e : En} (h : EnArg w e) : EnRows w e := ⟨h.b.rows, h.o.rows⟩
structure EnFit (e : En) : Prop where
  b : BFit e.b
  o : LFit (txs e.os)
theorem EnFit.ol {e : En} (h : EnFit e) : e.os.length ≤ 1048576 := by have := h.o.1; rwa [txs_len] at this
structure EnSame (e c : En) : Prop where
  b : BSame e.b c.b
  o : txs c.os = txs e.os
theorem EnSame.ol {e c : En} (h : EnSame e c) : c.os.length = e.os.length := by rw [← txs_len, h.o, txs_len]
theorem EnSame.fit {e c : En} (h : EnSame e c) (hf : EnFit e) : EnFit c := ⟨h.b.fit hf.b, by rw [h.o]; exact hf.o⟩
theorem EnSame.trans {e c d : En} (h : EnSame e c) (k : EnSame c d) : EnSame e d := ⟨h.b.trans k.b, k.o.trans h.o⟩
theorem EnSame.symm {e c : En} (h : EnSame e c) : EnSame c e := ⟨h.b.symm, h.o.symm⟩
structure EnLie (w : World) (lo hi : Nat) (c : En) : Prop where
  ex : ∃ m, lo ≤ m ∧ m ≤ hi ∧ BLie w lo m c.b ∧ LLie w m hi (.slice c.oa c.os.length c.oc) c.os
theorem EnLie.rows {w : World} {lo hi : Nat} {c : En} (h : EnLie w lo hi c) : EnRows w c := by
  obtain ⟨m, _, _, h1, h2⟩ := h.ex
  exact ⟨h1.rows, h2.rows⟩
theorem EnLie.below {w w' : World} {lo hi : Nat} {c : En} (h : EnLie w lo hi c) (hb : Below w.heap.size w w') : EnLie w' lo hi c := by
  obtain ⟨m, a, b, h1, h2⟩ := h.ex
  exact ⟨m, a, b, h1.below hb, h2.below hb⟩
theorem EnLie.set {w : World} {lo hi : Nat} {c : En} (h : EnLie w lo hi c) {a : Addr} (ha : a.block < lo) (u : Value) : EnLie (w.setCell a u) lo hi c := by
  obtain ⟨m, k1, k2, h1, h2⟩ := h.ex
  exact ⟨m, k1, k2, h1.set ha u, h2.set (by omega) u⟩
theorem EnLie.mono {w : World} {lo hi lo' hi' : Nat} {c : En} (h : EnLie w lo hi c) (k : lo' ≤ lo) (k' : hi ≤ hi') : EnLie w lo' hi' c := by
  obtain ⟨m, k1, k2, h1, h2⟩ := h.ex
  exact ⟨m, by omega, by omega, h1.mono k (Nat.le_refl _), h2.mono (Nat.le_refl _) k'⟩
theorem EnLie.zn {w w' : World} {lo hi l h : Nat} {c : En} (k : EnLie w lo hi c) (hz : Zn l h w w') (hne : hi ≤ l ∨ h ≤ lo) : EnLie w' lo hi c := by
  obtain ⟨m, k1, k2, h1, h2⟩ := k.ex
  exact ⟨m, k1, k2, h1.zn hz (by omega), h2.zn hz (by omega)⟩

set_option maxRecDepth 100000 in
set_option maxHeartbeats 2000000 in
theorem eqE0 (e c : En) (hs : EnSame e c) (hf : EnFit e) (w : World) (hp : EnRows w e) (hq : EnRows w c) :
    Calls Try.prog 36 #[.agg #[.slice e.b.va e.b.vs.length e.b.vc, .slice e.b.pa e.b.ps.length e.b.pc, .slice e.b.qa e.b.qs.length e.b.qc, .int .i64 e.b.cs, .int .i64 e.b.nx, .slice e.oa e.os.length e.oc], .agg #[.slice c.b.va e.b.vs.length c.b.vc, .slice c.b.pa e.b.ps.length c.b.pc, .slice c.b.qa e.b.qs.length c.b.qc, .int .i64 e.b.cs, .int .i64 e.b.nx, .slice c.oa e.os.length c.oc]] w fun ex w' => ex = .returned (.bool true) ∧ Below w.heap.size w w' := by
  have HP : Hid (EnRows w e) := hp
  have HQ : Hid (EnRows w c) := hq
  have HS : Hid (EnSame e c) := hs
  have HF : Hid (EnFit e) := hf
  clear hp hq hs hf
  have BA0 : Hid (Bx ((w.alloc (.cells #[.slice e.b.va e.b.vs.length e.b.vc, .slice e.b.pa e.b.ps.length e.b.pc, .slice e.b.qa e.b.qs.length e.b.qc, .int .i64 e.b.cs, .int .i64 e.b.nx, .slice e.oa e.os.length e.oc] 36)).alloc (.cells #[.slice c.b.va e.b.vs.length c.b.vc, .slice c.b.pa e.b.ps.length c.b.pc, .slice c.b.qa e.b.qs.length c.b.qc, .int .i64 e.b.cs, .int .i64 e.b.nx, .slice c.oa e.os.length c.oc] 36)) w.heap.size [.slice e.b.va e.b.vs.length e.b.vc, .slice e.b.pa e.b.ps.length e.b.pc, .slice e.b.qa e.b.qs.length e.b.qc, .int .i64 e.b.cs, .int .i64 e.b.nx, .slice e.oa e.os.length e.oc]) := (Bx.new w [.slice e.b.va e.b.vs.length e.b.vc, .slice e.b.pa e.b.ps.length e.b.pc, .slice e.b.qa e.b.qs.length e.b.qc, .int .i64 e.b.cs, .int .i64 e.b.nx, .slice e.oa e.os.length e.oc] 36).alloc _
  have BB0 : Hid (Bx ((w.alloc (.cells #[.slice e.b.va e.b.vs.length e.b.vc, .slice e.b.pa e.b.ps.length e.b.pc, .slice e.b.qa e.b.qs.length e.b.qc, .int .i64 e.b.cs, .int .i64 e.b.nx, .slice e.oa e.os.length e.oc] 36)).alloc (.cells #[.slice c.b.va e.b.vs.length c.b.vc, .slice c.b.pa e.b.ps.length c.b.pc, .slice c.b.qa e.b.qs.length c.b.qc, .int .i64 e.b.cs, .int .i64 e.b.nx, .slice c.oa e.os.length c.oc] 36)) (w.heap.size + 1) [.slice c.b.va e.b.vs.length c.b.vc, .slice c.b.pa e.b.ps.length c.b.pc, .slice c.b.qa e.b.qs.length c.b.qc, .int .i64 e.b.cs, .int .i64 e.b.nx, .slice c.oa e.os.length c.oc]) := by
    have h := Bx.new (w.alloc (.cells #[.slice e.b.va e.b.vs.length e.b.vc, .slice e.b.pa e.b.ps.length e.b.pc, .slice e.b.qa e.b.qs.length e.b.qc, .int .i64 e.b.cs, .int .i64 e.b.nx, .slice e.oa e.os.length e.oc] 36)) [.slice c.b.va e.b.vs.length c.b.vc, .slice c.b.pa e.b.ps.length c.b.pc, .slice c.b.qa e.b.qs.length c.b.qc, .int .i64 e.b.cs, .int .i64 e.b.nx, .slice c.oa e.os.length c.oc] 36
    rw [World.size_alloc] at h
    exact h
  have HB0 : Hid (Below w.heap.size w ((w.alloc (.cells #[.slice e.b.va e.b.vs.length e.b.vc, .slice e.b.pa e.b.ps.length e.b.pc, .slice e.b.qa e.b.qs.length e.b.qc, .int .i64 e.b.cs, .int .i64 e.b.nx, .slice e.oa e.os.length e.oc] 36)).alloc (.cells #[.slice c.b.va e.b.vs.length c.b.vc, .slice c.b.pa e.b.ps.length c.b.pc, .slice c.b.qa e.b.qs.length c.b.qc, .int .i64 e.b.cs, .int .i64 e.b.nx, .slice c.oa e.os.length c.oc] 36))) := ((belowRefl w).alloc (Nat.le_refl _) _).alloc (by simp) _
  have CB : Hid (∀ W : World, Below w.heap.size w W → Calls Try.prog 53 #[.agg #[.slice e.b.va e.b.vs.length e.b.vc, .slice e.b.pa e.b.ps.length e.b.pc, .slice e.b.qa e.b.qs.length e.b.qc, .int .i64 e.b.cs, .int .i64 e.b.nx], .agg #[.slice c.b.va e.b.vs.length c.b.vc, .slice c.b.pa e.b.ps.length c.b.pc, .slice c.b.qa e.b.qs.length c.b.qc, .int .i64 e.b.cs, .int .i64 e.b.nx]] W fun ex w' => ex = .returned (.bool true) ∧ Below W.heap.size W w') := fun W h => eqB0 e.b c.b HS.out.b HF.out.b W (HP.out.b.below h) (HQ.out.b.below h)
  have CO : Hid (∀ W : World, Below w.heap.size w W → Calls Try.prog 22 #[.slice e.oa e.os.length e.oc, .slice c.oa e.os.length c.oc] W fun ex w' => ex = .returned (.bool true) ∧ Below W.heap.size W w') := fun W h => eqL e.os c.os e.oa c.oa e.oc c.oc e.os.length rfl HS.out.ol.symm (Nat.le_trans HF.out.ol (by omega)) HS.out.o.symm HF.out.o W (HP.out.o.below h) (HQ.out.o.below h)
  clear HP HQ HS HF
  go_enter Try.func36, Try.ntmps36
  go_wp2_with fail
  refine (CB.out _ HB0.out).mono ?_
  rintro ex w1 ⟨rfl, hb1⟩
  have BA1 : Hid (Bx w1 w.heap.size [.slice e.b.va e.b.vs.length e.b.vc, .slice e.b.pa e.b.ps.length e.b.pc, .slice e.b.qa e.b.qs.length e.b.qc, .int .i64 e.b.cs, .int .i64 e.b.nx, .slice e.oa e.os.length e.oc]) := BA0.out.below hb1
  have BB1 : Hid (Bx w1 (w.heap.size + 1) [.slice c.b.va e.b.vs.length c.b.vc, .slice c.b.pa e.b.ps.length c.b.pc, .slice c.b.qa e.b.qs.length c.b.qc, .int .i64 e.b.cs, .int .i64 e.b.nx, .slice c.oa e.os.length c.oc]) := BB0.out.below hb1
  have HB1 : Hid (Below w.heap.size w w1) := HB0.out.trans (hb1.mono HB0.out.size)
  clear hb1 BA0 BB0 HB0
  have x5 := BA1.out.c5
  have y5 := BB1.out.c5
  go_wp2_with fail
  refine (CO.out _ HB1.out).mono ?_
  rintro ex w2 ⟨rfl, hb2⟩
  have HB2 : Hid (Below w.heap.size w w2) := HB1.out.trans (hb2.mono HB1.out.size)
  clear hb2
  go_wp2
  go_ret
  exact ⟨rfl, HB2.out⟩

end Go.Proofs.Ytnneodofajhbcaa

namespace Go.Proofs.Ytnneodofajhbcaa
open Go.RowKit
open KM
attribute [local go_sem ↓] Go.wp_at_zero Go.wp_at_succ

def CodeOk (w : World) (a : Option Addr) (len g : Nat) : Prop :=
  0 < len → ∃ b off, a = some ⟨b, off, none⟩ ∧ b < w.heap.size ∧ b ≠ g ∧ ∀ i, i < len → ∃ z : Int, 0 ≤ z ∧ z ≤ 255 ∧ w.cell? ⟨b, off + i, none⟩ = some (.int .u8 z)

structure Cur (w : World) (g : Nat) (a : Option Addr) (len cap : Nat) (i h : Int) : Prop where
  c0 : w.cell? ⟨g, 0, none⟩ = some (.slice a len cap)
  c1 : w.cell? ⟨g, 1, none⟩ = some (.int .i64 i)
  c2 : w.cell? ⟨g, 2, none⟩ = some (.int .i64 h)
  free : ∀ j, w.frozen? ⟨g, j, none⟩ = false
  i0 : 0 ≤ i
  i1 : i ≤ (len : Int)

theorem CodeOk.grown {w w' : World} {a : Option Addr} {len g : Nat} (h : CodeOk w a len g) (hg : w.grownBy w' (some g)) : CodeOk w' a len g := fun hl => by
  obtain ⟨b, off, ha, hb, hne, hz⟩ := h hl
  refine ⟨b, off, ha, Nat.lt_of_lt_of_le hb hg.size, hne, fun i hi => ?_⟩
  obtain ⟨z, h0, h1, hc⟩ := hz i hi
  exact ⟨z, h0, h1, (World.cell?_of_block (w := w) (a := ⟨b, off + i, none⟩) (hg.block b hb (fun e => hne (Option.some.inj e)))).trans hc⟩

theorem Cur.drewN {w : World} {g len cap : Nat} {a : Option Addr} {i h : Int} (c : Cur w g a len cap i h) (n : Nat) : Cur (w.drewN n) g a len cap i h := ⟨c.c0, c.c1, c.c2, c.free, c.i0, c.i1⟩

def CurOk (w : World) (g : Nat) (a : Option Addr) (len cap : Nat) : Prop := ∃ i h, Cur w g a len cap i h ∧ CodeOk w a len g

theorem CurOk.below {w w' : World} {g len cap : Nat} {a : Option Addr} (h : CurOk w g a len cap) (hb : Below w.heap.size w w') (hg : g < w.heap.size) : CurOk w' g a len cap := by
  obtain ⟨i, x, c, k⟩ := h
  refine ⟨i, x, ⟨(hb.cell (p := ⟨g, 0, none⟩) hg).trans c.c0, (hb.cell (p := ⟨g, 1, none⟩) hg).trans c.c1, (hb.cell (p := ⟨g, 2, none⟩) hg).trans c.c2, fun j => (hb.frozen (p := ⟨g, j, none⟩) hg).trans (c.free j), c.i0, c.i1⟩, fun hl => ?_⟩
  obtain ⟨b, off, ha, hb1, hne, hz⟩ := k hl
  refine ⟨b, off, ha, Nat.lt_of_lt_of_le hb1 hb.size, hne, fun j hj => ?_⟩
  obtain ⟨z, h0, h1, hc⟩ := hz j hj
  exact ⟨z, h0, h1, (hb.cell (p := ⟨b, off + j, none⟩) hb1).trans hc⟩

def CodeRow (w : World) (a : Option Addr) (len : Nat) : Prop :=
  0 < len → ∃ b off, a = some ⟨b, off, none⟩ ∧ b < w.heap.size ∧ ∀ i, i < len → ∃ z : Int, 0 ≤ z ∧ z ≤ 255 ∧ w.cell? ⟨b, off + i, none⟩ = some (.int .u8 z)

theorem CodeRow.below {w w' : World} {a : Option Addr} {len : Nat} (h : CodeRow w a len) (hb : Below w.heap.size w w') : CodeRow w' a len := fun hl => by
  obtain ⟨b, off, ha, hb1, hz⟩ := h hl
  refine ⟨b, off, ha, Nat.lt_of_lt_of_le hb1 hb.size, fun j hj => ?_⟩
  obtain ⟨z, h0, h1, hc⟩ := hz j hj
  exact ⟨z, h0, h1, (hb.cell (p := ⟨b, off + j, none⟩) hb1).trans hc⟩

structure CurI (w : World) (g : Nat) (a : Option Addr) (len cap : Nat) : Prop where
  c : CurOk w g a len cap
  lt : g < w.heap.size
  sm : len ≤ 1048576
theorem CurI.below {w w' : World} {g len cap : Nat} {a : Option Addr} (h : CurI w g a len cap) (hb : Below w.heap.size w w') : CurI w' g a len cap :=
  ⟨h.c.below hb h.lt, Nat.lt_of_lt_of_le h.lt hb.size, h.sm⟩
theorem CurI.drew {w : World} {g len cap : Nat} {a : Option Addr} (h : CurI w g a len cap) : CurI w.drew g a len cap := h.below ((belowRefl w).drew)
theorem CurI.alloc {w : World} {g len cap : Nat} {a : Option Addr} (h : CurI w g a len cap) (o : Obj) : CurI (w.alloc o) g a len cap := h.below ((belowRefl w).alloc (Nat.le_refl _) o)

def OldC (w0 : World) (g : Nat) (a : Option Addr) (len : Nat) : Prop := g < w0.heap.size ∧ ∀ b off, a = some ⟨b, off, none⟩ → 0 < len → b < w0.heap.size
theorem CurI.old {w : World} {g len cap : Nat} {a : Option Addr} (h : CurI w g a len cap) : OldC w g a len :=
  ⟨h.lt, fun b off e hl => by
    obtain ⟨i, x, c, k⟩ := h.c
    obtain ⟨b', off', ha, hb, _⟩ := k hl
    rw [e] at ha
    cases ha
    exact hb⟩
theorem OldC.le {w w' : World} {g len : Nat} {a : Option Addr} (h : OldC w g a len) (hs : w.heap.size ≤ w'.heap.size) : OldC w' g a len :=
  ⟨Nat.lt_of_lt_of_le h.1 hs, fun b off e hl => Nat.lt_of_lt_of_le (h.2 b off e hl) hs⟩

theorem CurOk.belowB {w w' : World} {g len cap B : Nat} {a : Option Addr} (h : CurOk w g a len cap) (hb : Below B w w') (hg : g < B) (hcode : ∀ b off, a = some ⟨b, off, none⟩ → 0 < len → b < B) : CurOk w' g a len cap := by
  obtain ⟨i, x, c, k⟩ := h
  refine ⟨i, x, ⟨(hb.cell (p := ⟨g, 0, none⟩) hg).trans c.c0, (hb.cell (p := ⟨g, 1, none⟩) hg).trans c.c1, (hb.cell (p := ⟨g, 2, none⟩) hg).trans c.c2, fun j => (hb.frozen (p := ⟨g, j, none⟩) hg).trans (c.free j), c.i0, c.i1⟩, fun hl => ?_⟩
  obtain ⟨b, off, ha, hb1, hne, hz⟩ := k hl
  refine ⟨b, off, ha, Nat.lt_of_lt_of_le hb1 hb.size, hne, fun j hj => ?_⟩
  obtain ⟨z, h0, h1, hc⟩ := hz j hj
  exact ⟨z, h0, h1, (hb.cell (p := ⟨b, off + j, none⟩) (hcode b off ha hl)).trans hc⟩
theorem grown_belowB {w w2 w3 : World} {g B : Nat} (h : w.grownBy w2 (some g)) (hb : Below B w2 w3) (hB : w.heap.size ≤ B) : w.grownBy w3 (some g) :=
  ⟨hb.os.trans h.os, hb.tape.trans h.tape, hb.output.trans h.output, Nat.le_trans h.size hb.size, fun j hj hne => (hb.block j (by omega)).trans (h.block j hj hne)⟩

structure Dn (w0 w : World) (g : Nat) (a : Option Addr) (len cap : Nat) : Prop where
  c : CurI w g a len cap
  gr : w0.grownBy w (some g)
  old : OldC w0 g a len
section
variable {w0 w w' : World} {g len cap : Nat} {a : Option Addr}
theorem Dn.belowB (h : Dn w0 w g a len cap) (hb : Below w0.heap.size w w') : Dn w0 w' g a len cap :=
  ⟨⟨h.c.c.belowB hb h.old.1 h.old.2, Nat.lt_of_lt_of_le h.c.lt hb.size, h.c.sm⟩, grown_belowB h.gr hb (Nat.le_refl _), h.old⟩
theorem Dn.below (h : Dn w0 w g a len cap) (hb : Below w.heap.size w w') : Dn w0 w' g a len cap := h.belowB (hb.mono h.gr.size)
theorem Dn.set (h : Dn w0 w g a len cap) {p : Addr} (hp : w0.heap.size ≤ p.block) (u : Value) : Dn w0 (w.setCell p u) g a len cap := h.belowB ((Below.refl _ _).setCell hp u)
theorem Dn.alloc (h : Dn w0 w g a len cap) (o : Obj) : Dn w0 (w.alloc o) g a len cap := h.below ((belowRefl w).alloc (Nat.le_refl _) o)
theorem Dn.drew (h : Dn w0 w g a len cap) : Dn w0 w.drew g a len cap := h.below ((belowRefl w).drew)
theorem Dn.size (h : Dn w0 w g a len cap) : w0.heap.size ≤ w.heap.size := h.gr.size
theorem Dn.out {B : Nat} (h : Dn w0 w g a len cap) (hB : Below B w' w0) (hg : B ≤ g) (hs : B ≤ w0.heap.size) : Below B w' w :=
  hB.grown h.gr hs (fun j hj => by cases hj; exact hg)
end

section
variable {w w' : World} {b : Nat} {cs : List Value}
end

end Go.Proofs.Ytnneodofajhbcaa

namespace Go.Proofs.Ytnneodofajhbcaa
open Go.RowKit
open KM
attribute [local go_sem ↓] Go.wp_at_zero Go.wp_at_succ

def KeyD (s : ByteArray) : Prop := keyB s = true ∧ s.size ≤ 3
def RgD (r : Rg) : Prop := KeyD r.1 ∧ KeyD r.2 ∧ le r.1 r.2 = true
end Go.Proofs.Ytnneodofajhbcaa

namespace Go.Proofs.Ytnneodofajhbcaa
open Go.RowKit
open KM
attribute [local go_sem ↓] Go.wp_at_zero Go.wp_at_succ

end Go.Proofs.Ytnneodofajhbcaa

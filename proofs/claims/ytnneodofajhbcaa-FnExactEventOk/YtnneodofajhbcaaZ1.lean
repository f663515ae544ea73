/- Lists of those that look and change, in memory of their own: one row, and a zone for each. -/
import Derived.Test.YtnneodofajhbcaaL2
import Derived.Test.YtnneodofajhbcaaVZn
namespace Go.Proofs.Ytnneodofajhbcaa
open Go.RowKit
open KM
attribute [local go_sem ↓] Go.wp_at_zero Go.wp_at_succ

/-- the row v lies outside of p .. q -/
def Av (v : Value) (p q : Nat) : Prop := ∀ g, v.ownBlock = some g → g < p ∨ q ≤ g
/-- each in a zone of its own, one behind the other, none of them with the row v in it -/
def Zs (w : World) (v : Value) : Nat → Nat → List Ta → Prop
  | lo, hi, [] => lo ≤ hi
  | lo, hi, y :: ys => ∃ p q, lo ≤ p ∧ p ≤ q ∧ TLie w p q y.t y.ra y.rc y.wa y.wc ∧ Av v p q ∧ Zs w v q hi ys
theorem Zs.le {w : World} {v : Value} : ∀ {ys : List Ta} {lo hi : Nat}, Zs w v lo hi ys → lo ≤ hi
  | [], _, _, h => h
  | _ :: _, _, _, ⟨_, _, h1, h2, _, _, h5⟩ => Nat.le_trans (Nat.le_trans h1 h2) h5.le
theorem Zs.below {w w' : World} {v : Value} (hb : Below w.heap.size w w') : ∀ {ys : List Ta} {lo hi : Nat}, Zs w v lo hi ys → Zs w' v lo hi ys
  | [], _, _, h => h
  | _ :: _, _, _, ⟨p, q, h1, h2, h3, h4, h5⟩ => ⟨p, q, h1, h2, h3.below hb, h4, h5.below hb⟩
theorem Zs.set {w : World} {v : Value} {a : Addr} (u : Value) : ∀ {ys : List Ta} {lo hi : Nat}, Zs w v lo hi ys → a.block < lo → Zs (w.setCell a u) v lo hi ys
  | [], _, _, h, _ => h
  | _ :: _, _, _, ⟨p, q, h1, h2, h3, h4, h5⟩, ha => ⟨p, q, h1, h2, h3.set (Nat.lt_of_lt_of_le ha h1) u, h4, h5.set u (by omega)⟩
theorem Zs.mono {w : World} {v : Value} : ∀ {ys : List Ta} {lo hi lo' hi' : Nat}, Zs w v lo hi ys → lo' ≤ lo → hi ≤ hi' → Zs w v lo' hi' ys
  | [], _, _, _, _, h, h1, h2 => Nat.le_trans h1 (Nat.le_trans h h2)
  | _ :: _, _, _, _, _, ⟨p, q, h1, h2, h3, h4, h5⟩, k1, k2 => ⟨p, q, Nat.le_trans k1 h1, h2, h3, h4, h5.mono (Nat.le_refl _) k2⟩
theorem Zs.snoc {w : World} {v : Value} {p q m hi : Nat} {y : Ta} (hm : m ≤ p) (hpq : p ≤ q) (hq : q ≤ hi) (hl : TLie w p q y.t y.ra y.rc y.wa y.wc) (ha : Av v p q) : ∀ {ys : List Ta} {lo : Nat}, Zs w v lo m ys → Zs w v lo hi (ys ++ [y])
  | [], _, h => ⟨p, q, Nat.le_trans h hm, hpq, hl, ha, hq⟩
  | _ :: _, _, ⟨p', q', h1, h2, h3, h4, h5⟩ => ⟨p', q', h1, h2, h3, h4, h5.snoc hm hpq hq hl ha⟩
theorem Zs.each {w : World} {v : Value} : ∀ {ys : List Ta} {lo hi : Nat}, Zs w v lo hi ys → ∀ y ∈ ys, TRow w y.t y.ra y.wa
  | [], _, _, _, _, hy => by cases hy
  | _ :: _, _, _, ⟨_, _, _, _, h3, _, h5⟩, y, hy => by
    rcases List.mem_cons.1 hy with rfl | hy
    · exact h3.row
    · exact h5.each y hy
theorem Zs.zn {w w' : World} {v : Value} {l h : Nat} (hz : Zn l h w w') : ∀ {ys : List Ta} {lo hi : Nat}, Zs w v lo hi ys → (hi ≤ l ∨ h ≤ lo) → Zs w' v lo hi ys
  | [], _, _, k, _ => k
  | _ :: _, lo, hi, ⟨p, q, h1, h2, h3, h4, h5⟩, k => ⟨p, q, h1, h2, h3.zn hz (by have := h5.le; omega), h4, h5.zn hz (by omega)⟩
theorem Zs.av {w : World} {v v' : Value} : ∀ {ys : List Ta} {lo hi : Nat}, Zs w v lo hi ys → (∀ p q, lo ≤ p → q ≤ hi → Av v p q → Av v' p q) → Zs w v' lo hi ys
  | [], _, _, h, _ => h
  | _ :: _, _, _, ⟨p, q, h1, h2, h3, h4, h5⟩, k => ⟨p, q, h1, h2, h3, k p q h1 h5.le h4, h5.av (fun a b ha hb => k a b (by omega) hb)⟩
theorem Zs.filter {w : World} {v : Value} (f : Ta → Bool) : ∀ {ys : List Ta} {lo hi : Nat}, Zs w v lo hi ys → Zs w v lo hi (ys.filter f)
  | [], _, _, h => h
  | y :: ys, _, _, ⟨p, q, h1, h2, h3, h4, h5⟩ => by
    rw [List.filter_cons]
    split
    · exact ⟨p, q, h1, h2, h3, h4, h5.filter f⟩
    · exact (h5.filter f).mono (by omega) (Nat.le_refl _)
theorem Zs.drewZ {w : World} {v : Value} {ys : List Ta} {lo hi : Nat} (h : Zs w v lo hi ys) : Zs w.drew v lo hi ys := h.below ((belowRefl w).drew)
/-- a list in memory of its own -/
structure LLie (w : World) (lo hi : Nat) (v : Value) (ys : List Ta) : Prop where
  own : Lies encT 68 w lo hi v ys
  zs : Zs w v lo hi ys
theorem LLie.below {w w' : World} {lo hi : Nat} {v : Value} {ys : List Ta} (h : LLie w lo hi v ys) (hb : Below w.heap.size w w') : LLie w' lo hi v ys := ⟨h.own.below hb, h.zs.below hb⟩
theorem LLie.mono {w : World} {lo hi lo' hi' : Nat} {v : Value} {ys : List Ta} (h : LLie w lo hi v ys) (h1 : lo' ≤ lo) (h2 : hi ≤ hi') : LLie w lo' hi' v ys := ⟨h.own.mono h1 h2, h.zs.mono h1 h2⟩
theorem LLie.zn {w w' : World} {lo hi l h : Nat} {v : Value} {ys : List Ta} (k : LLie w lo hi v ys) (hz : Zn l h w w') (hne : hi ≤ l ∨ h ≤ lo) : LLie w' lo hi v ys := ⟨k.own.zn hz hne, k.zs.zn hz hne⟩
theorem LLie.set {w : World} {lo hi : Nat} {v : Value} {ys : List Ta} (h : LLie w lo hi v ys) {a : Addr} (ha : a.block < lo) (u : Value) : LLie (w.setCell a u) lo hi v ys := ⟨h.own.set ha u, h.zs.set u ha⟩
theorem LLie.rows {w : World} {lo hi c : Nat} {a : Option Addr} {ys : List Ta} (h : LLie w lo hi (.slice a ys.length c) ys) : TRows w a ys := ⟨h.own.own.grow, h.zs.each⟩

end Go.Proofs.Ytnneodofajhbcaa

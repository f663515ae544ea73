/- One element more in an owned row, and which block has grown. -/
import Derived.Test.YtnmggknpllnjiaaGreatPt15
import Derived.Test.YtnmggknpllnjiaaGreatPt01
import Derived.Deep.AppendLies
import Derived.Test.YtnmggknpllnjiaaGreatPt03
import Derived.Sort.OwnSorted
import Derived.Lib.RowBridge
import Derived.Test.YtnmggknpllnjiaaGreatPt04
import Derived.Test.YtnmggknpllnjiaaGreatProg
import Derived.WalkKit
import Derived.WalkSpells
import Derived.WalkLawsBesides
import Derived.Deep.QuietTactic
import Derived.BigQuiet
import Derived.Deep.RegionHeld3
import Derived.Deep.DrawnRows
import Derived.Test.YtnmggknpllnjiaaGreatPt10
import Derived.Lib.ItoaNum
import Derived.Lib.ItoaLen
import Derived.Test.YtnmggknpllnjiaaGreatPt11
import Derived.Test.YtnmggknpllnjiaaGreatPt07
import Derived.Test.YtnmggknpllnjiaaGreatPt05
import Derived.Deep.RegionHeld
import Derived.Maps.OwnSet
import Derived.StringKeys
import Derived.Test.YtnmggknpllnjiaaGreatPt12
import Derived.WalkMore
import Derived.ScopeJumps
import Derived.Test.YtnmggknpllnjiaaGreatPt06
import Derived.Test.YtnmggknpllnjiaaGreatPt08
import Derived.Lib.SmallJoins
import Derived.Deep.Strs
import Derived.ProofKit
import Derived.OpenShut
import Derived.ShutString
import Derived.ChangeOld
namespace Go.Proofs.YtnmggknpllnjiaaGreat
open Go.RowKit
open KM
theorem wpAppK {ops : Array Oper} {rest : List Oper} {o : Oper} {a : Act} {Q : Exit → Act → World → Prop} {α : Type} {E : Enc α} (T e bytes : Nat) (z : Value) (hT : Tryz.prog.underlying T = some (.slice e))
  (hinfo : (Tryz.prog.info? e).map (fun i => (i.zero, i.size, i.bytes)) = some (some z, E.size, bytes)) (hzs : z.cells.size = E.size) (hby : bytes ≤ 128)
  (hgd : o.guard = none) (s x : Operand) (ho : o.op = .call { callee := .builtin .append, args := #[s, x], argTypes := #[T, T] })
  {W : World} {base g : Nat} {v : Value} {xs : List α} (y : α) (h1 : ∀ u ∈ E.enc y, u.oneCell' = true)
  (hs : a.eval s = v) (hown : GOwn E e W base v xs) (hx : a.eval x = .slice (some ⟨g, 0, none⟩) 1 1) (hblk : W.heap[g]? = some (.cells (E.enc y).toArray e (0, 0)))
  (hlen : xs.length ≤ 100000000) (hB : base ≤ W.heap.size)
  (h : ∀ g' cap w', GOwn E e w' base (.slice (some ⟨g', 0, none⟩) (xs.length + 1) cap) (xs ++ [y]) → W.grownBy w' v.ownBlock → (v.ownBlock = some g' ∨ g' = W.heap.size) → g' < w'.heap.size → wpList Tryz.prog ops Q rest (a.put o.dst (.slice (some ⟨g', 0, none⟩) (xs.length + 1) cap)) w') :
  wpList Tryz.prog ops Q (o :: rest) a W := by
 obtain ⟨i0, hi, hz0, hz1, hz2⟩ := info_parts hinfo
 refine wpList_append_lies _ hgd s x T ho base e i0 z E.size bytes hT hi hz0 hz1 hz2 hzs E.pos v xs.length (E.cells xs) hs hown ⟨g, 0, none⟩ 1 1 (E.enc y) hx (by rw [E.len, Nat.one_mul]) ?_ h1 (by omega) (by unfold maxLen; omega) ?_ hB _ rfl ?_
 ·intro j u hj
  rw [Addr.add_lit, Nat.zero_add, World.cell?, hblk]
  simpa using hj
 ·calc (xs.length + 1) * bytes ≤ 100000001 * 128 := Nat.mul_le_mul (by omega) hby
   _ ≤ _ := by omega
 ·intro g' cap w' k1 k2 k3 k4
  refine h g' cap w' ?_ k2 k3 k4
  have e : E.cells (xs ++ [y]) = E.cells xs ++ E.enc y := by rw [E.cells_app]; simp [Enc.cells]
  unfold GOwn
  rw [e, List.length_append]
  exact k1

end Go.Proofs.YtnmggknpllnjiaaGreat

namespace Go.Proofs.YtnmggknpllnjiaaGreat
open Go.RowKit
open KM
theorem stepAppK {ops : Array Oper} {K : Act → World → Prop} {X : Prop} {o : Oper} {a : Act} {Q : Exit → Act → World → Prop} {α : Type} {E : Enc α} (T e bytes : Nat) (z : Value) (hT : Tryz.prog.underlying T = some (.slice e))
  (hinfo : (Tryz.prog.info? e).map (fun i => (i.zero, i.size, i.bytes)) = some (some z, E.size, bytes)) (hzs : z.cells.size = E.size) (hby : bytes ≤ 128)
  (hgd : o.guard = none) (s x : Operand) (ho : o.op = .call { callee := .builtin .append, args := #[s, x], argTypes := #[T, T] })
  {W : World} {base g : Nat} {v : Value} {xs : List α} (y : α) (h1 : ∀ u ∈ E.enc y, u.oneCell' = true)
  (hs : a.eval s = v) (hown : GOwn E e W base v xs) (hx : a.eval x = .slice (some ⟨g, 0, none⟩) 1 1) (hblk : W.heap[g]? = some (.cells (E.enc y).toArray e (0, 0)))
  (hlen : xs.length ≤ 100000000) (hB : base ≤ W.heap.size)
  (h : ∀ g' cap w', GOwn E e w' base (.slice (some ⟨g', 0, none⟩) (xs.length + 1) cap) (xs ++ [y]) → W.grownBy w' v.ownBlock → (v.ownBlock = some g' ∨ g' = W.heap.size) → g' < w'.heap.size → K (a.put o.dst (.slice (some ⟨g', 0, none⟩) (xs.length + 1) cap)) w') :
  if Region.wanted o (yielded ops a.tmps) = true then Oper.wp Tryz.prog o a W K Q else X := by
 obtain ⟨i0, hi, hz0, hz1, hz2⟩ := info_parts hinfo
 refine step_append_lies _ hgd s x T ho base e i0 z E.size bytes hT hi hz0 hz1 hz2 hzs E.pos v xs.length (E.cells xs) hs hown ⟨g, 0, none⟩ 1 1 (E.enc y) hx (by rw [E.len, Nat.one_mul]) ?_ h1 (by omega) (by unfold maxLen; omega) ?_ hB _ rfl ?_
 ·intro j u hj
  rw [Addr.add_lit, Nat.zero_add, World.cell?, hblk]
  simpa using hj
 ·calc (xs.length + 1) * bytes ≤ 100000001 * 128 := Nat.mul_le_mul (by omega) hby
   _ ≤ _ := by omega
 ·intro g' cap w' k1 k2 k3 k4
  refine h g' cap w' ?_ k2 k3 k4
  have e : E.cells (xs ++ [y]) = E.cells xs ++ E.enc y := by rw [E.cells_app]; simp [Enc.cells]
  unfold GOwn
  rw [e, List.length_append]
  exact k1

end Go.Proofs.YtnmggknpllnjiaaGreat

namespace Go.Proofs.YtnmggknpllnjiaaGreat
open Go.RowKit
open KM

theorem Tryz.info83 : (Tryz.prog.info? 83).map (fun i => (i.zero, i.size, i.bytes)) = some (some (.agg #[.string ByteArray.empty, .string ByteArray.empty]), 2, 32) := by kernel_rfl
end Go.Proofs.YtnmggknpllnjiaaGreat

namespace Go.Proofs.YtnmggknpllnjiaaGreat
open Go.RowKit
open KM
attribute [local go_sem ↓] Go.wp_at_zero Go.wp_at_succ

theorem Tryz.info98 : (Tryz.prog.info? 98).map (fun i => (i.zero, i.size, i.bytes)) = some (some (.agg #[.string ByteArray.empty, .string ByteArray.empty]), 2, 32) := by kernel_rfl
end Go.Proofs.YtnmggknpllnjiaaGreat

namespace Go.Proofs.YtnmggknpllnjiaaGreat
open Go.RowKit
open KM
attribute [local go_sem ↓] Go.wp_at_zero Go.wp_at_succ

def lenOf : Value → Nat
 | .slice _ n _ => n
 | _ => 0
end Go.Proofs.YtnmggknpllnjiaaGreat

namespace Go.Proofs.YtnmggknpllnjiaaGreat
open Go.RowKit
open KM
attribute [local go_sem ↓] Go.wp_at_zero Go.wp_at_succ

end Go.Proofs.YtnmggknpllnjiaaGreat

namespace Go.Proofs.YtnmggknpllnjiaaGreat
open Go.RowKit
open KM
attribute [local go_sem ↓] Go.wp_at_zero Go.wp_at_succ

theorem tone {y : Ta} : ∀ u ∈ encT.enc y, u.oneCell' = true := by
 intro u hu
 simp only [encT, List.mem_cons, List.not_mem_nil, or_false] at hu
 rcases hu with rfl | rfl | rfl | rfl | rfl | rfl | rfl | rfl <;> rfl
structure TOwn (w : World) (base : Nat) (x : Ta) : Prop where
 r : GOwn encR 69 w base (.slice x.ra x.t.rs.length x.rc) x.t.rs
 w : GOwn encW 97 w base (.slice x.wa x.t.ws.length x.wc) x.t.ws
theorem TOwn.row {w : World} {base : Nat} {x : Ta} (h : TOwn w base x) : TRow w x.t x.ra x.wa := ⟨h.r.grow, h.w.grow⟩
theorem TOwn.below {w w' : World} {base : Nat} {x : Ta} (h : TOwn w base x) (hb : Below w.heap.size w w') : TOwn w' base x := ⟨h.r.below hb, h.w.below hb⟩
theorem TOwn.mono {w : World} {base base' : Nat} {x : Ta} (h : TOwn w base x) (hb : base' ≤ base) : TOwn w base' x := ⟨h.r.mono hb, h.w.mono hb⟩
theorem own_apartO {w : World} {b b' e e' s s' n n' : Nat} {v v' : Value} {xs xs' : List Value} (h : w.ownsRow b e s v n xs) (h' : w.ownsRow b' e' s' v' n' xs') (hne : e ≠ e') : ∀ g, v.ownBlock = some g → v'.ownBlock ≠ some g := by
 intro g hg hg'
 rcases h.2 with ⟨rfl, _⟩ | ⟨g1, cap, cur, rfl, _, hh, _⟩
 ·cases hg
 ·rcases h'.2 with ⟨rfl, _⟩ | ⟨g2, cap', cur', rfl, _, hh', _⟩
  ·cases hg'
  ·have e1 : g1 = g := by simpa [Value.ownBlock] using hg
   have e2 : g2 = g := by simpa [Value.ownBlock] using hg'
   rw [e1] at hh
   rw [e2, hh] at hh'
   cases hh'
   exact hne rfl
theorem own_grown {α : Type} {E : Enc α} {e : TypeId} {w w' : World} {base : Nat} {v : Value} {xs : List α} {row : Option Nat} (h : GOwn E e w base v xs) (hg : w.grownBy w' row) (hne : ∀ g, v.ownBlock = some g → row ≠ some g) : GOwn E e w' base v xs := by
 obtain ⟨h1, h2⟩ := h
 refine ⟨h1, ?_⟩
 rcases h2 with h2 | ⟨g, cap, cur, hv, hg', hh, r⟩
 ·exact Or.inl h2
 ·refine Or.inr ⟨g, cap, cur, hv, hg', ?_, r⟩
  have hlt : g < w.heap.size := (Array.getElem?_eq_some_iff.1 hh).1
  rw [hg.block g hlt (fun e => hne g (by rw [hv]; rfl) e.symm)]
  exact hh
theorem TOwn.grown {w w' : World} {base b : Nat} {x : Ta} {v : Value} {xs : List Ta} (h : TOwn w base x) (hv : GOwn encT 63 w b v xs) (hg : w.grownBy w' v.ownBlock) : TOwn w' base x :=
 ⟨own_grown h.r hg (own_apartO h.r hv (by decide)), own_grown h.w hg (own_apartO h.w hv (by decide))⟩
structure DoneD (t : Tx) : Prop where
 st : t.st = 3
 rs : RsD t.rs
 rl : t.rs.length ≤ 3
 ws : WsD t.ws
 wl : t.ws.length ≤ 3
 nm : t.nm = ⟨#[]⟩
 s0 : 0 ≤ t.snap
 sc : t.snap < t.cs
theorem DoneD.fit {t : Tx} (h : DoneD t) : TFit t := ⟨Nat.le_trans h.rl (by omega), h.rs.fit, Nat.le_trans h.wl (by omega), h.ws.fit, by rw [h.nm]; exact Nat.zero_le _⟩
structure DonesD (ts : List Tx) (c : Nat) : Prop where
 each : ∀ t ∈ ts, DoneD t ∧ t.cs ≤ (c : Int)
 ids : ∀ i (h : i < ts.length), ts[i].id = 1 + (i : Int)
 asc : ts.Pairwise (fun a b => a.cs < b.cs)
theorem DonesD.nil : DonesD [] 0 := ⟨fun t h => (by cases h), fun i h => absurd h (Nat.not_lt_zero _), List.Pairwise.nil⟩
theorem DonesD.snoc {ts : List Tx} {c d : Nat} {t : Tx} (h : DonesD ts c) (hc : c < d) (ht : DoneD t) (hi : t.id = 1 + (ts.length : Int)) (hcs : t.cs = (d : Int)) : DonesD (ts ++ [t]) d := by
 refine ⟨fun y hy => ?_, fun i hi2 => ?_, ?_⟩
 ·rcases List.mem_append.1 hy with h1 | h1
  ·have := h.each y h1
   exact ⟨this.1, by omega⟩
  ·rw [List.mem_singleton.1 h1]; exact ⟨ht, by omega⟩
 ·by_cases hl : i < ts.length
  ·rw [List.getElem_append_left hl]; exact h.ids i hl
  ·rw [List.length_append, List.length_singleton] at hi2
   have e : i = ts.length := by omega
   subst e
   rw [List.getElem_append_right (Nat.le_refl _)]
   simpa using hi
 ·rw [List.pairwise_append]
  refine ⟨h.asc, List.pairwise_singleton _ _, fun a ha b hb => ?_⟩
  rw [List.mem_singleton.1 hb]
  have := (h.each a ha).2
  omega
theorem DonesD.fit {ts : List Tx} {c : Nat} (h : DonesD ts c) (hl : ts.length ≤ 5) : LFit ts := ⟨Nat.le_trans hl (by omega), fun t ht => (h.each t ht).1.fit⟩
structure LOwn (w : World) (base : Nat) (v : Value) (ys : List Ta) : Prop where
 row : GOwn encT 63 w base v ys
 each : ∀ y ∈ ys, TOwn w base y
theorem LOwn.below {w w' : World} {base : Nat} {v : Value} {ys : List Ta} (h : LOwn w base v ys) (hb : Below w.heap.size w w') : LOwn w' base v ys := ⟨h.row.below hb, fun y hy => (h.each y hy).below hb⟩
theorem LOwn.mono {w : World} {base base' : Nat} {v : Value} {ys : List Ta} (h : LOwn w base v ys) (hb : base' ≤ base) : LOwn w base' v ys := ⟨h.row.mono hb, fun y hy => (h.each y hy).mono hb⟩
theorem LOwn.rows {w : World} {base c : Nat} {a : Option Addr} {ys : List Ta} (h : LOwn w base (.slice a ys.length c) ys) : TRows w a ys := ⟨h.row.grow, fun y hy => (h.each y hy).row⟩

end Go.Proofs.YtnmggknpllnjiaaGreat

namespace Go.Proofs.YtnmggknpllnjiaaGreat
open Go.ChangeShapes Go.WideShapes Go.ChangeAt Go.RowKit Go.Deep
open KM

theorem laidOutT : laidOutB Tryz.prog = true := by kernel_rfl
theorem ownT : ownKnob Tryz.prog.godebug = none := by kernel_rfl

section
variable {H : Type} {enc : TypeId × Value → H} {W : World} {base : Nat}

theorem open_rows {α : Type} [Inhabited α] (E : Enc α) (ok : α → Prop) {t e : TypeId} (ht : Tryz.prog.underlying t = some (.slice e)) (hc : Tryz.prog.cellsOf e = E.size)
  (each : ∀ n cs x, DataW.trod enc Tryz.prog W 0 (fun _ => true) true n e cs = some x → cs.length = E.size → ∃ y, cs = E.enc y ∧ ok y)
  {fuel : Nat} {v : Value} {y : DataW H × List MemPlace} (h : DataW.trod enc Tryz.prog W 0 (fun _ => true) true fuel t [v] = some y) :
  ∃ (xs : List α) (a : Option Addr) (c : Nat), v = .slice a xs.length c ∧ xs.length ≤ maxLen ∧ (∀ x ∈ xs, ok x) ∧ GRow E W a xs := by
 rcases open_slice ht h with ⟨hcs, _⟩ | ⟨a, len, cap, m, n, D, Pl, hcs, _, hl, hm, hmm, _, hx⟩
 ·cases hcs
  exact ⟨[], none, 0, rfl, by simp, by simp, GRow.nil _ _⟩
 ·cases hcs
  simp only [if_true] at hmm
  subst hmm
  have ea : ∀ i, i < m → ∃ y : α, ok y ∧ ∀ k, k < E.size → W.cell? (a.add (i * E.size + k)) = (E.enc y)[k]? := fun i hi => by
   obtain ⟨cs', h1, h2⟩ := hx i hi
   rw [hc] at h1
   obtain ⟨_, hlen, hcell⟩ := World.cells?_some h1
   obtain ⟨y, rfl, hok⟩ := each n cs' _ h2 hlen
   refine ⟨y, hok, fun k hk => ?_⟩
   have := hcell k (by omega)
   rw [add_add] at this
   exact this
  obtain ⟨f, hf⟩ := choose_lt ea
  refine ⟨(List.range len).map f, some a, m, by simp, by simp; omega, ?_, ?_⟩
  ·intro x hx
   obtain ⟨i, hi, rfl⟩ := List.mem_map.1 hx
   exact (hf i (by have := List.mem_range.1 hi; omega)).1
  ·intro h0
   have h0' : 0 < len := by simpa using h0
   obtain ⟨b, off, spot⟩ := a
   have hc0 := (hf 0 (by omega)).2 0 E.pos
   have hsome : ∃ v, W.cell? ((⟨b, off, spot⟩ : Addr).add (0 * E.size + 0)) = some v := by
    rw [hc0]
    exact ⟨_, List.getElem?_eq_getElem (by rw [E.len]; exact E.pos)⟩
   obtain ⟨v0, hv0⟩ := hsome
   have hspot : spot = none := by simpa [Addr.add] using World.cell?_spot hv0
   subst hspot
   refine ⟨b, off, rfl, by simpa [Addr.add] using World.block_lt_of_cell? W _ hv0, fun j hj i hi => ?_⟩
   have hj' : j < len := by simpa using hj
   have := (hf j (by omega)).2 i hi
   rw [Addr.add_lit] at this
   rw [Nat.add_assoc, this]
   simp

set_option maxRecDepth 100000 in
theorem each_version {T n : Nat} {cs : List Value} {x : DataW H × List MemPlace} {f0 f1 f2 f3 : Field} (ht : Tryz.prog.underlying T = some (.struct #[f0, f1, f2, f3])) (h0 : f0.type = 9) (h1 : f1.type = 9) (h2 : f2.type = 4) (h3 : f3.type = 3) (o0 : f0.offset = 0) (o1 : f1.offset = 1) (o2 : f2.offset = 2) (o3 : f3.offset = 3)
  (h : DataW.trod enc Tryz.prog W 0 (fun _ => true) true n T cs = some x) (hl : cs.length = 4) : ∃ y : Vr, cs = encV.enc y ∧ (y.1.size ≤ maxLen ∧ y.2.1.size ≤ maxLen) := by
 obtain ⟨y0, y1, y2, y3, m, _, _, g0, g1, g2, g3⟩ := Go.Joins.trod_struct4 ht h
 match cs, hl with
 | [c0, c1, c2, c3], _ =>
  rw [h0, o0, show Tryz.prog.cellsOf 9 = 1 by kernel_rfl] at g0
  rw [h1, o1, show Tryz.prog.cellsOf 9 = 1 by kernel_rfl] at g1
  rw [h2, o2, show Tryz.prog.cellsOf 4 = 1 by kernel_rfl] at g2
  rw [h3, o3, show Tryz.prog.cellsOf 3 = 1 by kernel_rfl] at g3
  simp only [List.drop_zero, List.take_succ_cons, List.take_zero, List.drop_succ_cons] at g0 g1 g2 g3
  obtain ⟨s0, e0, _, b0⟩ := DataW.trod_string Tryz.underlying9 g0
  obtain ⟨s1, e1, _, b1⟩ := DataW.trod_string Tryz.underlying9 g1
  obtain ⟨s2, e2, _⟩ := DataW.trod_bool Tryz.underlying4 g2
  obtain ⟨s3, e3, _⟩ := DataW.trod_int Tryz.underlying3 g3
  simp only [List.cons.injEq, and_true] at e0 e1 e2 e3
  subst e0 e1 e2 e3
  exact ⟨(s0, s1, s2, s3), rfl, b0, b1⟩

end
end Go.Proofs.YtnmggknpllnjiaaGreat

namespace Go.Proofs.YtnmggknpllnjiaaGreat
open Go.ChangeShapes Go.WideShapes Go.ChangeAt Go.RowKit Go.Deep

section
variable {H : Type} {enc : TypeId × Value → H} {W : World} {base : Nat}

end
end Go.Proofs.YtnmggknpllnjiaaGreat

namespace Go.Proofs.YtnmggknpllnjiaaGreat
open Go.RowKit
open KM
attribute [local go_sem ↓] Go.wp_at_zero Go.wp_at_succ

end Go.Proofs.YtnmggknpllnjiaaGreat

namespace Go.Proofs.YtnmggknpllnjiaaGreat
namespace VM
open KM
def isOf (k : ByteArray) (s : Int) (v : Vr) : Bool := decide (v.1 = k) && decide (v.2.2.2 ≤ s)
def more (a : Option Nd) (n : Nd) : Bool := match a with
 | none => true
 | some m => decide (m.2.2.2.2 < n.2.2.2.2)
def stp (k : ByteArray) (s : Int) (a : Option Nd) (n : Nd) : Option Nd := if (isOf k s n.2 && more a n) = true then some n else a
def lst (k : ByteArray) (s : Int) (ns : List Nd) : Option Nd := ns.foldl (stp k s) none
theorem lst_snoc (k : ByteArray) (s : Int) (A : List Nd) (n : Nd) : lst k s (A ++ [n]) = stp k s (lst k s A) n := by simp [lst, List.foldl_append]
def GoodL (k : ByteArray) (s : Int) (A : List Nd) (n : Nd) (B : List Nd) : Prop :=
 isOf k s n.2 = true ∧ (∀ m ∈ A, isOf k s m.2 = true → m.2.2.2.2 < n.2.2.2.2) ∧ (∀ m ∈ B, isOf k s m.2 = true → m.2.2.2.2 ≤ n.2.2.2.2)
def Told (k : ByteArray) (s : Int) (P : List Nd) (a : Option Nd) : Prop := match a with
 | none => ∀ m ∈ P, isOf k s m.2 = false
 | some x => ∃ A B, P = A ++ x :: B ∧ GoodL k s A x B
theorem told_snoc {k : ByteArray} {s : Int} {P : List Nd} {a : Option Nd} (n : Nd) (h : Told k s P a) : Told k s (P ++ [n]) (stp k s a n) := by
 unfold stp
 cases hi : isOf k s n.2
 ·simp only [Bool.false_and, Bool.false_eq_true, if_false]
  cases a with
  | none =>
   intro m hm
   rcases List.mem_append.1 hm with hm | hm
   ·exact h m hm
   ·rw [List.mem_singleton.1 hm]; exact hi
  | some x =>
   obtain ⟨A, B, rfl, g1, g2, g3⟩ := h
   refine ⟨A, B ++ [n], by simp, g1, g2, fun m hm ho => ?_⟩
   rcases List.mem_append.1 hm with hm | hm
   ·exact g3 m hm ho
   ·rw [List.mem_singleton.1 hm, hi] at ho; cases ho
 ·simp only [Bool.true_and]
  cases a with
  | none =>
   simp only [more, if_true]
   refine ⟨P, [], by simp, hi, fun m hm ho => ?_, fun m hm => by simp at hm⟩
   have := h m hm
   rw [this] at ho; cases ho
  | some x =>
   obtain ⟨A, B, rfl, g1, g2, g3⟩ := h
   simp only [more, decide_eq_true_eq]
   split
   ·rename_i hlt
    refine ⟨A ++ x :: B, [], by simp, hi, fun m hm ho => ?_, fun m hm => by simp at hm⟩
    rcases List.mem_append.1 hm with hm | hm
    ·have := g2 m hm ho; omega
    ·rcases List.mem_cons.1 hm with rfl | hm
     ·exact hlt
     ·have := g3 m hm ho; omega
   ·rename_i hlt
    refine ⟨A, B ++ [n], by simp, g1, g2, fun m hm ho => ?_⟩
    rcases List.mem_append.1 hm with hm | hm
    ·exact g3 m hm ho
    ·rw [List.mem_singleton.1 hm]; omega
theorem told_more {k : ByteArray} {s : Int} : ∀ (l P : List Nd) (a : Option Nd), Told k s P a → Told k s (P ++ l) (l.foldl (stp k s) a)
 | [], P, a, h => by simpa using h
 | n :: l, P, a, h => by
  have := told_more l (P ++ [n]) _ (told_snoc n h)
  simpa using this
theorem told (k : ByteArray) (s : Int) (P : List Nd) : Told k s P (lst k s P) := by
 have := told_more (k := k) (s := s) P [] none (fun m hm => by simp at hm)
 simpa [lst] using this
theorem lst_mem {k : ByteArray} {s : Int} {P : List Nd} {x : Nd} (h : lst k s P = some x) : x ∈ P ∧ isOf k s x.2 = true := by
 have := told k s P
 rw [h] at this
 obtain ⟨A, B, rfl, g⟩ := this
 exact ⟨by simp, g.1⟩
theorem fold_snd (k : ByteArray) (s : Int) : ∀ (P Q : List Nd) (a b : Option Nd), P.map (·.2) = Q.map (·.2) → a.map (·.2) = b.map (·.2) → (P.foldl (stp k s) a).map (·.2) = (Q.foldl (stp k s) b).map (·.2)
 | [], [], _, _, _, h => h
 | [], _ :: _, _, _, h, _ => by simp at h
 | _ :: _, [], _, _, h, _ => by simp at h
 | n :: P, m :: Q, a, b, h, hab => by
  simp only [List.map_cons, List.cons.injEq] at h
  refine fold_snd k s P Q _ _ h.2 ?_
  have e : more a n = more b m := by
   cases a <;> cases b <;> simp_all [more]
  unfold stp
  rw [h.1, e]
  split
  ·simp [h.1]
  ·exact hab
theorem lst_snd {k : ByteArray} {s : Int} {P Q : List Nd} (h : P.map (·.2) = Q.map (·.2)) : (lst k s P).map (·.2) = (lst k s Q).map (·.2) := fold_snd k s P Q none none h rfl

def seenV (vs : List Vr) (k : ByteArray) (s : Int) : Option Vr := (lst k s (vs.map fun v => (0, v))).map (·.2)
theorem seenV_of {k : ByteArray} {s : Int} {ns : List Nd} {vs : List Vr} (h : ns.map (·.2) = vs) : (lst k s ns).map (·.2) = seenV vs k s := lst_snd (by rw [h]; simp [Function.comp_def])
def seenB (vs : List Vr) (k : ByteArray) (s : Int) : Option ByteArray := match seenV vs k s with
 | none => none
 | some v => if v.2.2.1 = true then none else some v.2.1
def lab (vs : List Vr) : Nat → List Nd
 | 0 => []
 | n + 1 => lab vs n ++ (match vs[n]? with
  | some v => [(n, v)]
  | none => [])
theorem lab_succ {vs : List Vr} {n : Nat} (h : n < vs.length) : lab vs (n + 1) = lab vs n ++ [(n, vs[n])] := by
 simp only [lab, List.getElem?_eq_getElem h]
theorem lab_snd (vs : List Vr) : ∀ n, (lab vs n).map (·.2) = vs.take n
 | 0 => by simp [lab]
 | n + 1 => by
  by_cases h : n < vs.length
  ·rw [lab_succ h, List.map_append, lab_snd vs n, List.take_succ_eq_append_getElem h]; rfl
  ·simp only [lab]
   rw [List.getElem?_eq_none (by omega), List.append_nil, lab_snd vs n, List.take_of_length_le (by omega), List.take_of_length_le (by omega)]
theorem lab_mem {vs : List Vr} {x : Nd} : ∀ {n : Nat}, x ∈ lab vs n → x.1 < n ∧ vs[x.1]? = some x.2
 | 0, h => by simp [lab] at h
 | n + 1, h => by
  simp only [lab, List.mem_append] at h
  rcases h with h | h
  ·have := lab_mem h; exact ⟨by omega, this.2⟩
  ·cases e : vs[n]? with
   | none => rw [e] at h; simp at h
   | some v => rw [e] at h; rw [List.mem_singleton.1 h]; exact ⟨by simp, e⟩
theorem lab_all (vs : List Vr) : (lab vs vs.length).map (·.2) = vs := by rw [lab_snd, List.take_length]
def atI (o : Option Nd) : Int := match o with
 | none => -1
 | some n => n.1
end VM
end Go.Proofs.YtnmggknpllnjiaaGreat

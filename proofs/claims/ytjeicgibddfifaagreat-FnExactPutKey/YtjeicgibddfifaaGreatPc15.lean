/-
 DERIVED: THE SHELF's CONTRACTS AT THIS DUMP, IN PLAIN WORDS (tools/lay-plain.mjs out of 'TryShelf.lean', which tools/lay-shelf.mjs wrote): THE SAME DECLARATIONS UNDER THE SAME NAMES: 'import', 'namespace', 'open', 'def', 'theorem' AND NOTHING ELSE: no command of the shelf's: FOR A HAND-IN. Each laying: the table of numbers ('.._ren') and one theorem, a field a fact of the dump's own or the kernel's comparison; each contract: ONE APPLICATION.
-/
import Derived.Shelf.Sort.Plain
import Derived.Ground.Names2Prog
import Derived.Shelf.Slices.CompactI
import Derived.Shelf.Slices.CompactS
import Derived.Shelf.Slices.Cells
import Derived.Shelf.Slices.In.SortNone
import Derived.Test.YtjeicgibddfifaaGreatProg
import Derived.Test.YtjeicgibddfifaaGreatPc14
import Derived.Sort.OwnSortedInts
import Derived.Deep.RegionHeld3
import Derived.Deep.Cut
import Derived.Deep.CutRange
import Derived.Laws.EntriesVeiled
import Derived.Test.YtjeicgibddfifaaGreatPc08
import Derived.Test.YtjeicgibddfifaaGreatPc06
import Derived.Test.YtjeicgibddfifaaGreatPc09
import Derived.Test.YtjeicgibddfifaaGreatPc10
import Derived.Test.YtjeicgibddfifaaGreatPc11
import Derived.WalkKit
import Derived.Test.YtjeicgibddfifaaGreatPc01
import Derived.WalkSpells
import Derived.WalkLawsBesides
import Derived.Deep.QuietTactic
import Derived.BigQuiet
import Derived.Deep.DrawnRows
import Derived.Deep.AppendLies
import Derived.Test.YtjeicgibddfifaaGreatPc02
import Derived.Test.YtjeicgibddfifaaGreatPc03
import Derived.Test.YtjeicgibddfifaaGreatPc05
import Derived.Sort.OwnSorted
import Derived.Lib.RowBridge
import Derived.Test.YtjeicgibddfifaaGreatPc07
import Derived.Deep.RegionHeld
namespace Go.Proofs
open Go.Shelf
end Go.Proofs

namespace Go.Proofs.YtjeicgibddfifaaGreat
open Go.RowKit
open KM
open Go.Sort
attribute [local go_sem ↓] Go.wp_at_zero Go.wp_at_succ

end Go.Proofs.YtjeicgibddfifaaGreat

namespace Go.Proofs.YtjeicgibddfifaaGreat
open Go.RowKit
open KM
attribute [local go_sem ↓] Go.wp_at_zero Go.wp_at_succ

end Go.Proofs.YtjeicgibddfifaaGreat

namespace Go.Proofs.YtjeicgibddfifaaGreat
open Go.RowKit
open KM
attribute [local go_sem ↓] Go.wp_at_zero Go.wp_at_succ

end Go.Proofs.YtjeicgibddfifaaGreat

namespace Go.Proofs.YtjeicgibddfifaaGreat
open Go.RowKit
open KM
attribute [local go_sem ↓] Go.wp_at_zero Go.wp_at_succ

end Go.Proofs.YtjeicgibddfifaaGreat

namespace Go.Proofs.YtjeicgibddfifaaGreat
open Go.RowKit
open KM
attribute [local go_sem ↓] Go.wp_at_zero Go.wp_at_succ

end Go.Proofs.YtjeicgibddfifaaGreat

namespace Go.Proofs.YtjeicgibddfifaaGreat
open Go.RowKit
open KM
attribute [local go_sem ↓] Go.wp_at_zero Go.wp_at_succ

end Go.Proofs.YtjeicgibddfifaaGreat

namespace Go.Proofs.YtjeicgibddfifaaGreat
open Go.RowKit
open KM
attribute [local go_sem ↓] Go.wp_at_zero Go.wp_at_succ

end Go.Proofs.YtjeicgibddfifaaGreat

namespace Go.Proofs.YtjeicgibddfifaaGreat
open Go.RowKit
open KM
attribute [local go_sem ↓] Go.wp_at_zero Go.wp_at_succ

end Go.Proofs.YtjeicgibddfifaaGreat

namespace Go.Proofs.YtjeicgibddfifaaGreat
open Go.RowKit
open KM
attribute [local go_sem ↓] Go.wp_at_zero Go.wp_at_succ

end Go.Proofs.YtjeicgibddfifaaGreat

namespace Go.Proofs.YtjeicgibddfifaaGreat
open Go.RowKit
open KM
attribute [local go_sem ↓] Go.wp_at_zero Go.wp_at_succ

structure TxD (t : Tx) : Prop where
 ws : WsD t.ws
 wl : t.ws.length ≤ 3
 rs : RsD t.rs
 rl : t.rs.length ≤ 3
 nm : t.nm.size ≤ 1048576
 id : 1 ≤ t.id ∧ t.id ≤ 6

end Go.Proofs.YtjeicgibddfifaaGreat

namespace Go.Proofs.YtjeicgibddfifaaGreat
open Go.RowKit
open KM
attribute [local go_sem ↓] Go.wp_at_zero Go.wp_at_succ

theorem wpAppRowR {ops : Array Oper} {rest : List Oper} {o : Oper} {a : Act} {Q : Exit → Act → World → Prop} (hgd : o.guard = none) (s x : Operand) (ho : o.op = .call { callee := .builtin .append, args := #[s, x], argTypes := #[53, 53] })
  {W : World} {base m c : Nat} {ao : Option Addr} {v : Value} {ys zs : List Rg} (hs : a.eval s = v) (hown : GOwn encR 90 W base v ys) (hx : a.eval x = .slice ao m c)
  (hsrc : (ao = none ∧ m = 0 ∧ c = 0) ∨ ∃ ad, ao = some ad ∧ ∀ j u, (encR.cells zs)[j]? = some u → W.cell? (ad.add j) = some u) (hm : zs.length = m) (hlen : ys.length + zs.length ≤ 100000000) (hB : base ≤ W.heap.size) (hne : v ≠ .slice none 0 0)
  (h : ∀ g' cap L w', L = (ys ++ zs).length → GOwn encR 90 w' base (.slice (some ⟨g', 0, none⟩) L cap) (ys ++ zs) → Below base W w' → wpList Tryz.prog ops Q rest (a.put o.dst (.slice (some ⟨g', 0, none⟩) L cap)) w') :
  wpList Tryz.prog ops Q (o :: rest) a W := by
 obtain ⟨i0, hi, hz0, hz1, hz2⟩ := info_parts Tryz.info90
 have hone : ∀ u ∈ encR.cells zs, u.oneCell' = true := fun u hu => by
  unfold Enc.cells at hu
  obtain ⟨y, _, hy⟩ := List.mem_flatMap.1 hu
  exact oneP u hy
 have key : ∃ v' w', (Builtin.append_ #[53, 53] o.type #[v, .slice ao m c]).run Tryz.prog W = .ok v' w' ∧ w'.ownsRow base 90 2 v' (ys ++ zs).length (encR.cells (ys ++ zs)) ∧ W.grownBy w' v.ownBlock ∧ v' ≠ .slice none 0 0 := by
  rw [encR.cells_app, List.length_append]
  rcases hsrc with ⟨rfl, rfl, rfl⟩ | ⟨ad, rfl, hc⟩
  ·obtain rfl : zs = [] := List.length_eq_zero_iff.1 hm
   refine ⟨v, W, run_append_owned_none (P := Tryz.prog) W base 53 o.type 90 i0 2 Tryz.underlying53 hi v _ _ hown, ?_, ⟨rfl, rfl, rfl, Nat.le_refl _, fun _ _ _ => rfl⟩, hne⟩
   have e : encR.cells ([] : List Rg) = [] := rfl
   rw [e, List.append_nil]
   exact hown
  ·obtain ⟨v', w', hr, q1, q2, q3⟩ := run_append_own (P := Tryz.prog) W base 53 o.type 90 i0 _ 2 32 Tryz.underlying53 hi hz0 hz1 hz2 rfl (by omega) v ys.length (encR.cells ys) hown ad m c (encR.cells zs) (by rw [encR.cells_len, hm]; rfl) hc hone (by unfold maxLen; omega) (by omega) hB
   refine ⟨v', w', hr, by rw [hm]; exact q1, q2, fun e => hne (q3.1 e).1⟩
 obtain ⟨v', w', hr, q1, q2, q3⟩ := key
 have hb : Below base W w' := (Below.refl _ _).grown q2 hB (fun j hj => (World.ownsRow.lt hown j hj).1)
 rcases q1.2 with ⟨hv, _⟩ | ⟨g', cap, cur, hv, _⟩
 ·exact absurd hv q3
 ·subst hv
  refine wpList_plain hgd fun K hK => ?_
  unfold Oper.wp execOp
  simp only [ho, resolve, invoke, builtin, Sem.run_bind, Sem.run_pure, Result.andThen_ok, List.map_toArray, List.map_cons, List.map_nil, hs, hx, hr]
  exact hK _ _ (h g' cap _ w' rfl q1 hb)

theorem wpAppRowW {ops : Array Oper} {rest : List Oper} {o : Oper} {a : Act} {Q : Exit → Act → World → Prop} (hgd : o.guard = none) (s x : Operand) (ho : o.op = .call { callee := .builtin .append, args := #[s, x], argTypes := #[54, 54] })
  {W : World} {base m c : Nat} {ao : Option Addr} {v : Value} {ys zs : List Wt} (hs : a.eval s = v) (hown : GOwn encW 47 W base v ys) (hx : a.eval x = .slice ao m c)
  (hsrc : (ao = none ∧ m = 0 ∧ c = 0) ∨ ∃ ad, ao = some ad ∧ ∀ j u, (encW.cells zs)[j]? = some u → W.cell? (ad.add j) = some u) (hm : zs.length = m) (hlen : ys.length + zs.length ≤ 100000000) (hB : base ≤ W.heap.size) (hne : v ≠ .slice none 0 0)
  (h : ∀ g' cap L w', L = (ys ++ zs).length → GOwn encW 47 w' base (.slice (some ⟨g', 0, none⟩) L cap) (ys ++ zs) → Below base W w' → wpList Tryz.prog ops Q rest (a.put o.dst (.slice (some ⟨g', 0, none⟩) L cap)) w') :
  wpList Tryz.prog ops Q (o :: rest) a W := by
 obtain ⟨i0, hi, hz0, hz1, hz2⟩ := info_parts Tryz.info47
 have hone : ∀ u ∈ encW.cells zs, u.oneCell' = true := fun u hu => by
  unfold Enc.cells at hu
  obtain ⟨y, _, hy⟩ := List.mem_flatMap.1 hu
  exact wone u hy
 have key : ∃ v' w', (Builtin.append_ #[54, 54] o.type #[v, .slice ao m c]).run Tryz.prog W = .ok v' w' ∧ w'.ownsRow base 47 3 v' (ys ++ zs).length (encW.cells (ys ++ zs)) ∧ W.grownBy w' v.ownBlock ∧ v' ≠ .slice none 0 0 := by
  rw [encW.cells_app, List.length_append]
  rcases hsrc with ⟨rfl, rfl, rfl⟩ | ⟨ad, rfl, hc⟩
  ·obtain rfl : zs = [] := List.length_eq_zero_iff.1 hm
   refine ⟨v, W, run_append_owned_none (P := Tryz.prog) W base 54 o.type 47 i0 3 Tryz.underlying54 hi v _ _ hown, ?_, ⟨rfl, rfl, rfl, Nat.le_refl _, fun _ _ _ => rfl⟩, hne⟩
   have e : encW.cells ([] : List Wt) = [] := rfl
   rw [e, List.append_nil]
   exact hown
  ·obtain ⟨v', w', hr, q1, q2, q3⟩ := run_append_own (P := Tryz.prog) W base 54 o.type 47 i0 _ 3 40 Tryz.underlying54 hi hz0 hz1 hz2 rfl (by omega) v ys.length (encW.cells ys) hown ad m c (encW.cells zs) (by rw [encW.cells_len, hm]; rfl) hc hone (by unfold maxLen; omega) (by omega) hB
   refine ⟨v', w', hr, by rw [hm]; exact q1, q2, fun e => hne (q3.1 e).1⟩
 obtain ⟨v', w', hr, q1, q2, q3⟩ := key
 have hb : Below base W w' := (Below.refl _ _).grown q2 hB (fun j hj => (World.ownsRow.lt hown j hj).1)
 rcases q1.2 with ⟨hv, _⟩ | ⟨g', cap, cur, hv, _⟩
 ·exact absurd hv q3
 ·subst hv
  refine wpList_plain hgd fun K hK => ?_
  unfold Oper.wp execOp
  simp only [ho, resolve, invoke, builtin, Sem.run_bind, Sem.run_pure, Result.andThen_ok, List.map_toArray, List.map_cons, List.map_nil, hs, hx, hr]
  exact hK _ _ (h g' cap _ w' rfl q1 hb)

theorem gshape {α : Type} {E : Enc α} {e : TypeId} {W : World} {base : Nat} {v : Value} {l : List α} (h : GOwn E e W base v l) : v = .slice none 0 0 ∧ l = [] ∨ ∃ g cap, v = .slice (some ⟨g, 0, none⟩) l.length cap := by
 rcases h.2 with ⟨rfl, h0⟩ | ⟨g, cap, cur, rfl, _, _, hnc, _⟩
 ·exact Or.inl ⟨rfl, List.length_eq_zero_iff.1 h0⟩
 ·exact Or.inr ⟨g, cap, rfl⟩
theorem Lies.low {α : Type} {E : Enc α} {e : TypeId} {w w' : World} {lo hi B : Nat} {v : Value} {xs : List α} (h : Lies E e w lo hi v xs) (hb : Below B w w') (hB : hi ≤ B := by first | exact Nat.le_refl _ | omega) : Lies E e w' lo hi v xs := by
 refine ⟨?_, h.up⟩
 obtain ⟨h1, h2⟩ := h.own
 refine ⟨h1, ?_⟩
 rcases h2 with h2 | ⟨g, cap, cur, hv, hg', hh, r⟩
 ·exact Or.inl h2
 ·refine Or.inr ⟨g, cap, cur, hv, hg', ?_, r⟩
  have hup := h.up g (by rw [hv]; rfl)
  rw [hb.block g (by omega)]
  exact hh
theorem gsrc {α : Type} {E : Enc α} {e : TypeId} {W : World} {base c : Nat} {a : Option Addr} {l : List α} (h : GOwn E e W base (.slice a l.length c) l) : (a = none ∧ l.length = 0 ∧ c = 0) ∨ ∃ ad, a = some ad ∧ ∀ j u, (E.cells l)[j]? = some u → W.cell? (ad.add j) = some u := by
 rcases gshape h with ⟨e1, e2⟩ | ⟨g, cap, e1⟩
 ·subst e2
  cases e1
  exact Or.inl ⟨rfl, rfl, rfl⟩
 ·cases e1
  refine Or.inr ⟨_, rfl, fun j u hj => ?_⟩
  have hjl : j < l.length * E.size := by
   have := (List.getElem?_eq_some_iff.1 hj).1
   rw [E.cells_len] at this; exact this
  rw [Addr.add_lit, Nat.zero_add, World.ownsRow.cellAt h j hjl]
  exact hj

set_option maxRecDepth 100000 in
set_option maxHeartbeats 4000000 in
theorem scopyT (t : Tx) (ra wa : Option Addr) (rc wc : Nat) (lo m : Nat) (hr : t.rs.length ≤ 10000000) (hw : t.ws.length ≤ 10000000) (w : World) (h1 : GOwn encR 90 w lo (.slice ra t.rs.length rc) t.rs) (h2 : GOwn encW 47 w m (.slice wa t.ws.length wc) t.ws) :
  Calls Tryz.prog 81 #[.agg #[.int .i64 t.id, .int .i64 t.st, .int .i64 t.snap, .int .i64 t.cs, .slice ra t.rs.length rc, .slice wa t.ws.length wc, .bool t.out, .string t.nm]] w fun e w' => ∃ ra1 rc1 wa1 wc1, e = .returned (.agg #[.int .i64 t.id, .int .i64 t.st, .int .i64 t.snap, .int .i64 t.cs, .slice ra1 t.rs.length rc1, .slice wa1 t.ws.length wc1, .bool t.out, .string t.nm]) ∧ TLie w' w.heap.size w'.heap.size t ra1 rc1 wa1 wc1 ∧ Below w.heap.size w w' := by
 have BA0 : Hid (Bx (((w.alloc (.cells #[.int .i64 t.id, .int .i64 t.st, .int .i64 t.snap, .int .i64 t.cs, .slice ra t.rs.length rc, .slice wa t.ws.length wc, .bool t.out, .string t.nm] 56)).alloc (.cells #[.int .i64 0, .int .i64 0, .int .i64 0, .int .i64 0, .slice none 0 0, .slice none 0 0, .bool false, .string ⟨#[]⟩] 56)).alloc (.cells #[.int .i64 t.id, .int .i64 t.st, .int .i64 t.snap, .int .i64 t.cs, .slice ra t.rs.length rc, .slice wa t.ws.length wc, .bool t.out, .string t.nm] 56)) w.heap.size [.int .i64 t.id, .int .i64 t.st, .int .i64 t.snap, .int .i64 t.cs, .slice ra t.rs.length rc, .slice wa t.ws.length wc, .bool t.out, .string t.nm]) := ((Bx.new w [.int .i64 t.id, .int .i64 t.st, .int .i64 t.snap, .int .i64 t.cs, .slice ra t.rs.length rc, .slice wa t.ws.length wc, .bool t.out, .string t.nm] 56).alloc _).alloc _
 have BR0 : Hid (Bx (((w.alloc (.cells #[.int .i64 t.id, .int .i64 t.st, .int .i64 t.snap, .int .i64 t.cs, .slice ra t.rs.length rc, .slice wa t.ws.length wc, .bool t.out, .string t.nm] 56)).alloc (.cells #[.int .i64 0, .int .i64 0, .int .i64 0, .int .i64 0, .slice none 0 0, .slice none 0 0, .bool false, .string ⟨#[]⟩] 56)).alloc (.cells #[.int .i64 t.id, .int .i64 t.st, .int .i64 t.snap, .int .i64 t.cs, .slice ra t.rs.length rc, .slice wa t.ws.length wc, .bool t.out, .string t.nm] 56)) (w.heap.size + 1) [.int .i64 0, .int .i64 0, .int .i64 0, .int .i64 0, .slice none 0 0, .slice none 0 0, .bool false, .string ⟨#[]⟩]) := by
  have h := (Bx.new (w.alloc (.cells #[.int .i64 t.id, .int .i64 t.st, .int .i64 t.snap, .int .i64 t.cs, .slice ra t.rs.length rc, .slice wa t.ws.length wc, .bool t.out, .string t.nm] 56)) [.int .i64 0, .int .i64 0, .int .i64 0, .int .i64 0, .slice none 0 0, .slice none 0 0, .bool false, .string ⟨#[]⟩] 56).alloc (.cells #[.int .i64 t.id, .int .i64 t.st, .int .i64 t.snap, .int .i64 t.cs, .slice ra t.rs.length rc, .slice wa t.ws.length wc, .bool t.out, .string t.nm] 56)
  rw [show (w.alloc (.cells #[.int .i64 t.id, .int .i64 t.st, .int .i64 t.snap, .int .i64 t.cs, .slice ra t.rs.length rc, .slice wa t.ws.length wc, .bool t.out, .string t.nm] 56)).heap.size = w.heap.size + 1 by simp] at h
  exact h
 have BO0 : Hid (Bx (((w.alloc (.cells #[.int .i64 t.id, .int .i64 t.st, .int .i64 t.snap, .int .i64 t.cs, .slice ra t.rs.length rc, .slice wa t.ws.length wc, .bool t.out, .string t.nm] 56)).alloc (.cells #[.int .i64 0, .int .i64 0, .int .i64 0, .int .i64 0, .slice none 0 0, .slice none 0 0, .bool false, .string ⟨#[]⟩] 56)).alloc (.cells #[.int .i64 t.id, .int .i64 t.st, .int .i64 t.snap, .int .i64 t.cs, .slice ra t.rs.length rc, .slice wa t.ws.length wc, .bool t.out, .string t.nm] 56)) (w.heap.size + 1 + 1) [.int .i64 t.id, .int .i64 t.st, .int .i64 t.snap, .int .i64 t.cs, .slice ra t.rs.length rc, .slice wa t.ws.length wc, .bool t.out, .string t.nm]) := by
  have h := Bx.new ((w.alloc (.cells #[.int .i64 t.id, .int .i64 t.st, .int .i64 t.snap, .int .i64 t.cs, .slice ra t.rs.length rc, .slice wa t.ws.length wc, .bool t.out, .string t.nm] 56)).alloc (.cells #[.int .i64 0, .int .i64 0, .int .i64 0, .int .i64 0, .slice none 0 0, .slice none 0 0, .bool false, .string ⟨#[]⟩] 56)) [.int .i64 t.id, .int .i64 t.st, .int .i64 t.snap, .int .i64 t.cs, .slice ra t.rs.length rc, .slice wa t.ws.length wc, .bool t.out, .string t.nm] 56
  rw [show ((w.alloc (.cells #[.int .i64 t.id, .int .i64 t.st, .int .i64 t.snap, .int .i64 t.cs, .slice ra t.rs.length rc, .slice wa t.ws.length wc, .bool t.out, .string t.nm] 56)).alloc (.cells #[.int .i64 0, .int .i64 0, .int .i64 0, .int .i64 0, .slice none 0 0, .slice none 0 0, .bool false, .string ⟨#[]⟩] 56)).heap.size = w.heap.size + 1 + 1 by simp] at h
  exact h
 have HB0 : Hid (Below w.heap.size w (((w.alloc (.cells #[.int .i64 t.id, .int .i64 t.st, .int .i64 t.snap, .int .i64 t.cs, .slice ra t.rs.length rc, .slice wa t.ws.length wc, .bool t.out, .string t.nm] 56)).alloc (.cells #[.int .i64 0, .int .i64 0, .int .i64 0, .int .i64 0, .slice none 0 0, .slice none 0 0, .bool false, .string ⟨#[]⟩] 56)).alloc (.cells #[.int .i64 t.id, .int .i64 t.st, .int .i64 t.snap, .int .i64 t.cs, .slice ra t.rs.length rc, .slice wa t.ws.length wc, .bool t.out, .string t.nm] 56))) := (((belowRefl w).alloc (Nat.le_refl _) _).alloc (by simp) _).alloc (by simp; omega) _
 have S0 : Hid ((((w.alloc (.cells #[.int .i64 t.id, .int .i64 t.st, .int .i64 t.snap, .int .i64 t.cs, .slice ra t.rs.length rc, .slice wa t.ws.length wc, .bool t.out, .string t.nm] 56)).alloc (.cells #[.int .i64 0, .int .i64 0, .int .i64 0, .int .i64 0, .slice none 0 0, .slice none 0 0, .bool false, .string ⟨#[]⟩] 56)).alloc (.cells #[.int .i64 t.id, .int .i64 t.st, .int .i64 t.snap, .int .i64 t.cs, .slice ra t.rs.length rc, .slice wa t.ws.length wc, .bool t.out, .string t.nm] 56)).heap.size = w.heap.size + 1 + 1 + 1) := by show _ = _; simp
 have P1 : Hid (GOwn encR 90 w lo (.slice ra t.rs.length rc) t.rs) := h1
 have P2 : Hid (GOwn encW 47 w m (.slice wa t.ws.length wc) t.ws) := h2
 clear h1 h2
 have HE : Hid (GOwn encR 90 ((((w.alloc (.cells #[.int .i64 t.id, .int .i64 t.st, .int .i64 t.snap, .int .i64 t.cs, .slice ra t.rs.length rc, .slice wa t.ws.length wc, .bool t.out, .string t.nm] 56)).alloc (.cells #[.int .i64 0, .int .i64 0, .int .i64 0, .int .i64 0, .slice none 0 0, .slice none 0 0, .bool false, .string ⟨#[]⟩] 56)).alloc (.cells #[.int .i64 t.id, .int .i64 t.st, .int .i64 t.snap, .int .i64 t.cs, .slice ra t.rs.length rc, .slice wa t.ws.length wc, .bool t.out, .string t.nm] 56)).alloc (.cells #[] 90)) (w.heap.size + 1 + 1 + 1) (.slice (some ⟨w.heap.size + 1 + 1 + 1, 0, none⟩) 0 0) []) := by
  have h := GOwn.empty (E := encR) (e := 90) (((w.alloc (.cells #[.int .i64 t.id, .int .i64 t.st, .int .i64 t.snap, .int .i64 t.cs, .slice ra t.rs.length rc, .slice wa t.ws.length wc, .bool t.out, .string t.nm] 56)).alloc (.cells #[.int .i64 0, .int .i64 0, .int .i64 0, .int .i64 0, .slice none 0 0, .slice none 0 0, .bool false, .string ⟨#[]⟩] 56)).alloc (.cells #[.int .i64 t.id, .int .i64 t.st, .int .i64 t.snap, .int .i64 t.cs, .slice ra t.rs.length rc, .slice wa t.ws.length wc, .bool t.out, .string t.nm] 56)) (w.heap.size + 1 + 1 + 1) (by rw [S0.out]; exact Nat.le_refl _)
  rw [S0.out] at h
  exact h
 have HB0e : Hid (Below w.heap.size w ((((w.alloc (.cells #[.int .i64 t.id, .int .i64 t.st, .int .i64 t.snap, .int .i64 t.cs, .slice ra t.rs.length rc, .slice wa t.ws.length wc, .bool t.out, .string t.nm] 56)).alloc (.cells #[.int .i64 0, .int .i64 0, .int .i64 0, .int .i64 0, .slice none 0 0, .slice none 0 0, .bool false, .string ⟨#[]⟩] 56)).alloc (.cells #[.int .i64 t.id, .int .i64 t.st, .int .i64 t.snap, .int .i64 t.cs, .slice ra t.rs.length rc, .slice wa t.ws.length wc, .bool t.out, .string t.nm] 56)).alloc (.cells #[] 90))) := HB0.out.alloc HB0.out.size _
 have P1e := hide (gsrc (P1.out.below HB0e.out))
 have x4 := (BA0.out.alloc (.cells #[] 90)).c4
 have sz1 : w.heap.size + 1 + 1 + 1 ≤ ((((w.alloc (.cells #[.int .i64 t.id, .int .i64 t.st, .int .i64 t.snap, .int .i64 t.cs, .slice ra t.rs.length rc, .slice wa t.ws.length wc, .bool t.out, .string t.nm] 56)).alloc (.cells #[.int .i64 0, .int .i64 0, .int .i64 0, .int .i64 0, .slice none 0 0, .slice none 0 0, .bool false, .string ⟨#[]⟩] 56)).alloc (.cells #[.int .i64 t.id, .int .i64 t.st, .int .i64 t.snap, .int .i64 t.cs, .slice ra t.rs.length rc, .slice wa t.ws.length wc, .bool t.out, .string t.nm] 56)).alloc (.cells #[] 90)).heap.size := by rw [World.size_alloc, S0.out]; omega
 go_enter Tryz.func81, Tryz.ntmps81
 go_wp2_with (at_builtin; refine wpAppRowR (v := .slice (some ⟨w.heap.size + 1 + 1 + 1, 0, none⟩) 0 0) rfl _ _ rfl rfl HE.out rfl P1e.out rfl (by simp; omega) sz1 (fun h => by cases h) ?_)
 intro g1 cap1 L1 w1 hL1 ho1 hb1
 obtain rfl : L1 = t.rs.length := by simpa using hL1
 have BA1 := hide ((BA0.out.alloc (.cells #[] 90)).belowB hb1 (by omega))
 have BR1 := hide ((BR0.out.alloc (.cells #[] 90)).belowB hb1 (by omega))
 have BO1 := hide ((BO0.out.alloc (.cells #[] 90)).belowB hb1 (by omega))
 have HBe : Hid (Below (w.heap.size + 1 + 1 + 1) (((w.alloc (.cells #[.int .i64 t.id, .int .i64 t.st, .int .i64 t.snap, .int .i64 t.cs, .slice ra t.rs.length rc, .slice wa t.ws.length wc, .bool t.out, .string t.nm] 56)).alloc (.cells #[.int .i64 0, .int .i64 0, .int .i64 0, .int .i64 0, .slice none 0 0, .slice none 0 0, .bool false, .string ⟨#[]⟩] 56)).alloc (.cells #[.int .i64 t.id, .int .i64 t.st, .int .i64 t.snap, .int .i64 t.cs, .slice ra t.rs.length rc, .slice wa t.ws.length wc, .bool t.out, .string t.nm] 56)) w1) := by
  have h := (belowRefl (((w.alloc (.cells #[.int .i64 t.id, .int .i64 t.st, .int .i64 t.snap, .int .i64 t.cs, .slice ra t.rs.length rc, .slice wa t.ws.length wc, .bool t.out, .string t.nm] 56)).alloc (.cells #[.int .i64 0, .int .i64 0, .int .i64 0, .int .i64 0, .slice none 0 0, .slice none 0 0, .bool false, .string ⟨#[]⟩] 56)).alloc (.cells #[.int .i64 t.id, .int .i64 t.st, .int .i64 t.snap, .int .i64 t.cs, .slice ra t.rs.length rc, .slice wa t.ws.length wc, .bool t.out, .string t.nm] 56))).alloc (Nat.le_refl _) (.cells #[] 90)
  rw [S0.out] at h
  exact h.trans hb1
 have HB1 : Hid (Below w.heap.size w w1) := HB0.out.trans (HBe.out.mono (by omega))
 have hs1 := HBe.out.size
 rw [S0.out] at hs1
 have SZ1 : Hid (w.heap.size + 1 + 1 + 1 ≤ w1.heap.size) := hs1
 have L1 : Hid (Lies encR 90 w1 (w.heap.size + 1 + 1 + 1) w1.heap.size (.slice (some ⟨g1, 0, none⟩) t.rs.length cap1) t.rs) := Lies.of ho1
 clear hL1 ho1 hb1 hs1 HBe HE P1e P1 x4 BA0 BR0 BO0 HB0 HB0e sz1
 have o4 := BO1.out.c4
 have f4 := BO1.out.fz 4
 have x5 := ((BA1.out.setO (p := ⟨w.heap.size + 1 + 1, 4, none⟩) (by show w.heap.size + 1 + 1 ≠ w.heap.size; omega) (.slice (some ⟨g1, 0, none⟩) t.rs.length cap1)).alloc (.cells #[] 47)).c5
 have ZS : Hid ((w1.setCell ⟨w.heap.size + 1 + 1, 4, none⟩ (.slice (some ⟨g1, 0, none⟩) t.rs.length cap1)).heap.size = w1.heap.size) := by show _ = _; simp [World.setCell]
 have HE2 : Hid (GOwn encW 47 ((w1.setCell ⟨w.heap.size + 1 + 1, 4, none⟩ (.slice (some ⟨g1, 0, none⟩) t.rs.length cap1)).alloc (.cells #[] 47)) w1.heap.size (.slice (some ⟨w1.heap.size, 0, none⟩) 0 0) []) := by
  have h := GOwn.empty (E := encW) (e := 47) (w1.setCell ⟨w.heap.size + 1 + 1, 4, none⟩ (.slice (some ⟨g1, 0, none⟩) t.rs.length cap1)) w1.heap.size (by rw [ZS.out]; exact Nat.le_refl _)
  rw [ZS.out] at h
  exact h
 have HB1s : Hid (Below w.heap.size w (w1.setCell ⟨w.heap.size + 1 + 1, 4, none⟩ (.slice (some ⟨g1, 0, none⟩) t.rs.length cap1))) := HB1.out.setCell (by show _ ≤ _ + 1 + 1; omega) _
 have P2e := hide (gsrc (P2.out.below (HB1s.out.alloc HB1s.out.size (.cells #[] 47))))
 have BR1s : Hid (Bx (w1.setCell ⟨w.heap.size + 1 + 1, 4, none⟩ (.slice (some ⟨g1, 0, none⟩) t.rs.length cap1)) (w.heap.size + 1) [.int .i64 0, .int .i64 0, .int .i64 0, .int .i64 0, .slice none 0 0, .slice none 0 0, .bool false, .string ⟨#[]⟩]) := BR1.out.setO (by show w.heap.size + 1 + 1 ≠ w.heap.size + 1; omega) _
 have BO1s : Hid (Bx (w1.setCell ⟨w.heap.size + 1 + 1, 4, none⟩ (.slice (some ⟨g1, 0, none⟩) t.rs.length cap1)) (w.heap.size + 1 + 1) [.int .i64 t.id, .int .i64 t.st, .int .i64 t.snap, .int .i64 t.cs, .slice (some ⟨g1, 0, none⟩) t.rs.length cap1, .slice wa t.ws.length wc, .bool t.out, .string t.nm]) := BO1.out.set 4 _
 have L1s : Hid (Lies encR 90 (w1.setCell ⟨w.heap.size + 1 + 1, 4, none⟩ (.slice (some ⟨g1, 0, none⟩) t.rs.length cap1)) (w.heap.size + 1 + 1 + 1) w1.heap.size (.slice (some ⟨g1, 0, none⟩) t.rs.length cap1) t.rs) := L1.out.set (by show _ + 1 + 1 < _; omega) _
 have sz2 : w1.heap.size ≤ ((w1.setCell ⟨w.heap.size + 1 + 1, 4, none⟩ (.slice (some ⟨g1, 0, none⟩) t.rs.length cap1)).alloc (.cells #[] 47)).heap.size := by rw [World.size_alloc, ZS.out]; omega
 go_wp2_with (at_builtin; refine wpAppRowW (v := .slice (some ⟨w1.heap.size, 0, none⟩) 0 0) rfl _ _ rfl rfl HE2.out rfl P2e.out rfl (by simp; omega) sz2 (fun h => by cases h) ?_)
 intro g2 cap2 L2 w2 hL2 ho2 hb2
 obtain rfl : L2 = t.ws.length := by simpa using hL2
 have BR2 := hide ((BR1s.out.alloc (.cells #[] 47)).belowB hb2 (by have := SZ1.out; omega))
 have BO2 := hide ((BO1s.out.alloc (.cells #[] 47)).belowB hb2 (by have := SZ1.out; omega))
 have HB2 : Hid (Below w.heap.size w w2) := (HB1s.out.alloc HB1s.out.size _).trans (hb2.mono (by have := SZ1.out; omega))
 have L1t := L1s.out.below ((belowRefl (w1.setCell ⟨w.heap.size + 1 + 1, 4, none⟩ (.slice (some ⟨g1, 0, none⟩) t.rs.length cap1))).alloc (Nat.le_refl _) (.cells #[] 47))
 have L1u : Hid (Lies encR 90 w2 (w.heap.size + 1 + 1 + 1) w1.heap.size (.slice (some ⟨g1, 0, none⟩) t.rs.length cap1) t.rs) := L1t.low hb2
 have SZ2 : Hid (w1.heap.size ≤ w2.heap.size) := Nat.le_trans sz2 hb2.size
 have L2 : Hid (TLie w2 (w.heap.size + 1 + 1 + 1) w2.heap.size t (some ⟨g1, 0, none⟩) cap1 (some ⟨g2, 0, none⟩) cap2) := ⟨w1.heap.size, SZ1.out, SZ2.out, L1u.out, Lies.of ho2⟩
 clear hL2 ho2 hb2 HE2 P2e x5 o4 f4 BA1 BR1 BO1 BR1s BO1s L1 L1s L1t L1u HB1 HB1s sz2
 have o0 := BO2.out.c0
 have q0 := BR2.out.c0
 have fq0 := BR2.out.fz 0
 have o1 := BO2.out.c1
 have q1 := BR2.out.c1
 have fq1 := BR2.out.fz 1
 have o2 := BO2.out.c2
 have q2 := BR2.out.c2
 have fq2 := BR2.out.fz 2
 have o3 := BO2.out.c3
 have q3 := BR2.out.c3
 have fq3 := BR2.out.fz 3
 have o4 := BO2.out.c4
 have q4 := BR2.out.c4
 have fq4 := BR2.out.fz 4
 have o5 := BO2.out.c5
 have q5 := BR2.out.c5
 have fq5 := BR2.out.fz 5
 have o6 := BO2.out.c6
 have q6 := BR2.out.c6
 have fq6 := BR2.out.fz 6
 have o7 := BO2.out.c7
 have q7 := BR2.out.c7
 have fq7 := BR2.out.fz 7
 have f5 := BO2.out.fz 5
 go_wp2
 refine bodyPost_ret (v := .agg #[.int .i64 t.id, .int .i64 t.st, .int .i64 t.snap, .int .i64 t.cs, .slice (some ⟨g1, 0, none⟩) t.rs.length cap1, .slice (some ⟨g2, 0, none⟩) t.ws.length cap2, .bool t.out, .string t.nm]) (by simp [results, Tryz.results81, go_sem, q0, q1, q2, q3, q4, q5, q6, q7]) rfl ⟨_, cap1, _, cap2, rfl, ?_, ?_⟩
 ·exact (((((((((L2.out.set (by show _ + 1 + 1 < _; omega) _).set (by show _ + 1 < _; omega) _).set (by show _ + 1 < _; omega) _).set (by show _ + 1 < _; omega) _).set (by show _ + 1 < _; omega) _).set (by show _ + 1 < _; omega) _).set (by show _ + 1 < _; omega) _).set (by show _ + 1 < _; omega) _).set (by show _ + 1 < _; omega) _).mono (by omega) (by simp [World.setCell])
 ·exact (((((((((HB2.out.setCell (by show _ ≤ _ + 1 + 1; omega) _).setCell (by show _ ≤ _ + 1; omega) _).setCell (by show _ ≤ _ + 1; omega) _).setCell (by show _ ≤ _ + 1; omega) _).setCell (by show _ ≤ _ + 1; omega) _).setCell (by show _ ≤ _ + 1; omega) _).setCell (by show _ ≤ _ + 1; omega) _).setCell (by show _ ≤ _ + 1; omega) _).setCell (by show _ ≤ _ + 1; omega) _)

end Go.Proofs.YtjeicgibddfifaaGreat

namespace Go.Proofs.YtjeicgibddfifaaGreat
open Go.RowKit
open KM
attribute [local go_sem ↓] Go.wp_at_zero Go.wp_at_succ

structure TxA (t : Tx) : Prop where
 fit : TFit t
 rl : t.rs.length ≤ 4
 wl : t.ws.length ≤ 4
theorem TxD.fit {t : Tx} (h : TxD t) : TFit t := ⟨Nat.le_trans h.rl (by omega), h.rs.fit, Nat.le_trans h.wl (by omega), h.ws.fit, h.nm⟩
theorem TxD.any {t : Tx} (h : TxD t) : TxA t := ⟨h.fit, Nat.le_trans h.rl (by omega), Nat.le_trans h.wl (by omega)⟩
end Go.Proofs.YtjeicgibddfifaaGreat

namespace Go.Proofs.YtjeicgibddfifaaGreat
open Go.RowKit
open KM
attribute [local go_sem ↓] Go.wp_at_zero Go.wp_at_succ

end Go.Proofs.YtjeicgibddfifaaGreat

namespace Go.Proofs.YtjeicgibddfifaaGreat
open Go.RowKit
open KM
attribute [local go_sem ↓] Go.wp_at_zero Go.wp_at_succ

end Go.Proofs.YtjeicgibddfifaaGreat

namespace Go.Proofs.YtjeicgibddfifaaGreat
open Go.RowKit
open KM
attribute [local go_sem ↓] Go.wp_at_zero Go.wp_at_succ

end Go.Proofs.YtjeicgibddfifaaGreat

namespace Go.Proofs.YtjeicgibddfifaaGreat
open Go.RowKit
open KM
attribute [local go_sem ↓] Go.wp_at_zero Go.wp_at_succ

end Go.Proofs.YtjeicgibddfifaaGreat

namespace Go.Proofs.YtjeicgibddfifaaGreat
namespace VM
open KM
def isOf (k : ByteArray) (s : Int) (v : Vr) : Bool := decide (v.1 = k) && decide (v.2.2.2 ≤ s)
def more (a : Option Nd) (n : Nd) : Bool := match a with
 | none => true
 | some m => decide (m.2.2.2.2 < n.2.2.2.2)
def stp (k : ByteArray) (s : Int) (a : Option Nd) (n : Nd) : Option Nd := if (isOf k s n.2 && more a n) = true then some n else a
def lst (k : ByteArray) (s : Int) (ns : List Nd) : Option Nd := ns.foldl (stp k s) none
def lab (vs : List Vr) : Nat → List Nd
 | 0 => []
 | n + 1 => lab vs n ++ (match vs[n]? with
  | some v => [(n, v)]
  | none => [])
end VM
end Go.Proofs.YtjeicgibddfifaaGreat

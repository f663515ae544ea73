/- What spec.l07Copy and impl.openOk return. -/
import Derived.Test.YtjeicgibddfifaaGreatProg
import Derived.WalkKit
import Derived.Test.YtjeicgibddfifaaGreatPb01
import Derived.WalkSpells
import Derived.WalkLawsBesides
import Derived.Deep.QuietTactic
import Derived.BigQuiet
import Derived.Deep.RegionHeld3
import Derived.Deep.DrawnRows
import Derived.Deep.AppendLies
import Derived.Test.YtjeicgibddfifaaGreatPb02
import Derived.Test.YtjeicgibddfifaaGreatPb03
import Derived.Test.YtjeicgibddfifaaGreatPb06
import Derived.Test.YtjeicgibddfifaaGreatPb07
import Derived.Sort.OwnSorted
import Derived.Lib.RowBridge
import Derived.Test.YtjeicgibddfifaaGreatPb08
import Derived.Test.YtjeicgibddfifaaGreatPb18
import Derived.Test.YtjeicgibddfifaaGreatPb17
import Derived.Test.YtjeicgibddfifaaGreatPb12
import Derived.Test.YtjeicgibddfifaaGreatPb04
import Derived.Deep.Cut
import Derived.Test.YtjeicgibddfifaaGreatPb14
import Derived.Deep.LoopGhost
namespace Go.Proofs.YtjeicgibddfifaaGreat
open Go.RowKit
open KM
attribute [local go_sem ↓] Go.wp_at_zero Go.wp_at_succ

theorem wpAppRowR {ops : Array Oper} {rest : List Oper} {o : Oper} {a : Act} {Q : Exit → Act → World → Prop} (hgd : o.guard = none) (s x : Operand) (ho : o.op = .call { callee := .builtin .append, args := #[s, x], argTypes := #[53, 53] })
  {W : World} {base m c : Nat} {ao : Option Addr} {v : Value} {ys zs : List Rg} (hs : a.eval s = v) (hown : GOwn encR 90 W base v ys) (hx : a.eval x = .slice ao m c)
  (hsrc : (ao = none ∧ m = 0 ∧ c = 0) ∨ ∃ ad, ao = some ad ∧ ∀ j u, (encR.cells zs)[j]? = some u → W.cell? (ad.add j) = some u) (hm : zs.length = m) (hlen : ys.length + zs.length ≤ 100000000) (hB : base ≤ W.heap.size) (hne : v ≠ .slice none 0 0)
  (h : ∀ g' cap L w', L = (ys ++ zs).length → GOwn encR 90 w' base (.slice (some ⟨g', 0, none⟩) L cap) (ys ++ zs) → Below base W w' → wpList Tryz.prog ops Q rest (a.put o.dst (.slice (some ⟨g', 0, none⟩) L cap)) w') :
  wpList Tryz.prog ops Q (o :: rest) a W := by
 obtain ⟨i0, hi, hz0, hz1, hz2⟩ := info_parts Tryz.info90
 have hone : ∀ u ∈ encR.cells zs, u.oneCell' = true := fun u hu => by
  unfold Enc.cells at hu
  obtain ⟨y, _, hy⟩ := List.mem_flatMap.1 hu
  exact oneP u hy
 have key : ∃ v' w', (Builtin.append_ #[53, 53] o.type #[v, .slice ao m c]).run Tryz.prog W = .ok v' w' ∧ w'.ownsRow base 90 2 v' (ys ++ zs).length (encR.cells (ys ++ zs)) ∧ W.grownBy w' v.ownBlock ∧ v' ≠ .slice none 0 0 := by
  rw [encR.cells_app, List.length_append]
  rcases hsrc with ⟨rfl, rfl, rfl⟩ | ⟨ad, rfl, hc⟩
  ·obtain rfl : zs = [] := List.length_eq_zero_iff.1 hm
   refine ⟨v, W, run_append_owned_none (P := Tryz.prog) W base 53 o.type 90 i0 2 Tryz.underlying53 hi v _ _ hown, ?_, ⟨rfl, rfl, rfl, Nat.le_refl _, fun _ _ _ => rfl⟩, hne⟩
   have e : encR.cells ([] : List Rg) = [] := rfl
   rw [e, List.append_nil]
   exact hown
  ·obtain ⟨v', w', hr, q1, q2, q3⟩ := run_append_own (P := Tryz.prog) W base 53 o.type 90 i0 _ 2 32 Tryz.underlying53 hi hz0 hz1 hz2 rfl (by omega) v ys.length (encR.cells ys) hown ad m c (encR.cells zs) (by rw [encR.cells_len, hm]; rfl) hc hone (by unfold maxLen; omega) (by omega) hB
   refine ⟨v', w', hr, by rw [hm]; exact q1, q2, fun e => hne (q3.1 e).1⟩
 obtain ⟨v', w', hr, q1, q2, q3⟩ := key
 have hb : Below base W w' := (Below.refl _ _).grown q2 hB (fun j hj => (World.ownsRow.lt hown j hj).1)
 rcases q1.2 with ⟨hv, _⟩ | ⟨g', cap, cur, hv, _⟩
 ·exact absurd hv q3
 ·subst hv
  refine wpList_plain hgd fun K hK => ?_
  unfold Oper.wp execOp
  simp only [ho, resolve, invoke, builtin, Sem.run_bind, Sem.run_pure, Result.andThen_ok, List.map_toArray, List.map_cons, List.map_nil, hs, hx, hr]
  exact hK _ _ (h g' cap _ w' rfl q1 hb)

theorem wpAppRowW {ops : Array Oper} {rest : List Oper} {o : Oper} {a : Act} {Q : Exit → Act → World → Prop} (hgd : o.guard = none) (s x : Operand) (ho : o.op = .call { callee := .builtin .append, args := #[s, x], argTypes := #[54, 54] })
  {W : World} {base m c : Nat} {ao : Option Addr} {v : Value} {ys zs : List Wt} (hs : a.eval s = v) (hown : GOwn encW 47 W base v ys) (hx : a.eval x = .slice ao m c)
  (hsrc : (ao = none ∧ m = 0 ∧ c = 0) ∨ ∃ ad, ao = some ad ∧ ∀ j u, (encW.cells zs)[j]? = some u → W.cell? (ad.add j) = some u) (hm : zs.length = m) (hlen : ys.length + zs.length ≤ 100000000) (hB : base ≤ W.heap.size) (hne : v ≠ .slice none 0 0)
  (h : ∀ g' cap L w', L = (ys ++ zs).length → GOwn encW 47 w' base (.slice (some ⟨g', 0, none⟩) L cap) (ys ++ zs) → Below base W w' → wpList Tryz.prog ops Q rest (a.put o.dst (.slice (some ⟨g', 0, none⟩) L cap)) w') :
  wpList Tryz.prog ops Q (o :: rest) a W := by
 obtain ⟨i0, hi, hz0, hz1, hz2⟩ := info_parts Tryz.info47
 have hone : ∀ u ∈ encW.cells zs, u.oneCell' = true := fun u hu => by
  unfold Enc.cells at hu
  obtain ⟨y, _, hy⟩ := List.mem_flatMap.1 hu
  exact wone u hy
 have key : ∃ v' w', (Builtin.append_ #[54, 54] o.type #[v, .slice ao m c]).run Tryz.prog W = .ok v' w' ∧ w'.ownsRow base 47 3 v' (ys ++ zs).length (encW.cells (ys ++ zs)) ∧ W.grownBy w' v.ownBlock ∧ v' ≠ .slice none 0 0 := by
  rw [encW.cells_app, List.length_append]
  rcases hsrc with ⟨rfl, rfl, rfl⟩ | ⟨ad, rfl, hc⟩
  ·obtain rfl : zs = [] := List.length_eq_zero_iff.1 hm
   refine ⟨v, W, run_append_owned_none (P := Tryz.prog) W base 54 o.type 47 i0 3 Tryz.underlying54 hi v _ _ hown, ?_, ⟨rfl, rfl, rfl, Nat.le_refl _, fun _ _ _ => rfl⟩, hne⟩
   have e : encW.cells ([] : List Wt) = [] := rfl
   rw [e, List.append_nil]
   exact hown
  ·obtain ⟨v', w', hr, q1, q2, q3⟩ := run_append_own (P := Tryz.prog) W base 54 o.type 47 i0 _ 3 40 Tryz.underlying54 hi hz0 hz1 hz2 rfl (by omega) v ys.length (encW.cells ys) hown ad m c (encW.cells zs) (by rw [encW.cells_len, hm]; rfl) hc hone (by unfold maxLen; omega) (by omega) hB
   refine ⟨v', w', hr, by rw [hm]; exact q1, q2, fun e => hne (q3.1 e).1⟩
 obtain ⟨v', w', hr, q1, q2, q3⟩ := key
 have hb : Below base W w' := (Below.refl _ _).grown q2 hB (fun j hj => (World.ownsRow.lt hown j hj).1)
 rcases q1.2 with ⟨hv, _⟩ | ⟨g', cap, cur, hv, _⟩
 ·exact absurd hv q3
 ·subst hv
  refine wpList_plain hgd fun K hK => ?_
  unfold Oper.wp execOp
  simp only [ho, resolve, invoke, builtin, Sem.run_bind, Sem.run_pure, Result.andThen_ok, List.map_toArray, List.map_cons, List.map_nil, hs, hx, hr]
  exact hK _ _ (h g' cap _ w' rfl q1 hb)

theorem gshape {α : Type} {E : Enc α} {e : TypeId} {W : World} {base : Nat} {v : Value} {l : List α} (h : GOwn E e W base v l) : v = .slice none 0 0 ∧ l = [] ∨ ∃ g cap, v = .slice (some ⟨g, 0, none⟩) l.length cap := by
 rcases h.2 with ⟨rfl, h0⟩ | ⟨g, cap, cur, rfl, _, _, hnc, _⟩
 ·exact Or.inl ⟨rfl, List.length_eq_zero_iff.1 h0⟩
 ·exact Or.inr ⟨g, cap, rfl⟩
theorem Lies.low {α : Type} {E : Enc α} {e : TypeId} {w w' : World} {lo hi B : Nat} {v : Value} {xs : List α} (h : Lies E e w lo hi v xs) (hb : Below B w w') (hB : hi ≤ B := by first | exact Nat.le_refl _ | omega) : Lies E e w' lo hi v xs := by
 refine ⟨?_, h.up⟩
 obtain ⟨h1, h2⟩ := h.own
 refine ⟨h1, ?_⟩
 rcases h2 with h2 | ⟨g, cap, cur, hv, hg', hh, r⟩
 ·exact Or.inl h2
 ·refine Or.inr ⟨g, cap, cur, hv, hg', ?_, r⟩
  have hup := h.up g (by rw [hv]; rfl)
  rw [hb.block g (by omega)]
  exact hh
theorem gsrc {α : Type} {E : Enc α} {e : TypeId} {W : World} {base c : Nat} {a : Option Addr} {l : List α} (h : GOwn E e W base (.slice a l.length c) l) : (a = none ∧ l.length = 0 ∧ c = 0) ∨ ∃ ad, a = some ad ∧ ∀ j u, (E.cells l)[j]? = some u → W.cell? (ad.add j) = some u := by
 rcases gshape h with ⟨e1, e2⟩ | ⟨g, cap, e1⟩
 ·subst e2
  cases e1
  exact Or.inl ⟨rfl, rfl, rfl⟩
 ·cases e1
  refine Or.inr ⟨_, rfl, fun j u hj => ?_⟩
  have hjl : j < l.length * E.size := by
   have := (List.getElem?_eq_some_iff.1 hj).1
   rw [E.cells_len] at this; exact this
  rw [Addr.add_lit, Nat.zero_add, World.ownsRow.cellAt h j hjl]
  exact hj

set_option maxRecDepth 100000 in
set_option maxHeartbeats 4000000 in
theorem scopyT (t : Tx) (ra wa : Option Addr) (rc wc : Nat) (lo m : Nat) (hr : t.rs.length ≤ 10000000) (hw : t.ws.length ≤ 10000000) (w : World) (h1 : GOwn encR 90 w lo (.slice ra t.rs.length rc) t.rs) (h2 : GOwn encW 47 w m (.slice wa t.ws.length wc) t.ws) :
  Calls Tryz.prog 81 #[.agg #[.int .i64 t.id, .int .i64 t.st, .int .i64 t.snap, .int .i64 t.cs, .slice ra t.rs.length rc, .slice wa t.ws.length wc, .bool t.out, .string t.nm]] w fun e w' => ∃ ra1 rc1 wa1 wc1, e = .returned (.agg #[.int .i64 t.id, .int .i64 t.st, .int .i64 t.snap, .int .i64 t.cs, .slice ra1 t.rs.length rc1, .slice wa1 t.ws.length wc1, .bool t.out, .string t.nm]) ∧ TLie w' w.heap.size w'.heap.size t ra1 rc1 wa1 wc1 ∧ Below w.heap.size w w' := by
 have BA0 : Hid (Bx (((w.alloc (.cells #[.int .i64 t.id, .int .i64 t.st, .int .i64 t.snap, .int .i64 t.cs, .slice ra t.rs.length rc, .slice wa t.ws.length wc, .bool t.out, .string t.nm] 56)).alloc (.cells #[.int .i64 0, .int .i64 0, .int .i64 0, .int .i64 0, .slice none 0 0, .slice none 0 0, .bool false, .string ⟨#[]⟩] 56)).alloc (.cells #[.int .i64 t.id, .int .i64 t.st, .int .i64 t.snap, .int .i64 t.cs, .slice ra t.rs.length rc, .slice wa t.ws.length wc, .bool t.out, .string t.nm] 56)) w.heap.size [.int .i64 t.id, .int .i64 t.st, .int .i64 t.snap, .int .i64 t.cs, .slice ra t.rs.length rc, .slice wa t.ws.length wc, .bool t.out, .string t.nm]) := ((Bx.new w [.int .i64 t.id, .int .i64 t.st, .int .i64 t.snap, .int .i64 t.cs, .slice ra t.rs.length rc, .slice wa t.ws.length wc, .bool t.out, .string t.nm] 56).alloc _).alloc _
 have BR0 : Hid (Bx (((w.alloc (.cells #[.int .i64 t.id, .int .i64 t.st, .int .i64 t.snap, .int .i64 t.cs, .slice ra t.rs.length rc, .slice wa t.ws.length wc, .bool t.out, .string t.nm] 56)).alloc (.cells #[.int .i64 0, .int .i64 0, .int .i64 0, .int .i64 0, .slice none 0 0, .slice none 0 0, .bool false, .string ⟨#[]⟩] 56)).alloc (.cells #[.int .i64 t.id, .int .i64 t.st, .int .i64 t.snap, .int .i64 t.cs, .slice ra t.rs.length rc, .slice wa t.ws.length wc, .bool t.out, .string t.nm] 56)) (w.heap.size + 1) [.int .i64 0, .int .i64 0, .int .i64 0, .int .i64 0, .slice none 0 0, .slice none 0 0, .bool false, .string ⟨#[]⟩]) := by
  have h := (Bx.new (w.alloc (.cells #[.int .i64 t.id, .int .i64 t.st, .int .i64 t.snap, .int .i64 t.cs, .slice ra t.rs.length rc, .slice wa t.ws.length wc, .bool t.out, .string t.nm] 56)) [.int .i64 0, .int .i64 0, .int .i64 0, .int .i64 0, .slice none 0 0, .slice none 0 0, .bool false, .string ⟨#[]⟩] 56).alloc (.cells #[.int .i64 t.id, .int .i64 t.st, .int .i64 t.snap, .int .i64 t.cs, .slice ra t.rs.length rc, .slice wa t.ws.length wc, .bool t.out, .string t.nm] 56)
  rw [show (w.alloc (.cells #[.int .i64 t.id, .int .i64 t.st, .int .i64 t.snap, .int .i64 t.cs, .slice ra t.rs.length rc, .slice wa t.ws.length wc, .bool t.out, .string t.nm] 56)).heap.size = w.heap.size + 1 by simp] at h
  exact h
 have BO0 : Hid (Bx (((w.alloc (.cells #[.int .i64 t.id, .int .i64 t.st, .int .i64 t.snap, .int .i64 t.cs, .slice ra t.rs.length rc, .slice wa t.ws.length wc, .bool t.out, .string t.nm] 56)).alloc (.cells #[.int .i64 0, .int .i64 0, .int .i64 0, .int .i64 0, .slice none 0 0, .slice none 0 0, .bool false, .string ⟨#[]⟩] 56)).alloc (.cells #[.int .i64 t.id, .int .i64 t.st, .int .i64 t.snap, .int .i64 t.cs, .slice ra t.rs.length rc, .slice wa t.ws.length wc, .bool t.out, .string t.nm] 56)) (w.heap.size + 1 + 1) [.int .i64 t.id, .int .i64 t.st, .int .i64 t.snap, .int .i64 t.cs, .slice ra t.rs.length rc, .slice wa t.ws.length wc, .bool t.out, .string t.nm]) := by
  have h := Bx.new ((w.alloc (.cells #[.int .i64 t.id, .int .i64 t.st, .int .i64 t.snap, .int .i64 t.cs, .slice ra t.rs.length rc, .slice wa t.ws.length wc, .bool t.out, .string t.nm] 56)).alloc (.cells #[.int .i64 0, .int .i64 0, .int .i64 0, .int .i64 0, .slice none 0 0, .slice none 0 0, .bool false, .string ⟨#[]⟩] 56)) [.int .i64 t.id, .int .i64 t.st, .int .i64 t.snap, .int .i64 t.cs, .slice ra t.rs.length rc, .slice wa t.ws.length wc, .bool t.out, .string t.nm] 56
  rw [show ((w.alloc (.cells #[.int .i64 t.id, .int .i64 t.st, .int .i64 t.snap, .int .i64 t.cs, .slice ra t.rs.length rc, .slice wa t.ws.length wc, .bool t.out, .string t.nm] 56)).alloc (.cells #[.int .i64 0, .int .i64 0, .int .i64 0, .int .i64 0, .slice none 0 0, .slice none 0 0, .bool false, .string ⟨#[]⟩] 56)).heap.size = w.heap.size + 1 + 1 by simp] at h
  exact h
 have HB0 : Hid (Below w.heap.size w (((w.alloc (.cells #[.int .i64 t.id, .int .i64 t.st, .int .i64 t.snap, .int .i64 t.cs, .slice ra t.rs.length rc, .slice wa t.ws.length wc, .bool t.out, .string t.nm] 56)).alloc (.cells #[.int .i64 0, .int .i64 0, .int .i64 0, .int .i64 0, .slice none 0 0, .slice none 0 0, .bool false, .string ⟨#[]⟩] 56)).alloc (.cells #[.int .i64 t.id, .int .i64 t.st, .int .i64 t.snap, .int .i64 t.cs, .slice ra t.rs.length rc, .slice wa t.ws.length wc, .bool t.out, .string t.nm] 56))) := (((belowRefl w).alloc (Nat.le_refl _) _).alloc (by simp) _).alloc (by simp; omega) _
 have S0 : Hid ((((w.alloc (.cells #[.int .i64 t.id, .int .i64 t.st, .int .i64 t.snap, .int .i64 t.cs, .slice ra t.rs.length rc, .slice wa t.ws.length wc, .bool t.out, .string t.nm] 56)).alloc (.cells #[.int .i64 0, .int .i64 0, .int .i64 0, .int .i64 0, .slice none 0 0, .slice none 0 0, .bool false, .string ⟨#[]⟩] 56)).alloc (.cells #[.int .i64 t.id, .int .i64 t.st, .int .i64 t.snap, .int .i64 t.cs, .slice ra t.rs.length rc, .slice wa t.ws.length wc, .bool t.out, .string t.nm] 56)).heap.size = w.heap.size + 1 + 1 + 1) := by show _ = _; simp
 have P1 : Hid (GOwn encR 90 w lo (.slice ra t.rs.length rc) t.rs) := h1
 have P2 : Hid (GOwn encW 47 w m (.slice wa t.ws.length wc) t.ws) := h2
 clear h1 h2
 have HE : Hid (GOwn encR 90 ((((w.alloc (.cells #[.int .i64 t.id, .int .i64 t.st, .int .i64 t.snap, .int .i64 t.cs, .slice ra t.rs.length rc, .slice wa t.ws.length wc, .bool t.out, .string t.nm] 56)).alloc (.cells #[.int .i64 0, .int .i64 0, .int .i64 0, .int .i64 0, .slice none 0 0, .slice none 0 0, .bool false, .string ⟨#[]⟩] 56)).alloc (.cells #[.int .i64 t.id, .int .i64 t.st, .int .i64 t.snap, .int .i64 t.cs, .slice ra t.rs.length rc, .slice wa t.ws.length wc, .bool t.out, .string t.nm] 56)).alloc (.cells #[] 90)) (w.heap.size + 1 + 1 + 1) (.slice (some ⟨w.heap.size + 1 + 1 + 1, 0, none⟩) 0 0) []) := by
  have h := GOwn.empty (E := encR) (e := 90) (((w.alloc (.cells #[.int .i64 t.id, .int .i64 t.st, .int .i64 t.snap, .int .i64 t.cs, .slice ra t.rs.length rc, .slice wa t.ws.length wc, .bool t.out, .string t.nm] 56)).alloc (.cells #[.int .i64 0, .int .i64 0, .int .i64 0, .int .i64 0, .slice none 0 0, .slice none 0 0, .bool false, .string ⟨#[]⟩] 56)).alloc (.cells #[.int .i64 t.id, .int .i64 t.st, .int .i64 t.snap, .int .i64 t.cs, .slice ra t.rs.length rc, .slice wa t.ws.length wc, .bool t.out, .string t.nm] 56)) (w.heap.size + 1 + 1 + 1) (by rw [S0.out]; exact Nat.le_refl _)
  rw [S0.out] at h
  exact h
 have HB0e : Hid (Below w.heap.size w ((((w.alloc (.cells #[.int .i64 t.id, .int .i64 t.st, .int .i64 t.snap, .int .i64 t.cs, .slice ra t.rs.length rc, .slice wa t.ws.length wc, .bool t.out, .string t.nm] 56)).alloc (.cells #[.int .i64 0, .int .i64 0, .int .i64 0, .int .i64 0, .slice none 0 0, .slice none 0 0, .bool false, .string ⟨#[]⟩] 56)).alloc (.cells #[.int .i64 t.id, .int .i64 t.st, .int .i64 t.snap, .int .i64 t.cs, .slice ra t.rs.length rc, .slice wa t.ws.length wc, .bool t.out, .string t.nm] 56)).alloc (.cells #[] 90))) := HB0.out.alloc HB0.out.size _
 have P1e := hide (gsrc (P1.out.below HB0e.out))
 have x4 := (BA0.out.alloc (.cells #[] 90)).c4
 have sz1 : w.heap.size + 1 + 1 + 1 ≤ ((((w.alloc (.cells #[.int .i64 t.id, .int .i64 t.st, .int .i64 t.snap, .int .i64 t.cs, .slice ra t.rs.length rc, .slice wa t.ws.length wc, .bool t.out, .string t.nm] 56)).alloc (.cells #[.int .i64 0, .int .i64 0, .int .i64 0, .int .i64 0, .slice none 0 0, .slice none 0 0, .bool false, .string ⟨#[]⟩] 56)).alloc (.cells #[.int .i64 t.id, .int .i64 t.st, .int .i64 t.snap, .int .i64 t.cs, .slice ra t.rs.length rc, .slice wa t.ws.length wc, .bool t.out, .string t.nm] 56)).alloc (.cells #[] 90)).heap.size := by rw [World.size_alloc, S0.out]; omega
 go_enter Tryz.func81, Tryz.ntmps81
 go_wp2_with (at_builtin; refine wpAppRowR (v := .slice (some ⟨w.heap.size + 1 + 1 + 1, 0, none⟩) 0 0) rfl _ _ rfl rfl HE.out rfl P1e.out rfl (by simp; omega) sz1 (fun h => by cases h) ?_)
 intro g1 cap1 L1 w1 hL1 ho1 hb1
 obtain rfl : L1 = t.rs.length := by simpa using hL1
 have BA1 := hide ((BA0.out.alloc (.cells #[] 90)).belowB hb1 (by omega))
 have BR1 := hide ((BR0.out.alloc (.cells #[] 90)).belowB hb1 (by omega))
 have BO1 := hide ((BO0.out.alloc (.cells #[] 90)).belowB hb1 (by omega))
 have HBe : Hid (Below (w.heap.size + 1 + 1 + 1) (((w.alloc (.cells #[.int .i64 t.id, .int .i64 t.st, .int .i64 t.snap, .int .i64 t.cs, .slice ra t.rs.length rc, .slice wa t.ws.length wc, .bool t.out, .string t.nm] 56)).alloc (.cells #[.int .i64 0, .int .i64 0, .int .i64 0, .int .i64 0, .slice none 0 0, .slice none 0 0, .bool false, .string ⟨#[]⟩] 56)).alloc (.cells #[.int .i64 t.id, .int .i64 t.st, .int .i64 t.snap, .int .i64 t.cs, .slice ra t.rs.length rc, .slice wa t.ws.length wc, .bool t.out, .string t.nm] 56)) w1) := by
  have h := (belowRefl (((w.alloc (.cells #[.int .i64 t.id, .int .i64 t.st, .int .i64 t.snap, .int .i64 t.cs, .slice ra t.rs.length rc, .slice wa t.ws.length wc, .bool t.out, .string t.nm] 56)).alloc (.cells #[.int .i64 0, .int .i64 0, .int .i64 0, .int .i64 0, .slice none 0 0, .slice none 0 0, .bool false, .string ⟨#[]⟩] 56)).alloc (.cells #[.int .i64 t.id, .int .i64 t.st, .int .i64 t.snap, .int .i64 t.cs, .slice ra t.rs.length rc, .slice wa t.ws.length wc, .bool t.out, .string t.nm] 56))).alloc (Nat.le_refl _) (.cells #[] 90)
  rw [S0.out] at h
  exact h.trans hb1
 have HB1 : Hid (Below w.heap.size w w1) := HB0.out.trans (HBe.out.mono (by omega))
 have hs1 := HBe.out.size
 rw [S0.out] at hs1
 have SZ1 : Hid (w.heap.size + 1 + 1 + 1 ≤ w1.heap.size) := hs1
 have L1 : Hid (Lies encR 90 w1 (w.heap.size + 1 + 1 + 1) w1.heap.size (.slice (some ⟨g1, 0, none⟩) t.rs.length cap1) t.rs) := Lies.of ho1
 clear hL1 ho1 hb1 hs1 HBe HE P1e P1 x4 BA0 BR0 BO0 HB0 HB0e sz1
 have o4 := BO1.out.c4
 have f4 := BO1.out.fz 4
 have x5 := ((BA1.out.setO (p := ⟨w.heap.size + 1 + 1, 4, none⟩) (by show w.heap.size + 1 + 1 ≠ w.heap.size; omega) (.slice (some ⟨g1, 0, none⟩) t.rs.length cap1)).alloc (.cells #[] 47)).c5
 have ZS : Hid ((w1.setCell ⟨w.heap.size + 1 + 1, 4, none⟩ (.slice (some ⟨g1, 0, none⟩) t.rs.length cap1)).heap.size = w1.heap.size) := by show _ = _; simp [World.setCell]
 have HE2 : Hid (GOwn encW 47 ((w1.setCell ⟨w.heap.size + 1 + 1, 4, none⟩ (.slice (some ⟨g1, 0, none⟩) t.rs.length cap1)).alloc (.cells #[] 47)) w1.heap.size (.slice (some ⟨w1.heap.size, 0, none⟩) 0 0) []) := by
  have h := GOwn.empty (E := encW) (e := 47) (w1.setCell ⟨w.heap.size + 1 + 1, 4, none⟩ (.slice (some ⟨g1, 0, none⟩) t.rs.length cap1)) w1.heap.size (by rw [ZS.out]; exact Nat.le_refl _)
  rw [ZS.out] at h
  exact h
 have HB1s : Hid (Below w.heap.size w (w1.setCell ⟨w.heap.size + 1 + 1, 4, none⟩ (.slice (some ⟨g1, 0, none⟩) t.rs.length cap1))) := HB1.out.setCell (by show _ ≤ _ + 1 + 1; omega) _
 have P2e := hide (gsrc (P2.out.below (HB1s.out.alloc HB1s.out.size (.cells #[] 47))))
 have BR1s : Hid (Bx (w1.setCell ⟨w.heap.size + 1 + 1, 4, none⟩ (.slice (some ⟨g1, 0, none⟩) t.rs.length cap1)) (w.heap.size + 1) [.int .i64 0, .int .i64 0, .int .i64 0, .int .i64 0, .slice none 0 0, .slice none 0 0, .bool false, .string ⟨#[]⟩]) := BR1.out.setO (by show w.heap.size + 1 + 1 ≠ w.heap.size + 1; omega) _
 have BO1s : Hid (Bx (w1.setCell ⟨w.heap.size + 1 + 1, 4, none⟩ (.slice (some ⟨g1, 0, none⟩) t.rs.length cap1)) (w.heap.size + 1 + 1) [.int .i64 t.id, .int .i64 t.st, .int .i64 t.snap, .int .i64 t.cs, .slice (some ⟨g1, 0, none⟩) t.rs.length cap1, .slice wa t.ws.length wc, .bool t.out, .string t.nm]) := BO1.out.set 4 _
 have L1s : Hid (Lies encR 90 (w1.setCell ⟨w.heap.size + 1 + 1, 4, none⟩ (.slice (some ⟨g1, 0, none⟩) t.rs.length cap1)) (w.heap.size + 1 + 1 + 1) w1.heap.size (.slice (some ⟨g1, 0, none⟩) t.rs.length cap1) t.rs) := L1.out.set (by show _ + 1 + 1 < _; omega) _
 have sz2 : w1.heap.size ≤ ((w1.setCell ⟨w.heap.size + 1 + 1, 4, none⟩ (.slice (some ⟨g1, 0, none⟩) t.rs.length cap1)).alloc (.cells #[] 47)).heap.size := by rw [World.size_alloc, ZS.out]; omega
 go_wp2_with (at_builtin; refine wpAppRowW (v := .slice (some ⟨w1.heap.size, 0, none⟩) 0 0) rfl _ _ rfl rfl HE2.out rfl P2e.out rfl (by simp; omega) sz2 (fun h => by cases h) ?_)
 intro g2 cap2 L2 w2 hL2 ho2 hb2
 obtain rfl : L2 = t.ws.length := by simpa using hL2
 have BR2 := hide ((BR1s.out.alloc (.cells #[] 47)).belowB hb2 (by have := SZ1.out; omega))
 have BO2 := hide ((BO1s.out.alloc (.cells #[] 47)).belowB hb2 (by have := SZ1.out; omega))
 have HB2 : Hid (Below w.heap.size w w2) := (HB1s.out.alloc HB1s.out.size _).trans (hb2.mono (by have := SZ1.out; omega))
 have L1t := L1s.out.below ((belowRefl (w1.setCell ⟨w.heap.size + 1 + 1, 4, none⟩ (.slice (some ⟨g1, 0, none⟩) t.rs.length cap1))).alloc (Nat.le_refl _) (.cells #[] 47))
 have L1u : Hid (Lies encR 90 w2 (w.heap.size + 1 + 1 + 1) w1.heap.size (.slice (some ⟨g1, 0, none⟩) t.rs.length cap1) t.rs) := L1t.low hb2
 have SZ2 : Hid (w1.heap.size ≤ w2.heap.size) := Nat.le_trans sz2 hb2.size
 have L2 : Hid (TLie w2 (w.heap.size + 1 + 1 + 1) w2.heap.size t (some ⟨g1, 0, none⟩) cap1 (some ⟨g2, 0, none⟩) cap2) := ⟨w1.heap.size, SZ1.out, SZ2.out, L1u.out, Lies.of ho2⟩
 clear hL2 ho2 hb2 HE2 P2e x5 o4 f4 BA1 BR1 BO1 BR1s BO1s L1 L1s L1t L1u HB1 HB1s sz2
 have o0 := BO2.out.c0
 have q0 := BR2.out.c0
 have fq0 := BR2.out.fz 0
 have o1 := BO2.out.c1
 have q1 := BR2.out.c1
 have fq1 := BR2.out.fz 1
 have o2 := BO2.out.c2
 have q2 := BR2.out.c2
 have fq2 := BR2.out.fz 2
 have o3 := BO2.out.c3
 have q3 := BR2.out.c3
 have fq3 := BR2.out.fz 3
 have o4 := BO2.out.c4
 have q4 := BR2.out.c4
 have fq4 := BR2.out.fz 4
 have o5 := BO2.out.c5
 have q5 := BR2.out.c5
 have fq5 := BR2.out.fz 5
 have o6 := BO2.out.c6
 have q6 := BR2.out.c6
 have fq6 := BR2.out.fz 6
 have o7 := BO2.out.c7
 have q7 := BR2.out.c7
 have fq7 := BR2.out.fz 7
 have f5 := BO2.out.fz 5
 go_wp2
 refine bodyPost_ret (v := .agg #[.int .i64 t.id, .int .i64 t.st, .int .i64 t.snap, .int .i64 t.cs, .slice (some ⟨g1, 0, none⟩) t.rs.length cap1, .slice (some ⟨g2, 0, none⟩) t.ws.length cap2, .bool t.out, .string t.nm]) (by simp [results, Tryz.results81, go_sem, q0, q1, q2, q3, q4, q5, q6, q7]) rfl ⟨_, cap1, _, cap2, rfl, ?_, ?_⟩
 ·exact (((((((((L2.out.set (by show _ + 1 + 1 < _; omega) _).set (by show _ + 1 < _; omega) _).set (by show _ + 1 < _; omega) _).set (by show _ + 1 < _; omega) _).set (by show _ + 1 < _; omega) _).set (by show _ + 1 < _; omega) _).set (by show _ + 1 < _; omega) _).set (by show _ + 1 < _; omega) _).set (by show _ + 1 < _; omega) _).mono (by omega) (by simp [World.setCell])
 ·exact (((((((((HB2.out.setCell (by show _ ≤ _ + 1 + 1; omega) _).setCell (by show _ ≤ _ + 1; omega) _).setCell (by show _ ≤ _ + 1; omega) _).setCell (by show _ ≤ _ + 1; omega) _).setCell (by show _ ≤ _ + 1; omega) _).setCell (by show _ ≤ _ + 1; omega) _).setCell (by show _ ≤ _ + 1; omega) _).setCell (by show _ ≤ _ + 1; omega) _).setCell (by show _ ≤ _ + 1; omega) _)

end Go.Proofs.YtjeicgibddfifaaGreat

namespace Go.Proofs.YtjeicgibddfifaaGreat
open Go.RowKit
open KM
attribute [local go_sem ↓] Go.wp_at_zero Go.wp_at_succ

structure TxA (t : Tx) : Prop where
 fit : TFit t
 rl : t.rs.length ≤ 4
 wl : t.ws.length ≤ 4
theorem TxD.fit {t : Tx} (h : TxD t) : TFit t := ⟨Nat.le_trans h.rl (by omega), h.rs.fit, Nat.le_trans h.wl (by omega), h.ws.fit, h.nm⟩
theorem TxD.any {t : Tx} (h : TxD t) : TxA t := ⟨h.fit, Nat.le_trans h.rl (by omega), Nat.le_trans h.wl (by omega)⟩
end Go.Proofs.YtjeicgibddfifaaGreat

namespace Go.Proofs.YtjeicgibddfifaaGreat
open Go.RowKit
open KM
attribute [local go_sem ↓] Go.wp_at_zero Go.wp_at_succ

end Go.Proofs.YtjeicgibddfifaaGreat

namespace Go.Proofs.YtjeicgibddfifaaGreat
open Go.RowKit
open KM
attribute [local go_sem ↓] Go.wp_at_zero Go.wp_at_succ

end Go.Proofs.YtjeicgibddfifaaGreat

namespace Go.Proofs.YtjeicgibddfifaaGreat
open Go.RowKit
open KM
attribute [local go_sem ↓] Go.wp_at_zero Go.wp_at_succ

end Go.Proofs.YtjeicgibddfifaaGreat

namespace Go.Proofs.YtjeicgibddfifaaGreat
open Go.RowKit
open KM
attribute [local go_sem ↓] Go.wp_at_zero Go.wp_at_succ

end Go.Proofs.YtjeicgibddfifaaGreat

namespace Go.Proofs.YtjeicgibddfifaaGreat
namespace VM
open KM
def isOf (k : ByteArray) (s : Int) (v : Vr) : Bool := decide (v.1 = k) && decide (v.2.2.2 ≤ s)
def more (a : Option Nd) (n : Nd) : Bool := match a with
 | none => true
 | some m => decide (m.2.2.2.2 < n.2.2.2.2)
def stp (k : ByteArray) (s : Int) (a : Option Nd) (n : Nd) : Option Nd := if (isOf k s n.2 && more a n) = true then some n else a
def lst (k : ByteArray) (s : Int) (ns : List Nd) : Option Nd := ns.foldl (stp k s) none
def lab (vs : List Vr) : Nat → List Nd
 | 0 => []
 | n + 1 => lab vs n ++ (match vs[n]? with
  | some v => [(n, v)]
  | none => [])
end VM
end Go.Proofs.YtjeicgibddfifaaGreat

namespace Go.Proofs.YtjeicgibddfifaaGreat
open Go.RowKit
open KM
open VM
attribute [local go_sem ↓] Go.wp_at_zero Go.wp_at_succ

def zV : Vr := (⟨#[]⟩, ⟨#[]⟩, false, 0)
theorem chn_first (w : World) : Chn ((w.alloc (.cells #[.string ⟨#[]⟩, .string ⟨#[]⟩, .bool false, .int .i64 0, .pointer none] 182)).alloc (.cells #[.pointer (some ⟨w.heap.size, 0, none⟩)] 184)) w.heap.size (w.heap.size + 1) ([] ++ [(w.heap.size, zV)]) := by
 have h1 : Bx (w.alloc (.cells #[.string ⟨#[]⟩, .string ⟨#[]⟩, .bool false, .int .i64 0, .pointer none] 182)) w.heap.size (ndc zV none) := Bx.new w (ndc zV none) 182
 have h2 := Bx.new (w.alloc (.cells #[.string ⟨#[]⟩, .string ⟨#[]⟩, .bool false, .int .i64 0, .pointer none] 182)) [.pointer (some ⟨w.heap.size, 0, none⟩)] 184
 rw [World.size_alloc] at h2
 refine ⟨h2, ⟨h1.alloc _, trivial⟩, by simp, by simp⟩
theorem fst_ne {w : World} {base c : Nat} {A : List Nd} {m : Nd} (h : Chn w base c (A ++ [m])) (b : Nat) (v : Vr) (hb : w.heap.size ≤ b) : (c :: (A ++ m :: [(b, v)]).map (·.1)).Nodup := by
 have e : (c :: (A ++ m :: [(b, v)]).map (·.1)) = (c :: (A ++ [m]).map (·.1)) ++ [b] := by simp
 rw [e, List.nodup_append]
 refine ⟨h.nd, by simp, fun x hx y hy => ?_⟩
 have := h.lt x hx
 simp at hy
 omega
theorem chn_more {w : World} {base c : Nat} {A : List Nd} {m : Nd} (h : Chn w base c (A ++ [m])) (hb : base ≤ w.heap.size) (v : Vr) :
  Chn (((w.alloc (.cells #[.string v.1, .string v.2.1, .bool v.2.2.1, .int .i64 v.2.2.2] 85)).alloc (.cells #[.string v.1, .string v.2.1, .bool v.2.2.1, .int .i64 v.2.2.2, .pointer none] 182)).setCell ⟨m.1, 4, none⟩ (.pointer (some ⟨w.heap.size + 1, 0, none⟩))) base c ((A ++ [m]) ++ [(w.heap.size + 1, v)]) := by
 have h1 := (h.below ((belowRefl w).alloc (Nat.le_refl _) (.cells #[.string v.1, .string v.2.1, .bool v.2.2.1, .int .i64 v.2.2.2] 85))).below ((belowRefl _).alloc (Nat.le_refl _) (.cells #[.string v.1, .string v.2.1, .bool v.2.2.1, .int .i64 v.2.2.2, .pointer none] 182))
 have h2 := Bx.new (w.alloc (.cells #[.string v.1, .string v.2.1, .bool v.2.2.1, .int .i64 v.2.2.2] 85)) (ndc v none) 182
 rw [World.size_alloc] at h2
 have h3 := h1.next (C := [(w.heap.size + 1, v)]) ⟨h2, trivial⟩ (fst_ne h (w.heap.size + 1) v (by omega)) (fun n hn => by rw [List.mem_singleton.1 hn]; show base ≤ w.heap.size + 1; omega)
 rw [List.append_assoc]
 exact h3

set_option maxRecDepth 100000 in
set_option maxHeartbeats 2000000 in
theorem chain45 (xs : List Vr) (a : Option Addr) (c : Nat) (hn : xs.length ≤ 100000000) (w : World) (hp : GRow encV w a xs) :
  Calls Tryz.prog 113 #[.slice a xs.length c] w fun e w' => e = .returned (.pointer (some ⟨w.heap.size + 1, 0, none⟩)) ∧ (∃ (r : Nat) (ns : List Nd), Chn w' w.heap.size (w.heap.size + 1) ((r, zV) :: ns) ∧ ns.map (·.2) = xs) ∧ Below w.heap.size w w' := by
 have HP : Hid (GRow encV w a xs) := hp
 clear hp
 have H0 : Hid (Chn ((w.alloc (.cells #[.string ⟨#[]⟩, .string ⟨#[]⟩, .bool false, .int .i64 0, .pointer none] 182)).alloc (.cells #[.pointer (some ⟨w.heap.size, 0, none⟩)] 184)) w.heap.size (w.heap.size + 1) ([] ++ [(w.heap.size, zV)])) := chn_first w
 have B0 : Hid (Below w.heap.size w ((w.alloc (.cells #[.string ⟨#[]⟩, .string ⟨#[]⟩, .bool false, .int .i64 0, .pointer none] 182)).alloc (.cells #[.pointer (some ⟨w.heap.size, 0, none⟩)] 184))) := ((belowRefl w).alloc (Nat.le_refl _) _).alloc (by simp) _
 go_enter Tryz.func113, Tryz.ntmps113
 go_wp2
 go_loopw [4, 17] (fun t4 t wr => ∃ (k : Nat) (A : List Nd) (m : Nd), k ≤ xs.length ∧ t = .int .i64 k ∧ t4 = .pointer (some ⟨m.1, 0, none⟩) ∧ Hid (Chn wr w.heap.size (w.heap.size + 1) (A ++ [m])) ∧ Hid ((A ++ [m]).map (·.2) = zV :: xs.take k) ∧ Hid (Below w.heap.size w wr)) (fun _ t _ => xs.length - (intOf t).toNat)
 case atStart => exact ⟨0, [], (w.heap.size, zV), Nat.zero_le _, rfl, rfl, H0, rfl, B0⟩
 case round =>
  obtain ⟨k, A, m, hk, rfl, rfl, HC, HV, HB⟩ := hrel
  by_cases hlt : k < xs.length
  ·have hlt' : (k : Int) < (xs.length : Int) := by omega
   have h0 : (0 : Int) ≤ (k : Int) := by omega
   obtain ⟨b, off, rfl, hbl, hc⟩ := (HP.out.below HB.out) (by omega)
   have c0 := (vat hc k hlt).1
   have c1 := (vat hc k hlt).2.1
   have c2 := (vat hc k hlt).2.2.1
   have c3 := (vat hc k hlt).2.2.2
   clear hc
   have m4 := HC.out.at'.c4
   have mf := HC.out.at'.fz
   have mlt := HC.out.at'.lt
   simp only [ptq_nil] at m4
   have HC2 : Hid (Chn (((wr.setCell ⟨m.1, 4, none⟩ (.pointer (some ⟨wr.heap.size + 1, 0, none⟩))).alloc (.cells #[.string xs[k].1, .string xs[k].2.1, .bool xs[k].2.2.1, .int .i64 xs[k].2.2.2] 85)).alloc (.cells #[.string xs[k].1, .string xs[k].2.1, .bool xs[k].2.2.1, .int .i64 xs[k].2.2.2, .pointer none] 182)) w.heap.size (w.heap.size + 1) ((A ++ [m]) ++ [(wr.heap.size + 1, xs[k])])) := by
    have h := chn_more HC.out HB.out.size xs[k]
    rw [World.setCell_alloc_past _ _ _ _ (by simp; omega), World.setCell_alloc_past _ _ _ _ mlt] at h
    exact h
   have HV2 : Hid (((A ++ [m]) ++ [(wr.heap.size + 1, xs[k])]).map (·.2) = zV :: xs.take (k + 1)) := by
    show _ = _
    rw [List.map_append, HV.out, List.take_succ_eq_append_getElem hlt]; rfl
   have HB2 : Hid (Below w.heap.size w (((wr.setCell ⟨m.1, 4, none⟩ (.pointer (some ⟨wr.heap.size + 1, 0, none⟩))).alloc (.cells #[.string xs[k].1, .string xs[k].2.1, .bool xs[k].2.2.1, .int .i64 xs[k].2.2.2] 85)).alloc (.cells #[.string xs[k].1, .string xs[k].2.1, .bool xs[k].2.2.1, .int .i64 xs[k].2.2.2, .pointer none] 182))) := by
    have hs : w.heap.size ≤ (wr.setCell ⟨m.1, 4, none⟩ (.pointer (some ⟨wr.heap.size + 1, 0, none⟩))).heap.size := by simpa [World.setCell] using HB.out.size
    exact ((HB.out.setCell (HC.out.lo m.1 (by simp)) _).alloc hs _).alloc (by rw [World.size_alloc]; omega) _
   go_wp2
   go_roundw
   case rel => exact ⟨k + 1, A ++ [m], _, by omega, by go_num, rfl, HC2, HV2, HB2⟩
   case measure => simp [intOf]; omega
  ·have hlt' : ¬ (k : Int) < (xs.length : Int) := by omega
   have HE : Hid (∃ (r : Nat) (ns : List Nd), Chn wr w.heap.size (w.heap.size + 1) ((r, zV) :: ns) ∧ ns.map (·.2) = xs) := by
    have hv := HV.out
    have hc := HC.out
    rw [List.take_of_length_le (by omega)] at hv
    show ∃ _ _, _
    cases hl : A ++ [m] with
    | nil => simp at hl
    | cons x l =>
     rw [hl] at hv hc
     simp only [List.map_cons, List.cons.injEq] at hv
     obtain ⟨r, v⟩ := x
     have e : v = zV := hv.1
     subst e
     exact ⟨r, l, hc, hv.2⟩
   go_wp2
   go_ret
   exact ⟨rfl, HE.out, HB.out⟩
end Go.Proofs.YtjeicgibddfifaaGreat

namespace Go.Proofs.YtjeicgibddfifaaGreat
open Go.RowKit
open KM
open VM
attribute [local go_sem ↓] Go.wp_at_zero Go.wp_at_succ

theorem seg_at {w : World} {base c : Nat} {r : Nd} {ns A B : List Nd} {n : Nd} (h : Chn w base c (r :: ns)) (e : ns = A ++ n :: B) : Bx w n.1 (ndc n.2 (ptq B none)) := by
 subst e
 exact Chn.at' (A := r :: A) (by simpa using h)
end Go.Proofs.YtjeicgibddfifaaGreat

namespace Go.Proofs.YtjeicgibddfifaaGreat
open Go.RowKit
open KM
open VM
attribute [local go_sem ↓] Go.wp_at_zero Go.wp_at_succ

set_option maxHeartbeats 400000 in
theorem clone49 (s : ByteArray) (hs : s.size ≤ 281474976710656) (w : World) :
  Calls Tryz.prog 120 #[.string s] w fun e w' => e = .returned (.string s) ∧ Below w.heap.size w w' := by
 go_enter Tryz.func120, Tryz.ntmps120
 go_wp2_with (go_at_call 154; refine (Tryz.stringslite_Clone s _ hs).mono ?_; rintro e w2 ⟨rfl, hb2⟩)
 go_ret
 exact ⟨rfl, hb2⟩

end Go.Proofs.YtjeicgibddfifaaGreat

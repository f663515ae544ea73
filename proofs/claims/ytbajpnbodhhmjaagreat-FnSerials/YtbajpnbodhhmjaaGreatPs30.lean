/- What spec.l07Copy and impl.openOk return. -/
import Derived.Test.YtbajpnbodhhmjaaGreatProg
import Derived.WalkKit
import Derived.Test.YtbajpnbodhhmjaaGreatPs01
import Derived.WalkSpells
import Derived.WalkLawsBesides
import Derived.Deep.QuietTactic
import Derived.BigQuiet
import Derived.Deep.RegionHeld3
import Derived.Deep.DrawnRows
import Derived.Deep.AppendLies
import Derived.Test.YtbajpnbodhhmjaaGreatPs02
import Derived.Sort.OwnSorted
import Derived.Lib.RowBridge
import Derived.Test.YtbajpnbodhhmjaaGreatPs08
import Derived.Test.YtbajpnbodhhmjaaGreatPs29
namespace Go.Proofs.YtbajpnbodhhmjaaGreat
open Go.RowKit
open KM
attribute [local go_sem ↓] Go.wp_at_zero Go.wp_at_succ

theorem wpAppRowR {ops : Array Oper} {rest : List Oper} {o : Oper} {a : Act} {Q : Exit → Act → World → Prop} (hgd : o.guard = none) (s x : Operand) (ho : o.op = .call { callee := .builtin .append, args := #[s, x], argTypes := #[27, 27] })
  {W : World} {base m c : Nat} {ao : Option Addr} {v : Value} {ys zs : List Rg} (hs : a.eval s = v) (hown : GOwn encR 35 W base v ys) (hx : a.eval x = .slice ao m c)
  (hsrc : (ao = none ∧ m = 0 ∧ c = 0) ∨ ∃ ad, ao = some ad ∧ ∀ j u, (encR.cells zs)[j]? = some u → W.cell? (ad.add j) = some u) (hm : zs.length = m) (hlen : ys.length + zs.length ≤ 100000000) (hB : base ≤ W.heap.size) (hne : v ≠ .slice none 0 0)
  (h : ∀ g' cap L w', L = (ys ++ zs).length → GOwn encR 35 w' base (.slice (some ⟨g', 0, none⟩) L cap) (ys ++ zs) → Below base W w' → wpList Tryz.prog ops Q rest (a.put o.dst (.slice (some ⟨g', 0, none⟩) L cap)) w') :
  wpList Tryz.prog ops Q (o :: rest) a W := by
 obtain ⟨i0, hi, hz0, hz1, hz2⟩ := info_parts Tryz.info35
 have hone : ∀ u ∈ encR.cells zs, u.oneCell' = true := fun u hu => by
  unfold Enc.cells at hu
  obtain ⟨y, _, hy⟩ := List.mem_flatMap.1 hu
  exact oneP u hy
 have key : ∃ v' w', (Builtin.append_ #[27, 27] o.type #[v, .slice ao m c]).run Tryz.prog W = .ok v' w' ∧ w'.ownsRow base 35 2 v' (ys ++ zs).length (encR.cells (ys ++ zs)) ∧ W.grownBy w' v.ownBlock ∧ v' ≠ .slice none 0 0 := by
  rw [encR.cells_app, List.length_append]
  rcases hsrc with ⟨rfl, rfl, rfl⟩ | ⟨ad, rfl, hc⟩
  ·obtain rfl : zs = [] := List.length_eq_zero_iff.1 hm
   refine ⟨v, W, run_append_owned_none (P := Tryz.prog) W base 27 o.type 35 i0 2 Tryz.underlying27 hi v _ _ hown, ?_, ⟨rfl, rfl, rfl, Nat.le_refl _, fun _ _ _ => rfl⟩, hne⟩
   have e : encR.cells ([] : List Rg) = [] := rfl
   rw [e, List.append_nil]
   exact hown
  ·obtain ⟨v', w', hr, q1, q2, q3⟩ := run_append_own (P := Tryz.prog) W base 27 o.type 35 i0 _ 2 32 Tryz.underlying27 hi hz0 hz1 hz2 rfl (by omega) v ys.length (encR.cells ys) hown ad m c (encR.cells zs) (by rw [encR.cells_len, hm]; rfl) hc hone (by unfold maxLen; omega) (by omega) hB
   refine ⟨v', w', hr, by rw [hm]; exact q1, q2, fun e => hne (q3.1 e).1⟩
 obtain ⟨v', w', hr, q1, q2, q3⟩ := key
 have hb : Below base W w' := (Below.refl _ _).grown q2 hB (fun j hj => (World.ownsRow.lt hown j hj).1)
 rcases q1.2 with ⟨hv, _⟩ | ⟨g', cap, cur, hv, _⟩
 ·exact absurd hv q3
 ·subst hv
  refine wpList_plain hgd fun K hK => ?_
  unfold Oper.wp execOp
  simp only [ho, resolve, invoke, builtin, Sem.run_bind, Sem.run_pure, Result.andThen_ok, List.map_toArray, List.map_cons, List.map_nil, hs, hx, hr]
  exact hK _ _ (h g' cap _ w' rfl q1 hb)

theorem wpAppRowW {ops : Array Oper} {rest : List Oper} {o : Oper} {a : Act} {Q : Exit → Act → World → Prop} (hgd : o.guard = none) (s x : Operand) (ho : o.op = .call { callee := .builtin .append, args := #[s, x], argTypes := #[28, 28] })
  {W : World} {base m c : Nat} {ao : Option Addr} {v : Value} {ys zs : List Wt} (hs : a.eval s = v) (hown : GOwn encW 55 W base v ys) (hx : a.eval x = .slice ao m c)
  (hsrc : (ao = none ∧ m = 0 ∧ c = 0) ∨ ∃ ad, ao = some ad ∧ ∀ j u, (encW.cells zs)[j]? = some u → W.cell? (ad.add j) = some u) (hm : zs.length = m) (hlen : ys.length + zs.length ≤ 100000000) (hB : base ≤ W.heap.size) (hne : v ≠ .slice none 0 0)
  (h : ∀ g' cap L w', L = (ys ++ zs).length → GOwn encW 55 w' base (.slice (some ⟨g', 0, none⟩) L cap) (ys ++ zs) → Below base W w' → wpList Tryz.prog ops Q rest (a.put o.dst (.slice (some ⟨g', 0, none⟩) L cap)) w') :
  wpList Tryz.prog ops Q (o :: rest) a W := by
 obtain ⟨i0, hi, hz0, hz1, hz2⟩ := info_parts Tryz.info55
 have hone : ∀ u ∈ encW.cells zs, u.oneCell' = true := fun u hu => by
  unfold Enc.cells at hu
  obtain ⟨y, _, hy⟩ := List.mem_flatMap.1 hu
  exact wone u hy
 have key : ∃ v' w', (Builtin.append_ #[28, 28] o.type #[v, .slice ao m c]).run Tryz.prog W = .ok v' w' ∧ w'.ownsRow base 55 3 v' (ys ++ zs).length (encW.cells (ys ++ zs)) ∧ W.grownBy w' v.ownBlock ∧ v' ≠ .slice none 0 0 := by
  rw [encW.cells_app, List.length_append]
  rcases hsrc with ⟨rfl, rfl, rfl⟩ | ⟨ad, rfl, hc⟩
  ·obtain rfl : zs = [] := List.length_eq_zero_iff.1 hm
   refine ⟨v, W, run_append_owned_none (P := Tryz.prog) W base 28 o.type 55 i0 3 Tryz.underlying28 hi v _ _ hown, ?_, ⟨rfl, rfl, rfl, Nat.le_refl _, fun _ _ _ => rfl⟩, hne⟩
   have e : encW.cells ([] : List Wt) = [] := rfl
   rw [e, List.append_nil]
   exact hown
  ·obtain ⟨v', w', hr, q1, q2, q3⟩ := run_append_own (P := Tryz.prog) W base 28 o.type 55 i0 _ 3 40 Tryz.underlying28 hi hz0 hz1 hz2 rfl (by omega) v ys.length (encW.cells ys) hown ad m c (encW.cells zs) (by rw [encW.cells_len, hm]; rfl) hc hone (by unfold maxLen; omega) (by omega) hB
   refine ⟨v', w', hr, by rw [hm]; exact q1, q2, fun e => hne (q3.1 e).1⟩
 obtain ⟨v', w', hr, q1, q2, q3⟩ := key
 have hb : Below base W w' := (Below.refl _ _).grown q2 hB (fun j hj => (World.ownsRow.lt hown j hj).1)
 rcases q1.2 with ⟨hv, _⟩ | ⟨g', cap, cur, hv, _⟩
 ·exact absurd hv q3
 ·subst hv
  refine wpList_plain hgd fun K hK => ?_
  unfold Oper.wp execOp
  simp only [ho, resolve, invoke, builtin, Sem.run_bind, Sem.run_pure, Result.andThen_ok, List.map_toArray, List.map_cons, List.map_nil, hs, hx, hr]
  exact hK _ _ (h g' cap _ w' rfl q1 hb)

theorem gshape {α : Type} {E : Enc α} {e : TypeId} {W : World} {base : Nat} {v : Value} {l : List α} (h : GOwn E e W base v l) : v = .slice none 0 0 ∧ l = [] ∨ ∃ g cap, v = .slice (some ⟨g, 0, none⟩) l.length cap := by
 rcases h.2 with ⟨rfl, h0⟩ | ⟨g, cap, cur, rfl, _, _, hnc, _⟩
 ·exact Or.inl ⟨rfl, List.length_eq_zero_iff.1 h0⟩
 ·exact Or.inr ⟨g, cap, rfl⟩
theorem Lies.low {α : Type} {E : Enc α} {e : TypeId} {w w' : World} {lo hi B : Nat} {v : Value} {xs : List α} (h : Lies E e w lo hi v xs) (hb : Below B w w') (hB : hi ≤ B := by first | exact Nat.le_refl _ | omega) : Lies E e w' lo hi v xs := by
 refine ⟨?_, h.up⟩
 obtain ⟨h1, h2⟩ := h.own
 refine ⟨h1, ?_⟩
 rcases h2 with h2 | ⟨g, cap, cur, hv, hg', hh, r⟩
 ·exact Or.inl h2
 ·refine Or.inr ⟨g, cap, cur, hv, hg', ?_, r⟩
  have hup := h.up g (by rw [hv]; rfl)
  rw [hb.block g (by omega)]
  exact hh
theorem gsrc {α : Type} {E : Enc α} {e : TypeId} {W : World} {base c : Nat} {a : Option Addr} {l : List α} (h : GOwn E e W base (.slice a l.length c) l) : (a = none ∧ l.length = 0 ∧ c = 0) ∨ ∃ ad, a = some ad ∧ ∀ j u, (E.cells l)[j]? = some u → W.cell? (ad.add j) = some u := by
 rcases gshape h with ⟨e1, e2⟩ | ⟨g, cap, e1⟩
 ·subst e2
  cases e1
  exact Or.inl ⟨rfl, rfl, rfl⟩
 ·cases e1
  refine Or.inr ⟨_, rfl, fun j u hj => ?_⟩
  have hjl : j < l.length * E.size := by
   have := (List.getElem?_eq_some_iff.1 hj).1
   rw [E.cells_len] at this; exact this
  rw [Addr.add_lit, Nat.zero_add, World.ownsRow.cellAt h j hjl]
  exact hj

set_option maxRecDepth 100000 in
set_option maxHeartbeats 4000000 in
theorem scopyT (t : Tx) (ra wa : Option Addr) (rc wc : Nat) (lo m : Nat) (hr : t.rs.length ≤ 10000000) (hw : t.ws.length ≤ 10000000) (w : World) (h1 : GOwn encR 35 w lo (.slice ra t.rs.length rc) t.rs) (h2 : GOwn encW 55 w m (.slice wa t.ws.length wc) t.ws) :
  Calls Tryz.prog 78 #[.agg #[.int .i64 t.id, .int .i64 t.st, .int .i64 t.snap, .int .i64 t.cs, .slice ra t.rs.length rc, .slice wa t.ws.length wc, .bool t.out, .string t.nm]] w fun e w' => ∃ ra1 rc1 wa1 wc1, e = .returned (.agg #[.int .i64 t.id, .int .i64 t.st, .int .i64 t.snap, .int .i64 t.cs, .slice ra1 t.rs.length rc1, .slice wa1 t.ws.length wc1, .bool t.out, .string t.nm]) ∧ TLie w' w.heap.size w'.heap.size t ra1 rc1 wa1 wc1 ∧ Below w.heap.size w w' := by
 have BA0 : Hid (Bx (((w.alloc (.cells #[.int .i64 t.id, .int .i64 t.st, .int .i64 t.snap, .int .i64 t.cs, .slice ra t.rs.length rc, .slice wa t.ws.length wc, .bool t.out, .string t.nm] 30)).alloc (.cells #[.int .i64 0, .int .i64 0, .int .i64 0, .int .i64 0, .slice none 0 0, .slice none 0 0, .bool false, .string ⟨#[]⟩] 30)).alloc (.cells #[.int .i64 t.id, .int .i64 t.st, .int .i64 t.snap, .int .i64 t.cs, .slice ra t.rs.length rc, .slice wa t.ws.length wc, .bool t.out, .string t.nm] 30)) w.heap.size [.int .i64 t.id, .int .i64 t.st, .int .i64 t.snap, .int .i64 t.cs, .slice ra t.rs.length rc, .slice wa t.ws.length wc, .bool t.out, .string t.nm]) := ((Bx.new w [.int .i64 t.id, .int .i64 t.st, .int .i64 t.snap, .int .i64 t.cs, .slice ra t.rs.length rc, .slice wa t.ws.length wc, .bool t.out, .string t.nm] 30).alloc _).alloc _
 have BR0 : Hid (Bx (((w.alloc (.cells #[.int .i64 t.id, .int .i64 t.st, .int .i64 t.snap, .int .i64 t.cs, .slice ra t.rs.length rc, .slice wa t.ws.length wc, .bool t.out, .string t.nm] 30)).alloc (.cells #[.int .i64 0, .int .i64 0, .int .i64 0, .int .i64 0, .slice none 0 0, .slice none 0 0, .bool false, .string ⟨#[]⟩] 30)).alloc (.cells #[.int .i64 t.id, .int .i64 t.st, .int .i64 t.snap, .int .i64 t.cs, .slice ra t.rs.length rc, .slice wa t.ws.length wc, .bool t.out, .string t.nm] 30)) (w.heap.size + 1) [.int .i64 0, .int .i64 0, .int .i64 0, .int .i64 0, .slice none 0 0, .slice none 0 0, .bool false, .string ⟨#[]⟩]) := by
  have h := (Bx.new (w.alloc (.cells #[.int .i64 t.id, .int .i64 t.st, .int .i64 t.snap, .int .i64 t.cs, .slice ra t.rs.length rc, .slice wa t.ws.length wc, .bool t.out, .string t.nm] 30)) [.int .i64 0, .int .i64 0, .int .i64 0, .int .i64 0, .slice none 0 0, .slice none 0 0, .bool false, .string ⟨#[]⟩] 30).alloc (.cells #[.int .i64 t.id, .int .i64 t.st, .int .i64 t.snap, .int .i64 t.cs, .slice ra t.rs.length rc, .slice wa t.ws.length wc, .bool t.out, .string t.nm] 30)
  rw [show (w.alloc (.cells #[.int .i64 t.id, .int .i64 t.st, .int .i64 t.snap, .int .i64 t.cs, .slice ra t.rs.length rc, .slice wa t.ws.length wc, .bool t.out, .string t.nm] 30)).heap.size = w.heap.size + 1 by simp] at h
  exact h
 have BO0 : Hid (Bx (((w.alloc (.cells #[.int .i64 t.id, .int .i64 t.st, .int .i64 t.snap, .int .i64 t.cs, .slice ra t.rs.length rc, .slice wa t.ws.length wc, .bool t.out, .string t.nm] 30)).alloc (.cells #[.int .i64 0, .int .i64 0, .int .i64 0, .int .i64 0, .slice none 0 0, .slice none 0 0, .bool false, .string ⟨#[]⟩] 30)).alloc (.cells #[.int .i64 t.id, .int .i64 t.st, .int .i64 t.snap, .int .i64 t.cs, .slice ra t.rs.length rc, .slice wa t.ws.length wc, .bool t.out, .string t.nm] 30)) (w.heap.size + 1 + 1) [.int .i64 t.id, .int .i64 t.st, .int .i64 t.snap, .int .i64 t.cs, .slice ra t.rs.length rc, .slice wa t.ws.length wc, .bool t.out, .string t.nm]) := by
  have h := Bx.new ((w.alloc (.cells #[.int .i64 t.id, .int .i64 t.st, .int .i64 t.snap, .int .i64 t.cs, .slice ra t.rs.length rc, .slice wa t.ws.length wc, .bool t.out, .string t.nm] 30)).alloc (.cells #[.int .i64 0, .int .i64 0, .int .i64 0, .int .i64 0, .slice none 0 0, .slice none 0 0, .bool false, .string ⟨#[]⟩] 30)) [.int .i64 t.id, .int .i64 t.st, .int .i64 t.snap, .int .i64 t.cs, .slice ra t.rs.length rc, .slice wa t.ws.length wc, .bool t.out, .string t.nm] 30
  rw [show ((w.alloc (.cells #[.int .i64 t.id, .int .i64 t.st, .int .i64 t.snap, .int .i64 t.cs, .slice ra t.rs.length rc, .slice wa t.ws.length wc, .bool t.out, .string t.nm] 30)).alloc (.cells #[.int .i64 0, .int .i64 0, .int .i64 0, .int .i64 0, .slice none 0 0, .slice none 0 0, .bool false, .string ⟨#[]⟩] 30)).heap.size = w.heap.size + 1 + 1 by simp] at h
  exact h
 have HB0 : Hid (Below w.heap.size w (((w.alloc (.cells #[.int .i64 t.id, .int .i64 t.st, .int .i64 t.snap, .int .i64 t.cs, .slice ra t.rs.length rc, .slice wa t.ws.length wc, .bool t.out, .string t.nm] 30)).alloc (.cells #[.int .i64 0, .int .i64 0, .int .i64 0, .int .i64 0, .slice none 0 0, .slice none 0 0, .bool false, .string ⟨#[]⟩] 30)).alloc (.cells #[.int .i64 t.id, .int .i64 t.st, .int .i64 t.snap, .int .i64 t.cs, .slice ra t.rs.length rc, .slice wa t.ws.length wc, .bool t.out, .string t.nm] 30))) := (((belowRefl w).alloc (Nat.le_refl _) _).alloc (by simp) _).alloc (by simp; omega) _
 have S0 : Hid ((((w.alloc (.cells #[.int .i64 t.id, .int .i64 t.st, .int .i64 t.snap, .int .i64 t.cs, .slice ra t.rs.length rc, .slice wa t.ws.length wc, .bool t.out, .string t.nm] 30)).alloc (.cells #[.int .i64 0, .int .i64 0, .int .i64 0, .int .i64 0, .slice none 0 0, .slice none 0 0, .bool false, .string ⟨#[]⟩] 30)).alloc (.cells #[.int .i64 t.id, .int .i64 t.st, .int .i64 t.snap, .int .i64 t.cs, .slice ra t.rs.length rc, .slice wa t.ws.length wc, .bool t.out, .string t.nm] 30)).heap.size = w.heap.size + 1 + 1 + 1) := by show _ = _; simp
 have P1 : Hid (GOwn encR 35 w lo (.slice ra t.rs.length rc) t.rs) := h1
 have P2 : Hid (GOwn encW 55 w m (.slice wa t.ws.length wc) t.ws) := h2
 clear h1 h2
 have HE : Hid (GOwn encR 35 ((((w.alloc (.cells #[.int .i64 t.id, .int .i64 t.st, .int .i64 t.snap, .int .i64 t.cs, .slice ra t.rs.length rc, .slice wa t.ws.length wc, .bool t.out, .string t.nm] 30)).alloc (.cells #[.int .i64 0, .int .i64 0, .int .i64 0, .int .i64 0, .slice none 0 0, .slice none 0 0, .bool false, .string ⟨#[]⟩] 30)).alloc (.cells #[.int .i64 t.id, .int .i64 t.st, .int .i64 t.snap, .int .i64 t.cs, .slice ra t.rs.length rc, .slice wa t.ws.length wc, .bool t.out, .string t.nm] 30)).alloc (.cells #[] 35)) (w.heap.size + 1 + 1 + 1) (.slice (some ⟨w.heap.size + 1 + 1 + 1, 0, none⟩) 0 0) []) := by
  have h := GOwn.empty (E := encR) (e := 35) (((w.alloc (.cells #[.int .i64 t.id, .int .i64 t.st, .int .i64 t.snap, .int .i64 t.cs, .slice ra t.rs.length rc, .slice wa t.ws.length wc, .bool t.out, .string t.nm] 30)).alloc (.cells #[.int .i64 0, .int .i64 0, .int .i64 0, .int .i64 0, .slice none 0 0, .slice none 0 0, .bool false, .string ⟨#[]⟩] 30)).alloc (.cells #[.int .i64 t.id, .int .i64 t.st, .int .i64 t.snap, .int .i64 t.cs, .slice ra t.rs.length rc, .slice wa t.ws.length wc, .bool t.out, .string t.nm] 30)) (w.heap.size + 1 + 1 + 1) (by rw [S0.out]; exact Nat.le_refl _)
  rw [S0.out] at h
  exact h
 have HB0e : Hid (Below w.heap.size w ((((w.alloc (.cells #[.int .i64 t.id, .int .i64 t.st, .int .i64 t.snap, .int .i64 t.cs, .slice ra t.rs.length rc, .slice wa t.ws.length wc, .bool t.out, .string t.nm] 30)).alloc (.cells #[.int .i64 0, .int .i64 0, .int .i64 0, .int .i64 0, .slice none 0 0, .slice none 0 0, .bool false, .string ⟨#[]⟩] 30)).alloc (.cells #[.int .i64 t.id, .int .i64 t.st, .int .i64 t.snap, .int .i64 t.cs, .slice ra t.rs.length rc, .slice wa t.ws.length wc, .bool t.out, .string t.nm] 30)).alloc (.cells #[] 35))) := HB0.out.alloc HB0.out.size _
 have P1e := hide (gsrc (P1.out.below HB0e.out))
 have x4 := (BA0.out.alloc (.cells #[] 35)).c4
 have sz1 : w.heap.size + 1 + 1 + 1 ≤ ((((w.alloc (.cells #[.int .i64 t.id, .int .i64 t.st, .int .i64 t.snap, .int .i64 t.cs, .slice ra t.rs.length rc, .slice wa t.ws.length wc, .bool t.out, .string t.nm] 30)).alloc (.cells #[.int .i64 0, .int .i64 0, .int .i64 0, .int .i64 0, .slice none 0 0, .slice none 0 0, .bool false, .string ⟨#[]⟩] 30)).alloc (.cells #[.int .i64 t.id, .int .i64 t.st, .int .i64 t.snap, .int .i64 t.cs, .slice ra t.rs.length rc, .slice wa t.ws.length wc, .bool t.out, .string t.nm] 30)).alloc (.cells #[] 35)).heap.size := by rw [World.size_alloc, S0.out]; omega
 go_enter Tryz.func78, Tryz.ntmps78
 go_wp2_with (at_builtin; refine wpAppRowR (v := .slice (some ⟨w.heap.size + 1 + 1 + 1, 0, none⟩) 0 0) rfl _ _ rfl rfl HE.out rfl P1e.out rfl (by simp; omega) sz1 (fun h => by cases h) ?_)
 intro g1 cap1 L1 w1 hL1 ho1 hb1
 obtain rfl : L1 = t.rs.length := by simpa using hL1
 have BA1 := hide ((BA0.out.alloc (.cells #[] 35)).belowB hb1 (by omega))
 have BR1 := hide ((BR0.out.alloc (.cells #[] 35)).belowB hb1 (by omega))
 have BO1 := hide ((BO0.out.alloc (.cells #[] 35)).belowB hb1 (by omega))
 have HBe : Hid (Below (w.heap.size + 1 + 1 + 1) (((w.alloc (.cells #[.int .i64 t.id, .int .i64 t.st, .int .i64 t.snap, .int .i64 t.cs, .slice ra t.rs.length rc, .slice wa t.ws.length wc, .bool t.out, .string t.nm] 30)).alloc (.cells #[.int .i64 0, .int .i64 0, .int .i64 0, .int .i64 0, .slice none 0 0, .slice none 0 0, .bool false, .string ⟨#[]⟩] 30)).alloc (.cells #[.int .i64 t.id, .int .i64 t.st, .int .i64 t.snap, .int .i64 t.cs, .slice ra t.rs.length rc, .slice wa t.ws.length wc, .bool t.out, .string t.nm] 30)) w1) := by
  have h := (belowRefl (((w.alloc (.cells #[.int .i64 t.id, .int .i64 t.st, .int .i64 t.snap, .int .i64 t.cs, .slice ra t.rs.length rc, .slice wa t.ws.length wc, .bool t.out, .string t.nm] 30)).alloc (.cells #[.int .i64 0, .int .i64 0, .int .i64 0, .int .i64 0, .slice none 0 0, .slice none 0 0, .bool false, .string ⟨#[]⟩] 30)).alloc (.cells #[.int .i64 t.id, .int .i64 t.st, .int .i64 t.snap, .int .i64 t.cs, .slice ra t.rs.length rc, .slice wa t.ws.length wc, .bool t.out, .string t.nm] 30))).alloc (Nat.le_refl _) (.cells #[] 35)
  rw [S0.out] at h
  exact h.trans hb1
 have HB1 : Hid (Below w.heap.size w w1) := HB0.out.trans (HBe.out.mono (by omega))
 have hs1 := HBe.out.size
 rw [S0.out] at hs1
 have SZ1 : Hid (w.heap.size + 1 + 1 + 1 ≤ w1.heap.size) := hs1
 have L1 : Hid (Lies encR 35 w1 (w.heap.size + 1 + 1 + 1) w1.heap.size (.slice (some ⟨g1, 0, none⟩) t.rs.length cap1) t.rs) := Lies.of ho1
 clear hL1 ho1 hb1 hs1 HBe HE P1e P1 x4 BA0 BR0 BO0 HB0 HB0e sz1
 have o4 := BO1.out.c4
 have f4 := BO1.out.fz 4
 have x5 := ((BA1.out.setO (p := ⟨w.heap.size + 1 + 1, 4, none⟩) (by show w.heap.size + 1 + 1 ≠ w.heap.size; omega) (.slice (some ⟨g1, 0, none⟩) t.rs.length cap1)).alloc (.cells #[] 55)).c5
 have ZS : Hid ((w1.setCell ⟨w.heap.size + 1 + 1, 4, none⟩ (.slice (some ⟨g1, 0, none⟩) t.rs.length cap1)).heap.size = w1.heap.size) := by show _ = _; simp [World.setCell]
 have HE2 : Hid (GOwn encW 55 ((w1.setCell ⟨w.heap.size + 1 + 1, 4, none⟩ (.slice (some ⟨g1, 0, none⟩) t.rs.length cap1)).alloc (.cells #[] 55)) w1.heap.size (.slice (some ⟨w1.heap.size, 0, none⟩) 0 0) []) := by
  have h := GOwn.empty (E := encW) (e := 55) (w1.setCell ⟨w.heap.size + 1 + 1, 4, none⟩ (.slice (some ⟨g1, 0, none⟩) t.rs.length cap1)) w1.heap.size (by rw [ZS.out]; exact Nat.le_refl _)
  rw [ZS.out] at h
  exact h
 have HB1s : Hid (Below w.heap.size w (w1.setCell ⟨w.heap.size + 1 + 1, 4, none⟩ (.slice (some ⟨g1, 0, none⟩) t.rs.length cap1))) := HB1.out.setCell (by show _ ≤ _ + 1 + 1; omega) _
 have P2e := hide (gsrc (P2.out.below (HB1s.out.alloc HB1s.out.size (.cells #[] 55))))
 have BR1s : Hid (Bx (w1.setCell ⟨w.heap.size + 1 + 1, 4, none⟩ (.slice (some ⟨g1, 0, none⟩) t.rs.length cap1)) (w.heap.size + 1) [.int .i64 0, .int .i64 0, .int .i64 0, .int .i64 0, .slice none 0 0, .slice none 0 0, .bool false, .string ⟨#[]⟩]) := BR1.out.setO (by show w.heap.size + 1 + 1 ≠ w.heap.size + 1; omega) _
 have BO1s : Hid (Bx (w1.setCell ⟨w.heap.size + 1 + 1, 4, none⟩ (.slice (some ⟨g1, 0, none⟩) t.rs.length cap1)) (w.heap.size + 1 + 1) [.int .i64 t.id, .int .i64 t.st, .int .i64 t.snap, .int .i64 t.cs, .slice (some ⟨g1, 0, none⟩) t.rs.length cap1, .slice wa t.ws.length wc, .bool t.out, .string t.nm]) := BO1.out.set 4 _
 have L1s : Hid (Lies encR 35 (w1.setCell ⟨w.heap.size + 1 + 1, 4, none⟩ (.slice (some ⟨g1, 0, none⟩) t.rs.length cap1)) (w.heap.size + 1 + 1 + 1) w1.heap.size (.slice (some ⟨g1, 0, none⟩) t.rs.length cap1) t.rs) := L1.out.set (by show _ + 1 + 1 < _; omega) _
 have sz2 : w1.heap.size ≤ ((w1.setCell ⟨w.heap.size + 1 + 1, 4, none⟩ (.slice (some ⟨g1, 0, none⟩) t.rs.length cap1)).alloc (.cells #[] 55)).heap.size := by rw [World.size_alloc, ZS.out]; omega
 go_wp2_with (at_builtin; refine wpAppRowW (v := .slice (some ⟨w1.heap.size, 0, none⟩) 0 0) rfl _ _ rfl rfl HE2.out rfl P2e.out rfl (by simp; omega) sz2 (fun h => by cases h) ?_)
 intro g2 cap2 L2 w2 hL2 ho2 hb2
 obtain rfl : L2 = t.ws.length := by simpa using hL2
 have BR2 := hide ((BR1s.out.alloc (.cells #[] 55)).belowB hb2 (by have := SZ1.out; omega))
 have BO2 := hide ((BO1s.out.alloc (.cells #[] 55)).belowB hb2 (by have := SZ1.out; omega))
 have HB2 : Hid (Below w.heap.size w w2) := (HB1s.out.alloc HB1s.out.size _).trans (hb2.mono (by have := SZ1.out; omega))
 have L1t := L1s.out.below ((belowRefl (w1.setCell ⟨w.heap.size + 1 + 1, 4, none⟩ (.slice (some ⟨g1, 0, none⟩) t.rs.length cap1))).alloc (Nat.le_refl _) (.cells #[] 55))
 have L1u : Hid (Lies encR 35 w2 (w.heap.size + 1 + 1 + 1) w1.heap.size (.slice (some ⟨g1, 0, none⟩) t.rs.length cap1) t.rs) := L1t.low hb2
 have SZ2 : Hid (w1.heap.size ≤ w2.heap.size) := Nat.le_trans sz2 hb2.size
 have L2 : Hid (TLie w2 (w.heap.size + 1 + 1 + 1) w2.heap.size t (some ⟨g1, 0, none⟩) cap1 (some ⟨g2, 0, none⟩) cap2) := ⟨w1.heap.size, SZ1.out, SZ2.out, L1u.out, Lies.of ho2⟩
 clear hL2 ho2 hb2 HE2 P2e x5 o4 f4 BA1 BR1 BO1 BR1s BO1s L1 L1s L1t L1u HB1 HB1s sz2
 have o0 := BO2.out.c0
 have q0 := BR2.out.c0
 have fq0 := BR2.out.fz 0
 have o1 := BO2.out.c1
 have q1 := BR2.out.c1
 have fq1 := BR2.out.fz 1
 have o2 := BO2.out.c2
 have q2 := BR2.out.c2
 have fq2 := BR2.out.fz 2
 have o3 := BO2.out.c3
 have q3 := BR2.out.c3
 have fq3 := BR2.out.fz 3
 have o4 := BO2.out.c4
 have q4 := BR2.out.c4
 have fq4 := BR2.out.fz 4
 have o5 := BO2.out.c5
 have q5 := BR2.out.c5
 have fq5 := BR2.out.fz 5
 have o6 := BO2.out.c6
 have q6 := BR2.out.c6
 have fq6 := BR2.out.fz 6
 have o7 := BO2.out.c7
 have q7 := BR2.out.c7
 have fq7 := BR2.out.fz 7
 have f5 := BO2.out.fz 5
 go_wp2
 refine bodyPost_ret (v := .agg #[.int .i64 t.id, .int .i64 t.st, .int .i64 t.snap, .int .i64 t.cs, .slice (some ⟨g1, 0, none⟩) t.rs.length cap1, .slice (some ⟨g2, 0, none⟩) t.ws.length cap2, .bool t.out, .string t.nm]) (by simp [results, Tryz.results78, go_sem, q0, q1, q2, q3, q4, q5, q6, q7]) rfl ⟨_, cap1, _, cap2, rfl, ?_, ?_⟩
 ·exact (((((((((L2.out.set (by show _ + 1 + 1 < _; omega) _).set (by show _ + 1 < _; omega) _).set (by show _ + 1 < _; omega) _).set (by show _ + 1 < _; omega) _).set (by show _ + 1 < _; omega) _).set (by show _ + 1 < _; omega) _).set (by show _ + 1 < _; omega) _).set (by show _ + 1 < _; omega) _).set (by show _ + 1 < _; omega) _).mono (by omega) (by simp [World.setCell])
 ·exact (((((((((HB2.out.setCell (by show _ ≤ _ + 1 + 1; omega) _).setCell (by show _ ≤ _ + 1; omega) _).setCell (by show _ ≤ _ + 1; omega) _).setCell (by show _ ≤ _ + 1; omega) _).setCell (by show _ ≤ _ + 1; omega) _).setCell (by show _ ≤ _ + 1; omega) _).setCell (by show _ ≤ _ + 1; omega) _).setCell (by show _ ≤ _ + 1; omega) _).setCell (by show _ ≤ _ + 1; omega) _)

end Go.Proofs.YtbajpnbodhhmjaaGreat

namespace Go.Proofs.YtbajpnbodhhmjaaGreat
open Go.RowKit
open KM
attribute [local go_sem ↓] Go.wp_at_zero Go.wp_at_succ

set_option maxRecDepth 100000 in
set_option maxHeartbeats 1000000 in
theorem long71 (n : Nat) (x : UInt8) (hn : n ≤ 30000) (w : World) :
  Calls Tryz.prog 85 #[.int .i64 (n : Int), .int .u8 (x.toNat : Int)] w fun e w' => e = .returned (.string (longB n x)) ∧ Below w.heap.size w w' := by
 have hmk := mkRow 22 5 1 1 _ Tryz.underlying22 Tryz.info5 n (by omega) (by omega)
 go_enter Tryz.func85, Tryz.ntmps85
 go_wp2
 clear hmk
 have HO : Hid ((w.alloc (.cells (madeCells #[Value.int .u8 0] n) 5)).ownsRow w.heap.size 5 1 (.slice (some ⟨w.heap.size, 0, none⟩) n n) n (madeCells #[Value.int .u8 0] n).toList) :=
  World.ownsRow_lit w _ _ (Nat.le_refl _) (by unfold maxLen; omega) (by rw [size_madeCells, Nat.mul_one])
 go_loopw [6] (fun t wr => ∃ (k : Nat) (xs : List Value), k ≤ n ∧ t = .int .i64 k ∧ Hid (wr.ownsRow w.heap.size 5 1 (.slice (some ⟨w.heap.size, 0, none⟩) n n) n xs) ∧ Hid (∀ j, j < k → xs[j]? = some (.int .u8 (x.toNat : Int))) ∧ Hid (Below w.heap.size w wr)) (fun t _ => n - (intOf t).toNat)
 case atStart => exact ⟨0, _, Nat.zero_le _, rfl, HO, fun j hj => by omega, (belowRefl w).alloc (Nat.le_refl _) _⟩
 case round =>
  obtain ⟨k, xs, hk, rfl, HX, HA, HB⟩ := hrel
  by_cases hlt : k < n
  ·have hlt' : (k : Int) < (n : Int) := by omega
   have h0 : (0 : Int) ≤ (k : Int) := by omega
   have hlen := HX.out.1
   have hq : wr.cell? ⟨w.heap.size, k, none⟩ = some (xs[k]'(by omega)) := by rw [World.ownsRow.cellAt HX.out k (by omega)]; simp
   have hfz := World.ownsRow.frozenAt HX.out k
   have st := World.ownsRow.stored HX.out k (.int .u8 (x.toNat : Int))
   have HX3 : Hid _ := st.1
   have HA2 : Hid (∀ j, j < k + 1 → (xs.set k (.int .u8 (x.toNat : Int)))[j]? = some (.int .u8 (x.toNat : Int))) := fun j hj => by
    by_cases e : j = k
    ·subst e; rw [List.getElem?_set_self (by omega)]
    ·rw [List.getElem?_set_ne (by omega)]; exact HA.out j (by omega)
   clear st
   go_wp2
   go_roundw
   case rel => exact ⟨k + 1, _, by omega, by go_num, HX3, HA2, HB.out.setCell (Nat.le_refl _) _⟩
   case measure => simp [intOf]; omega
  ·have hlt' : ¬ (k : Int) < (n : Int) := by omega
   have HOw : Own wr w.heap.size (.slice (some ⟨w.heap.size, 0, none⟩) n n) (List.replicate n x) := by
    have e : xs = bv (List.replicate n x) := by
     apply List.ext_getElem?
     intro j
     have hlen := HX.out.1
     by_cases hj : j < n
     ·rw [HA.out j (by omega)]; simp [bv, hj]
     ·rw [List.getElem?_eq_none (by omega), List.getElem?_eq_none (by rw [bv_len]; simp; omega)]
    unfold Own
    rw [← e, List.length_replicate]
    exact HX.out
   have hst := HOw.str
   clear HOw
   go_wp2
   go_ret
   exact ⟨rfl, HB.out⟩

set_option maxRecDepth 100000 in
set_option maxHeartbeats 2000000 in
theorem drAny (g len cap : Nat) (a : Option Addr) (w : World) (hc : CurI w g a len cap) :
  Calls Tryz.prog 79 #[.pointer (some ⟨g, 0, none⟩)] w fun e w' => ∃ x : Wt, WtA x ∧ e = .returned (.agg #[.string x.1, .string x.2.1, .bool x.2.2]) ∧ Dn w w' g a len cap := by
 have HC : Hid (CurI w g a len cap) := hc
 have hgl : g < w.heap.size := hc.lt
 have hne : w.heap.size ≠ g := Nat.ne_of_gt hc.lt
 clear hc
 go_enter Tryz.func79, Tryz.ntmps79
 go_wp2_with fail
 refine (drWrite g len cap a _ (HC.out.alloc _)).mono ?_
 rintro e w1 ⟨x, hx, rfl, d1⟩
 have D1 : Hid (Dn w w1 g a len cap) := ((Dn.start HC.out).alloc _).step d1
 have B1 : Hid (Bx w1 w.heap.size [.string ⟨#[]⟩, .string ⟨#[]⟩, .bool false]) := (Bx.new w [.string ⟨#[]⟩, .string ⟨#[]⟩, .bool false] 55).keptD d1 hne
 have s1 : w.heap.size < w1.heap.size := B1.out.lt
 have HX : Hid (x.1.size ≤ 3 ∧ x.2.1.size ≤ 3) := hx.2
 have X1 : Hid (Bx (w1.alloc (.cells #[.string x.1, .string x.2.1, .bool x.2.2] 55)) w1.heap.size [.string x.1, .string x.2.1, .bool x.2.2]) := Bx.new w1 _ 55
 clear d1 hx
 go_wp2_with fail
 refine (drBelow g len cap a 8 (by omega) (by omega) _ (D1.out.c.alloc _)).mono ?_
 rintro e w2 ⟨n, hn, rfl, d2⟩
 have D2 : Hid (Dn w w2 g a len cap) := (D1.out.alloc _).step d2
 have B2 : Hid (Bx w2 w.heap.size [.string ⟨#[]⟩, .string ⟨#[]⟩, .bool false]) := (B1.out.alloc _).keptD d2 hne
 have X2 : Hid (Bx w2 w1.heap.size [.string x.1, .string x.2.1, .bool x.2.2]) := X1.out.keptD d2 (by omega)
 have s2 : w1.heap.size < w2.heap.size := X2.out.lt
 clear d2 B1 X1
 have hX : w1.heap.size ≠ w.heap.size := by omega
 by_cases h0 : n = 0
 ·have h0' : ((n : Int) == 0) = true := by simp; omega
  clear h0
  go_wp2_with fail
  refine (drPickN g len cap a keyA 4 w2.heap.size 4 rfl (by omega) (by omega) _ (D2.out.c.alloc _) (by omega) (Bx.new w2 (keyA.map Value.string) 9)).mono ?_
  rintro e w3 ⟨s, hs, rfl, d3⟩
  have D3 : Hid (Dn w w3 g a len cap) := (D2.out.alloc _).step d3
  have B3 : Hid (Bx w3 w.heap.size [.string ⟨#[]⟩, .string ⟨#[]⟩, .bool false]) := (B2.out.alloc _).keptD d3 hne
  have X3 : Hid (Bx w3 w1.heap.size [.string x.1, .string x.2.1, .bool x.2.2]) := (X2.out.alloc _).keptD d3 (by omega)
  have HS : Hid (s.size ≤ 4) := keyA_ok s hs
  clear d3 hs
  have c0 := B3.out.c0
  have c1 := B3.out.c1
  have c2 := B3.out.c2
  have fz := B3.out.fz
  have x0 := X3.out.c0
  have x1 := X3.out.c1
  have x2 := X3.out.c2
  have xf := X3.out.fz
  go_wp2
  have BF := (((B3.out.setO (p := ⟨w1.heap.size, 0, none⟩) (by omega) (.string s)).set 0 (.string s)).set 1 (.string x.2.1)).set 2 (.bool x.2.2)
  have e0 := BF.c0
  have e1 := BF.c1
  have e2 := BF.c2
  exact bodyPost_ret (v := .agg #[.string s, .string x.2.1, .bool x.2.2]) (by simp [results, Tryz.results79, go_sem, e0, e1, e2]) rfl ⟨(s, x.2.1, x.2.2), ⟨HS.out, by have := HX.out.2; show x.2.1.size ≤ 13; omega⟩, rfl, (((D3.out.set (p := ⟨w1.heap.size, 0, none⟩) (by show _ ≤ w1.heap.size; omega) _).set (Nat.le_refl _) _).set (Nat.le_refl _) _).set (Nat.le_refl _) _⟩
 have h0' : ((n : Int) == 0) = false := by simp; omega
 by_cases h1 : n = 1
 ·have h1' : ((n : Int) == 1) = true := by simp; omega
  clear h0 h1
  go_wp2_with fail
  refine (drBelow g len cap a 2 (by omega) (by omega) _ D2.out.c).mono ?_
  rintro e w3 ⟨m, hm, rfl, d3⟩
  have D3 : Hid (Dn w w3 g a len cap) := D2.out.step d3
  have B3 : Hid (Bx w3 w.heap.size [.string ⟨#[]⟩, .string ⟨#[]⟩, .bool false]) := B2.out.keptD d3 hne
  have X3 : Hid (Bx w3 w1.heap.size [.string x.1, .string x.2.1, .bool x.2.2]) := X2.out.keptD d3 (by omega)
  clear d3
  obtain ⟨q, hq⟩ : ∃ q, q = 12 + m := ⟨_, rfl⟩
  have e9 : IntKind.i64.wrap (12 + (m : Int)) = (q : Int) := by rw [IntKind.wrap_i64]; omega
  have e10 : (12 : Int) + (m : Int) = (q : Int) := by omega
  have e11 : IntKind.i64.wrap (q : Int) = (q : Int) := by rw [IntKind.wrap_i64]; omega
  have C4 : Hid (∀ w, Calls Tryz.prog 85 #[.int .i64 (q : Int), .int .u8 97] w fun e w' => e = .returned (.string (longB q 97)) ∧ Below w.heap.size w w') := fun w => long71 q 97 (by omega) w
  have HS : Hid ((longB q 97).size ≤ 13) := by show _ ≤ _; rw [long_size]; omega
  clear hq
  go_wp2_with fail
  refine (C4.out _).mono ?_
  rintro e w4 ⟨rfl, hb4⟩
  have D4 : Hid (Dn w w4 g a len cap) := D3.out.below hb4
  have B4 : Hid (Bx w4 w.heap.size [.string ⟨#[]⟩, .string ⟨#[]⟩, .bool false]) := B3.out.below hb4
  have X4 : Hid (Bx w4 w1.heap.size [.string x.1, .string x.2.1, .bool x.2.2]) := X3.out.below hb4
  clear hb4
  generalize longB q 97 = s at *
  have c0 := B4.out.c0
  have c1 := B4.out.c1
  have c2 := B4.out.c2
  have fz := B4.out.fz
  have x0 := X4.out.c0
  have x1 := X4.out.c1
  have x2 := X4.out.c2
  have xf := X4.out.fz
  go_wp2
  have BF := (((B4.out.setO (p := ⟨w1.heap.size, 1, none⟩) (by omega) (.string s)).set 0 (.string x.1)).set 1 (.string s)).set 2 (.bool x.2.2)
  have e0 := BF.c0
  have e1 := BF.c1
  have e2 := BF.c2
  exact bodyPost_ret (v := .agg #[.string x.1, .string s, .bool x.2.2]) (by simp [results, Tryz.results79, go_sem, e0, e1, e2]) rfl ⟨(x.1, s, x.2.2), ⟨by have := HX.out.1; show x.1.size ≤ 4; omega, HS.out⟩, rfl, (((D4.out.set (p := ⟨w1.heap.size, 1, none⟩) (by show _ ≤ w1.heap.size; omega) _).set (Nat.le_refl _) _).set (Nat.le_refl _) _).set (Nat.le_refl _) _⟩
 have h1' : ((n : Int) == 1) = false := by simp; omega
 have c0 := B2.out.c0
 have c1 := B2.out.c1
 have c2 := B2.out.c2
 have fz := B2.out.fz
 have x0 := X2.out.c0
 have x1 := X2.out.c1
 have x2 := X2.out.c2
 have xf := X2.out.fz
 by_cases h2 : n = 2
 ·have h2' : ((n : Int) == 2) = true := by simp; omega
  clear h0 h1 h2
  go_wp2
  have BF := (((B2.out.setO (p := ⟨w1.heap.size, 2, none⟩) (by omega) (.bool true)).set 0 (.string x.1)).set 1 (.string x.2.1)).set 2 (.bool true)
  have e0 := BF.c0
  have e1 := BF.c1
  have e2 := BF.c2
  exact bodyPost_ret (v := .agg #[.string x.1, .string x.2.1, .bool true]) (by simp [results, Tryz.results79, go_sem, e0, e1, e2]) rfl ⟨(x.1, x.2.1, true), ⟨by have := HX.out.1; show x.1.size ≤ 4; omega, by have := HX.out.2; show x.2.1.size ≤ 13; omega⟩, rfl, (((D2.out.set (p := ⟨w1.heap.size, 2, none⟩) (by show _ ≤ w1.heap.size; omega) _).set (Nat.le_refl _) _).set (Nat.le_refl _) _).set (Nat.le_refl _) _⟩
 ·have h2' : ((n : Int) == 2) = false := by simp; omega
  clear h0 h1 h2
  go_wp2
  have BF := ((B2.out.set 0 (.string x.1)).set 1 (.string x.2.1)).set 2 (.bool x.2.2)
  have e0 := BF.c0
  have e1 := BF.c1
  have e2 := BF.c2
  exact bodyPost_ret (v := .agg #[.string x.1, .string x.2.1, .bool x.2.2]) (by simp [results, Tryz.results79, go_sem, e0, e1, e2]) rfl ⟨x, ⟨by have := HX.out.1; omega, by have := HX.out.2; omega⟩, rfl, ((D2.out.set (Nat.le_refl _) _).set (Nat.le_refl _) _).set (Nat.le_refl _) _⟩

end Go.Proofs.YtbajpnbodhhmjaaGreat

namespace Go.Proofs.YtbajpnbodhhmjaaGreat
open Go.RowKit
open KM
attribute [local go_sem ↓] Go.wp_at_zero Go.wp_at_succ

structure TxA (t : Tx) : Prop where
 fit : TFit t
 rl : t.rs.length ≤ 4
 wl : t.ws.length ≤ 4
theorem TxD.fit {t : Tx} (h : TxD t) : TFit t := ⟨Nat.le_trans h.rl (by omega), h.rs.fit, Nat.le_trans h.wl (by omega), h.ws.fit, h.nm⟩
theorem TxD.any {t : Tx} (h : TxD t) : TxA t := ⟨h.fit, Nat.le_trans h.rl (by omega), Nat.le_trans h.wl (by omega)⟩
theorem rfit_more {rs : List Rg} (h : RFit rs) {r : Rg} (h1 : r.1.size ≤ 1048576 ∧ r.2.size ≤ 1048576) : RFit (rs ++ [r]) := fun x hx => by
 rcases List.mem_append.1 hx with h2 | h2
 ·exact h x h2
 ·rw [List.mem_singleton.1 h2]; exact h1
theorem wfit_more {ws : List Wt} (h : WFit ws) {x : Wt} (h1 : x.1.size ≤ 1048576 ∧ x.2.1.size ≤ 1048576) : WFit (ws ++ [x]) := fun y hy => by
 rcases List.mem_append.1 hy with h2 | h2
 ·exact h y h2
 ·rw [List.mem_singleton.1 h2]; exact h1

theorem Lies.marked2 {α : Type} {E : Enc α} {e : TypeId} {w w' : World} {lo hi : Nat} {v : Value} {row : Option Nat} {xs : List α} (h : Lies E e w lo hi v xs) (hg : w.grownBy w' row) (hne : ∀ g, row = some g → g < lo ∨ hi ≤ g) : Lies E e w' lo hi v xs := by
 refine ⟨?_, h.up⟩
 obtain ⟨h1, h2⟩ := h.own
 refine ⟨h1, ?_⟩
 rcases h2 with h2 | ⟨g, cap, cur, hv, hg', hh, r⟩
 ·exact Or.inl h2
 ·refine Or.inr ⟨g, cap, cur, hv, hg', ?_, r⟩
  have hlt : g < w.heap.size := (Array.getElem?_eq_some_iff.1 hh).1
  have hup := h.up g (by rw [hv]; rfl)
  rw [hg.block g hlt (fun e => by have := hne g e.symm; omega)]
  exact hh

end Go.Proofs.YtbajpnbodhhmjaaGreat

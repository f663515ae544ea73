/- What spec.PlayOne makes of ascending cells. -/
import Derived.Test.YtnmggknpllnjiaaGreatPt28
import Derived.Test.YtnmggknpllnjiaaGreatPt22
import Derived.Deep.Cut
import Derived.Deep.RegionHeld3
import Derived.BigQuiet
import Derived.Test.YtnmggknpllnjiaaGreatProg
import Derived.WalkKit
import Derived.Test.YtnmggknpllnjiaaGreatPt01
import Derived.WalkSpells
import Derived.WalkLawsBesides
import Derived.Deep.QuietTactic
import Derived.Deep.DrawnRows
import Derived.Deep.AppendLies
import Derived.Test.YtnmggknpllnjiaaGreatPt02
import Derived.Test.YtnmggknpllnjiaaGreatPt03
import Derived.Deep.RegionHeld
import Derived.Sort.OwnSorted
import Derived.Lib.RowBridge
import Derived.Test.YtnmggknpllnjiaaGreatPt04
import Derived.Test.YtnmggknpllnjiaaGreatPt05
import Derived.Test.YtnmggknpllnjiaaGreatPt06
import Derived.Test.YtnmggknpllnjiaaGreatPt18
namespace Go.Proofs.YtnmggknpllnjiaaGreat
open Go.RowKit
open KM
open VM
attribute [local go_sem ↓] Go.wp_at_zero Go.wp_at_succ

def preC (m : List Rg) (x : Wt) : List Rg := m.filter (fun c => lt c.1 x.1) ++ (if x.2.2 = true then [] else [(x.1, x.2.1)])
theorem lt_no {a b c : ByteArray} (h1 : lt a b = true) (h2 : lt a c = false) : lt b c = false := by
 cases h : lt b c with
 | false => rfl
 | true => have h3 : lt a c = true := less_trans _ _ _ h1 h; rw [h3] at h2; cases h2
theorem gone_put {m : List Rg} (h : AscC m) (k : ByteArray) : m.filter (fun c => lt c.1 k) ++ m.filter (fun c => lt k c.1) = m.filter (fun c => !decide (c.1 = k)) := by
 induction m with
 | nil => rfl
 | cons c m ih =>
  obtain ⟨h1, h2⟩ := List.pairwise_cons.1 h
  cases hl : lt c.1 k with
  | true =>
   have hk : lt k c.1 = false := less_asymm _ _ hl
   have hne : c.1 ≠ k := fun e => by rw [e] at hl; have := less_irrefl k.toList; unfold lt at hl; rw [this] at hl; cases hl
   rw [List.filter_cons_of_pos (by simpa using hl), List.filter_cons_of_neg (by simp [hk]), List.filter_cons_of_pos (by simp [hne]), List.cons_append, ih h2]
  | false =>
   have hno : (c :: m).filter (fun c => lt c.1 k) = [] := by
    rw [List.filter_eq_nil_iff]
    intro d hd
    rcases List.mem_cons.1 hd with rfl | hd
    ·simp [hl]
    ·have := lt_no (h1 d hd) hl; simp [this]
   rw [hno, List.nil_append]
   refine List.filter_congr fun d hd => ?_
   have hdl : lt d.1 k = false := by
    rcases List.mem_cons.1 hd with rfl | hd
    ·exact hl
    ·exact lt_no (h1 d hd) hl
   by_cases he : d.1 = k
   ·have := less_irrefl k.toList
    rw [he]
    simp only [decide_true, Bool.not_true]
    exact this
   ·rw [total hdl (fun e => he e.symm)]
    simp [he]
theorem pre_put {m : List Rg} (h : AscC m) (x : Wt) : preC m x ++ m.filter (fun c => lt x.1 c.1) = putC m x := by
 unfold preC putC
 cases hg : x.2.2 with
 | false => simp
 | true => simpa using gone_put h x.1
theorem gshapeC {W : World} {base : Nat} {v : Value} {l : List Rg} (h : GOwn encR 98 W base v l) : v = .slice none 0 0 ∧ l = [] ∨ ∃ g cap, v = .slice (some ⟨g, 0, none⟩) l.length cap := by
 rcases h.2 with ⟨rfl, h0⟩ | ⟨g, cap, cur, rfl, _, _, hnc, _⟩
 ·exact Or.inl ⟨rfl, List.length_eq_zero_iff.1 h0⟩
 ·exact Or.inr ⟨g, cap, rfl⟩
theorem gsrcC {W : World} {base c : Nat} {a : Option Addr} {l : List Rg} (h : GOwn encR 98 W base (.slice a l.length c) l) : (a = none ∧ l.length = 0 ∧ c = 0) ∨ ∃ ad, a = some ad ∧ ∀ j u, (encR.cells l)[j]? = some u → W.cell? (ad.add j) = some u := by
 rcases gshapeC h with ⟨e1, e2⟩ | ⟨g, cap, e1⟩
 ·subst e2
  cases e1
  exact Or.inl ⟨rfl, rfl, rfl⟩
 ·cases e1
  refine Or.inr ⟨_, rfl, fun j u hj => ?_⟩
  have hjl : j < l.length * encR.size := by
   have := (List.getElem?_eq_some_iff.1 hj).1
   rw [encR.cells_len] at this; exact this
  rw [Addr.add_lit, Nat.zero_add, World.ownsRow.cellAt h j hjl]
  exact hj
theorem wpRowC1 {ops : Array Oper} {rest : List Oper} {o : Oper} {a : Act} {Q : Exit → Act → World → Prop} (hgd : o.guard = none) (s x : Operand) (ho : o.op = .call { callee := .builtin .append, args := #[s, x], argTypes := #[59, 59] })
  {W : World} {base m c : Nat} {ao : Option Addr} {v : Value} {ys zs : List Rg} (hs : a.eval s = v) (hown : GOwn encR 98 W base v ys) (hx : a.eval x = .slice ao m c)
  (hsrc : (ao = none ∧ m = 0 ∧ c = 0) ∨ ∃ ad, ao = some ad ∧ ∀ j u, (encR.cells zs)[j]? = some u → W.cell? (ad.add j) = some u) (hm : zs.length = m) (hlen : ys.length + zs.length ≤ 100000000) (hB : base ≤ W.heap.size) (hne : v ≠ .slice none 0 0)
  (h : ∀ g' cap L w', L = (ys ++ zs).length → GOwn encR 98 w' base (.slice (some ⟨g', 0, none⟩) L cap) (ys ++ zs) → Below base W w' → wpList Tryz.prog ops Q rest (a.put o.dst (.slice (some ⟨g', 0, none⟩) L cap)) w') :
  wpList Tryz.prog ops Q (o :: rest) a W := by
 obtain ⟨i0, hi, hz0, hz1, hz2⟩ := info_parts Tryz.info98
 have hone : ∀ u ∈ encR.cells zs, u.oneCell' = true := fun u hu => by
  unfold Enc.cells at hu
  obtain ⟨y, _, hy⟩ := List.mem_flatMap.1 hu
  exact oneR u hy
 have key : ∃ v' w', (Builtin.append_ #[59, 59] o.type #[v, .slice ao m c]).run Tryz.prog W = .ok v' w' ∧ w'.ownsRow base 98 2 v' (ys ++ zs).length (encR.cells (ys ++ zs)) ∧ W.grownBy w' v.ownBlock ∧ v' ≠ .slice none 0 0 := by
  rw [encR.cells_app, List.length_append]
  rcases hsrc with ⟨rfl, rfl, rfl⟩ | ⟨ad, rfl, hc⟩
  ·obtain rfl : zs = [] := List.length_eq_zero_iff.1 hm
   refine ⟨v, W, run_append_owned_none (P := Tryz.prog) W base 59 o.type 98 i0 2 Tryz.underlying59 hi v _ _ hown, ?_, ⟨rfl, rfl, rfl, Nat.le_refl _, fun _ _ _ => rfl⟩, hne⟩
   have e : encR.cells ([] : List Rg) = [] := rfl
   rw [e, List.append_nil]
   exact hown
  ·obtain ⟨v', w', hr, q1, q2, q3⟩ := run_append_own (P := Tryz.prog) W base 59 o.type 98 i0 _ 2 32 Tryz.underlying59 hi hz0 hz1 hz2 rfl (by omega) v ys.length (encR.cells ys) hown ad m c (encR.cells zs) (by rw [encR.cells_len, hm]; rfl) hc hone (by unfold maxLen; omega) (by omega) hB
   refine ⟨v', w', hr, by rw [hm]; exact q1, q2, fun e => hne (q3.1 e).1⟩
 obtain ⟨v', w', hr, q1, q2, q3⟩ := key
 have hb : Below base W w' := (Below.refl _ _).grown q2 hB (fun j hj => (World.ownsRow.lt hown j hj).1)
 rcases q1.2 with ⟨hv, _⟩ | ⟨g', cap, cur, hv, _⟩
 ·exact absurd hv q3
 ·subst hv
  refine wpList_plain hgd fun K hK => ?_
  unfold Oper.wp execOp
  simp only [ho, resolve, invoke, builtin, Sem.run_bind, Sem.run_pure, Result.andThen_ok, List.map_toArray, List.map_cons, List.map_nil, hs, hx, hr]
  exact hK _ _ (h g' cap _ w' rfl q1 hb)
theorem wpAppC1 {ops : Array Oper} {rest : List Oper} {o : Oper} {a : Act} {Q : Exit → Act → World → Prop} (hgd : o.guard = none) (s x : Operand) (ho : o.op = .call { callee := .builtin .append, args := #[s, x], argTypes := #[59, 59] })
  {W : World} {base : Nat} {v : Value} {xs : List Rg} (y : Rg) (hs : a.eval s = v) (hown : GOwn encR 98 W base v xs)
  (hx : a.eval x = .slice (some ⟨W.heap.size, 0, none⟩) 1 1) (hlen : xs.length ≤ 100000000) (hB : base ≤ W.heap.size)
  (h : ∀ v' w', GOwn encR 98 w' base v' (xs ++ [y]) → Below base W w' → wpList Tryz.prog ops Q rest (a.put o.dst v') w') :
  wpList Tryz.prog ops Q (o :: rest) a (W.alloc (.cells #[.string y.1, .string y.2] 98)) := by
 refine wpAppG 59 98 2 32 _ Tryz.underlying59 Tryz.info98 rfl (by omega) (by omega) hgd s x ho (encR.enc y) hs (World.ownsRow.alloc hown _) hx (heap_alloc_new W _) rfl oneR (by omega) (by simp; omega) ?_
 intro g' cap w' h1 h2
 refine h _ w' ?_ (((Below.refl _ _).alloc hB _).trans h2)
 have e : encR.cells (xs ++ [y]) = encR.cells xs ++ encR.enc y := by rw [encR.cells_app]; simp [Enc.cells]
 unfold GOwn
 rw [e, List.length_append]
 exact h1

set_option maxRecDepth 100000 in
set_option maxHeartbeats 4000000 in
theorem splay (ms : List Rg) (a : Option Addr) (c n : Nat) (t : Tx) (ra wa : Option Addr) (rc wc lo : Nat) (hx : n = ms.length) (hn : n ≤ 1048576) (hwl : t.ws.length ≤ 2000000) (hasc : AscC ms) (w : World) (hp : GOwn encR 98 w lo (.slice a n c) ms) (hw : GRow encW w wa t.ws) :
  Calls Tryz.prog 13 #[.slice a n c, .agg #[.int .i64 t.id, .int .i64 t.st, .int .i64 t.snap, .int .i64 t.cs, .slice ra t.rs.length rc, .slice wa t.ws.length wc, .bool t.out, .string t.nm]] w fun e w' => ∃ (a1 : Option Addr) (c1 L : Nat), e = .returned (.slice a1 L c1) ∧ L = (playB ms t.ws).length ∧ GOwn encR 98 w' w.heap.size (.slice a1 L c1) (playB ms t.ws) ∧ Below w.heap.size w w' := by
 have HW : Hid (GRow encW w wa t.ws) := hw
 have HX : Hid (n = ms.length) := hx
 have HA := hide hasc
 have X0 : Hid (Bx (w.alloc (.cells #[.int .i64 t.id, .int .i64 t.st, .int .i64 t.snap, .int .i64 t.cs, .slice ra t.rs.length rc, .slice wa t.ws.length wc, .bool t.out, .string t.nm] 63)) w.heap.size [.int .i64 t.id, .int .i64 t.st, .int .i64 t.snap, .int .i64 t.cs, .slice ra t.rs.length rc, .slice wa t.ws.length wc, .bool t.out, .string t.nm]) := Bx.new w [.int .i64 t.id, .int .i64 t.st, .int .i64 t.snap, .int .i64 t.cs, .slice ra t.rs.length rc, .slice wa t.ws.length wc, .bool t.out, .string t.nm] 63
 have HB0 : Hid (Below w.heap.size w (w.alloc (.cells #[.int .i64 t.id, .int .i64 t.st, .int .i64 t.snap, .int .i64 t.cs, .slice ra t.rs.length rc, .slice wa t.ws.length wc, .bool t.out, .string t.nm] 63))) := (belowRefl w).alloc (Nat.le_refl _) _
 have HS0 : Hid ((w.alloc (.cells #[.int .i64 t.id, .int .i64 t.st, .int .i64 t.snap, .int .i64 t.cs, .slice ra t.rs.length rc, .slice wa t.ws.length wc, .bool t.out, .string t.nm] 63)).heap.size = w.heap.size + 1) := by show _ = _; simp
 have hpe : GOwn encR 98 ((w.alloc (.cells #[.int .i64 t.id, .int .i64 t.st, .int .i64 t.snap, .int .i64 t.cs, .slice ra t.rs.length rc, .slice wa t.ws.length wc, .bool t.out, .string t.nm] 63)).alloc (.cells #[] 98)) lo (.slice a n c) ms := (hp.below HB0.out).alloc _
 rw [hx] at hpe
 have HSRC := hide (gsrcC hpe)
 rw [← hx] at HSRC
 have HE : Hid (GOwn encR 98 ((w.alloc (.cells #[.int .i64 t.id, .int .i64 t.st, .int .i64 t.snap, .int .i64 t.cs, .slice ra t.rs.length rc, .slice wa t.ws.length wc, .bool t.out, .string t.nm] 63)).alloc (.cells #[] 98)) (w.heap.size + 1) (.slice (some ⟨w.heap.size + 1, 0, none⟩) 0 0) []) := by
  have h := GOwn.empty (E := encR) (e := 98) (w.alloc (.cells #[.int .i64 t.id, .int .i64 t.st, .int .i64 t.snap, .int .i64 t.cs, .slice ra t.rs.length rc, .slice wa t.ws.length wc, .bool t.out, .string t.nm] 63)) (w.heap.size + 1) (by rw [HS0.out]; exact Nat.le_refl _)
  rw [HS0.out] at h
  exact h
 have XE := hide (X0.out.alloc (.cells #[] 98))
 have HBE : Hid (Below w.heap.size w ((w.alloc (.cells #[.int .i64 t.id, .int .i64 t.st, .int .i64 t.snap, .int .i64 t.cs, .slice ra t.rs.length rc, .slice wa t.ws.length wc, .bool t.out, .string t.nm] 63)).alloc (.cells #[] 98))) := HB0.out.alloc HB0.out.size _
 have hse : w.heap.size + 1 ≤ ((w.alloc (.cells #[.int .i64 t.id, .int .i64 t.st, .int .i64 t.snap, .int .i64 t.cs, .slice ra t.rs.length rc, .slice wa t.ws.length wc, .bool t.out, .string t.nm] 63)).alloc (.cells #[] 98)).heap.size := by rw [World.size_alloc, HS0.out]; omega
 have hml : ms.length = n := hx.symm
 have HML := hide hml
 clear hx hp hpe hw hasc hml X0 HB0 HS0
 go_enter Tryz.func13, Tryz.ntmps13
 go_upto_region 1 with fail
 go_wp2_with (at_builtin; refine wpRowC1 (v := .slice (some ⟨w.heap.size + 1, 0, none⟩) 0 0) rfl _ _ rfl rfl HE.out rfl HSRC.out HML.out (by rw [HML.out]; simp; omega) hse (fun h => by cases h) ?_)
 intro g1 c1 L1 w1 hL1 ho1 hb1
 have O1 : Hid (GOwn encR 98 w1 (w.heap.size + 1) (.slice (some ⟨g1, 0, none⟩) L1 c1) (playB ms (t.ws.take 0))) := ho1
 have X1 := hide (XE.out.belowB hb1 (Nat.lt_succ_self _))
 have HB1 : Hid (Below w.heap.size w w1) := HBE.out.trans (hb1.mono (Nat.le_succ _))
 clear hL1 ho1 hb1 HE XE HBE HSRC HML hse
 go_wp2
 go_loopw [5, 6] (fun v s wr => ∃ k : Nat, k ≤ t.ws.length ∧ s = .int .i64 k ∧ Hid (GOwn encR 98 wr (w.heap.size + 1) v (playB ms (t.ws.take k))) ∧ Hid (Below w.heap.size w wr) ∧ Hid (Bx wr w.heap.size [.int .i64 t.id, .int .i64 t.st, .int .i64 t.snap, .int .i64 t.cs, .slice ra t.rs.length rc, .slice wa t.ws.length wc, .bool t.out, .string t.nm])) (fun _ s _ => t.ws.length - (intOf s).toNat)
 case atStart => exact ⟨0, Nat.zero_le _, rfl, O1, HB1, X1⟩
 case round =>
  clear O1 HB1 X1
  obtain ⟨k, hk, rfl, HO, HB, HXr⟩ := hrel
  obtain ⟨vo, hvo⟩ : ∃ z, z = wr := ⟨_, rfl⟩
  subst hvo
  have x5 := HXr.out.c5
  by_cases hlt : k < t.ws.length
  ·have hlt' : (k : Int) < (t.ws.length : Int) := by omega
   have h0 : (0 : Int) ≤ (k : Int) := by omega
   obtain ⟨b, off, rfl, hbl, hc⟩ := (HW.out.below HB.out) (by omega)
   have r0 := (wat hc k hlt).1
   have r1 := (wat hc k hlt).2.1
   have r2 := (wat hc k hlt).2.2
   have HNX := hide (playB_next ms t.ws k hlt)
   have HFA : Hid (AscC (playB ms (t.ws.take k))) := play_asc HA.out _
   have hFl : (playB ms (t.ws.take k)).length ≤ 4000000 := Nat.le_trans (playB_len _ _) (by rw [List.length_take]; have := HX.out; omega)
   obtain ⟨x, hx⟩ : ∃ x, x = t.ws[k] := ⟨_, rfl⟩
   rw [← hx] at r0 r1 r2 HNX
   clear hx hc
   obtain ⟨F, hF⟩ : ∃ F, F = playB ms (t.ws.take k) := ⟨_, rfl⟩
   rw [← hF] at HO HNX HFA hFl
   clear hF
   obtain ⟨a0, c0, rfl, hgr⟩ := HO.out.row
   obtain ⟨M, hM⟩ : ∃ M, M = F.length := ⟨_, rfl⟩
   rw [← hM] at hFl HO ⊢
   have HM : Hid (M = F.length) := hM
   have R0 := hide hgr
   have hsz := HXr.out.lt
   have S1 : Hid ((vo.alloc (.cells #[.string x.1, .string x.2.1, .bool x.2.2] 97)).heap.size = vo.heap.size + 1) := by show _ = _; simp
   have Y2 : Hid (Bx ((vo.alloc (.cells #[.string x.1, .string x.2.1, .bool x.2.2] 97)).alloc (.cells #[] 98)) vo.heap.size [.string x.1, .string x.2.1, .bool x.2.2]) := (Bx.new vo [.string x.1, .string x.2.1, .bool x.2.2] 97).alloc _
   have E2 : Hid (GOwn encR 98 ((vo.alloc (.cells #[.string x.1, .string x.2.1, .bool x.2.2] 97)).alloc (.cells #[] 98)) (vo.heap.size + 1) (.slice (some ⟨vo.heap.size + 1, 0, none⟩) 0 0) []) := by
    have h := GOwn.empty (E := encR) (e := 98) (vo.alloc (.cells #[.string x.1, .string x.2.1, .bool x.2.2] 97)) (vo.heap.size + 1) (by rw [S1.out]; exact Nat.le_refl _)
    rw [S1.out] at h
    exact h
   have HB2 : Hid (Below vo.heap.size vo ((vo.alloc (.cells #[.string x.1, .string x.2.1, .bool x.2.2] 97)).alloc (.cells #[] 98))) := ((belowRefl vo).alloc (Nat.le_refl _) _).alloc (by simp) _
   have hs2 : vo.heap.size + 1 ≤ ((vo.alloc (.cells #[.string x.1, .string x.2.1, .bool x.2.2] 97)).alloc (.cells #[] 98)).heap.size := by rw [World.size_alloc, S1.out]; omega
   clear hgr hM S1
   go_upto_region 7 with fail
   clear r0 r1 r2 HO hbl x5
   generalize ((vo.alloc (.cells #[.string x.1, .string x.2.1, .bool x.2.2] 97)).alloc (.cells #[] 98)) = w2 at *
   go_wp2
   go_loopw [8, 9] (fun v s wr => ∃ j : Nat, j ≤ M ∧ s = .int .i64 j ∧ Hid (GOwn encR 98 wr (vo.heap.size + 1) v ((F.take j).filter fun y => lt y.1 x.1)) ∧ Hid (Bx wr vo.heap.size [.string x.1, .string x.2.1, .bool x.2.2]) ∧ Hid (Below vo.heap.size vo wr)) (fun _ s _ => M - (intOf s).toNat)
   case atStart => exact ⟨0, Nat.zero_le _, rfl, E2, Y2, HB2⟩
   case round =>
    clear E2 Y2 HB2 hs2
    obtain ⟨j, hj, rfl, HOj, HYj, HBj⟩ := hrel
    by_cases hjl : j < M
    ·have hjl' : (j : Int) < (M : Int) := by omega
     have hj0 : (0 : Int) ≤ (j : Int) := by omega
     have hjf : j < F.length := by rw [← HM.out]; exact hjl
     obtain ⟨b2, o2, rfl, hbl2, hc2⟩ := (R0.out.below HBj.out) (by omega)
     have q0 := (rat hc2 j hjf).1
     have q1 := (rat hc2 j hjf).2
     have y0 := HYj.out.c0
     clear hc2
     cases hl : lt F[j].1 x.1
     ·have hl' : Op.bytesLess F[j].1.toList x.1.toList = false := hl
      have ho2 := HOj.out
      rw [← filter_no (p := fun y => lt y.1 x.1) hjf hl] at ho2
      have HO2 := hide ho2
      clear ho2 hl
      go_wp2
      go_quiet (fail)
      go_wp2
      go_roundw
      case rel => exact ⟨j + 1, by omega, by go_num, HO2, HYj.out.below (below_drewN (belowRefl wr) _), below_drewN HBj.out _⟩
      case measure => simp [intOf]; omega
     ·have hl' : Op.bytesLess F[j].1.toList x.1.toList = true := hl
      have hlen : ((F.take j).filter fun y => lt y.1 x.1).length ≤ 100000000 := Nat.le_trans (List.length_filter_le _ _) (by rw [List.length_take]; omega)
      have hsw : vo.heap.size + 1 ≤ wr.heap.size := HYj.out.lt
      go_wp2
      go_quiet (fail)
      go_wp2_with (at_builtin; refine wpAppC1 rfl _ _ rfl F[j] rfl (HOj.out.drewN _) rfl hlen hsw ?_)
      intro v' w' ho' hb'
      have HO2 : Hid (GOwn encR 98 w' (vo.heap.size + 1) v' ((F.take (j + 1)).filter fun y => lt y.1 x.1)) := by
       show GOwn _ _ _ _ _ _
       rw [filter_yes hjf hl]; exact ho'
      have HB3 : Hid (Below vo.heap.size vo w') := (below_drewN HBj.out _).trans (hb'.mono (by omega))
      have HY3 : Hid (Bx w' vo.heap.size [.string x.1, .string x.2.1, .bool x.2.2]) := (HYj.out.below (below_drewN (belowRefl wr) _)).belowB hb' (by omega)
      clear ho' hb' hl
      go_wp2
      go_roundw
      case rel => exact ⟨j + 1, by omega, by go_num, HO2, HY3, HB3⟩
      case measure => simp [intOf]; omega
    ·have hjl' : ¬ (j : Int) < (M : Int) := by omega
     have y0 := HYj.out.c0
     have y1 := HYj.out.c1
     have y2 := HYj.out.c2
     have ho := HOj.out
     rw [List.take_of_length_le (by have := HM.out; omega)] at ho
     have HO1 := hide ho
     clear ho HOj
     have hlen : (F.filter fun y => lt y.1 x.1).length ≤ 100000000 := Nat.le_trans (List.length_filter_le _ _) (by have := HM.out; omega)
     have hsw : vo.heap.size + 1 ≤ wr.heap.size := HYj.out.lt
     cases hgn : x.2.2
     ·rw [hgn] at y2
      go_wp2_with (at_builtin; refine wpAppC1 rfl _ _ rfl (x.1, x.2.1) rfl HO1.out rfl hlen hsw ?_)
      intro v3 w3 ho' hb'
      have HP3 : Hid (GOwn encR 98 w3 (vo.heap.size + 1) v3 (preC F x)) := by
       show GOwn _ _ _ _ _ _
       unfold preC
       rw [hgn]
       exact ho'
      have HB3 : Hid (Below vo.heap.size vo w3) := HBj.out.trans (hb'.mono (by omega))
      have HY3 : Hid (Bx w3 vo.heap.size [.string x.1, .string x.2.1, .bool x.2.2]) := HYj.out.belowB hb' (by omega)
      clear ho' hb' HO1 HBj HYj hsw hlen y0 y1 y2
      go_wp2
      go_loopw [8, 10] (fun v s wr => ∃ m : Nat, m ≤ M ∧ s = .int .i64 m ∧ Hid (GOwn encR 98 wr (vo.heap.size + 1) v (preC F x ++ (F.take m).filter fun y => lt x.1 y.1)) ∧ Hid (Bx wr vo.heap.size [.string x.1, .string x.2.1, .bool x.2.2]) ∧ Hid (Below vo.heap.size vo wr)) (fun _ s _ => M - (intOf s).toNat)
      case atStart =>
       refine ⟨0, Nat.zero_le _, rfl, ?_, HY3, HB3⟩
       show GOwn _ _ _ _ _ _
       simpa using HP3.out
      case round =>
       clear HP3 HY3 HB3
       obtain ⟨m, hm, rfl, HOm, HYm, HBm⟩ := hrel
       have hsm : vo.heap.size + 1 ≤ wr.heap.size := HYm.out.lt
       by_cases hml : m < M
       ·have hml' : (m : Int) < (M : Int) := by omega
        have hm0 : (0 : Int) ≤ (m : Int) := by omega
        have hmf : m < F.length := by rw [← HM.out]; exact hml
        obtain ⟨b2, o2, rfl, hbl2, hc2⟩ := (R0.out.below HBm.out) (by omega)
        have q0 := (rat hc2 m hmf).1
        have q1 := (rat hc2 m hmf).2
        have y0 := HYm.out.c0
        clear hc2
        cases hl : lt x.1 F[m].1
        ·have hl' : (!(Op.bytesLess F[m].1.toList x.1.toList || F[m].1.toList == x.1.toList)) = false := (not_le _ _).trans hl
         have ho2 := HOm.out
         rw [← filter_no (p := fun y => lt x.1 y.1) hmf hl] at ho2
         have HO2 := hide ho2
         clear ho2 hl
         go_wp2
         go_quiet (fail)
         go_wp2
         go_roundw
         case rel => exact ⟨m + 1, by omega, by go_num, HO2, HYm.out.below (below_drewN (belowRefl wr) _), below_drewN HBm.out _⟩
         case measure => simp [intOf]; omega
        ·have hl' : (!(Op.bytesLess F[m].1.toList x.1.toList || F[m].1.toList == x.1.toList)) = true := (not_le _ _).trans hl
         have hlen : (preC F x ++ (F.take m).filter fun y => lt x.1 y.1).length ≤ 100000000 := by
          have h1 : (preC F x).length ≤ F.length + 1 := by
           unfold preC
           have h2 := List.length_filter_le (fun c : Rg => lt c.1 x.1) F
           rw [List.length_append]
           split <;> simp <;> omega
          have h3 := List.length_filter_le (fun y : Rg => lt x.1 y.1) (F.take m)
          rw [List.length_append]
          rw [List.length_take] at h3
          have := HM.out
          omega
         go_wp2
         go_quiet (fail)
         go_wp2_with (at_builtin; refine wpAppC1 rfl _ _ rfl F[m] rfl (HOm.out.drewN _) rfl hlen hsm ?_)
         intro v' w' ho' hb'
         have HO2 : Hid (GOwn encR 98 w' (vo.heap.size + 1) v' (preC F x ++ (F.take (m + 1)).filter fun y => lt x.1 y.1)) := by
          show GOwn _ _ _ _ _ _
          rw [filter_yes hmf hl]; exact ho'
         have HB4 : Hid (Below vo.heap.size vo w') := (below_drewN HBm.out _).trans (hb'.mono (by omega))
         have HY4 : Hid (Bx w' vo.heap.size [.string x.1, .string x.2.1, .bool x.2.2]) := (HYm.out.below (below_drewN (belowRefl wr) _)).belowB hb' (by omega)
         clear ho' hb' hl hlen
         go_wp2
         go_roundw
         case rel => exact ⟨m + 1, by omega, by go_num, HO2, HY4, HB4⟩
         case measure => simp [intOf]; omega
       ·have hml' : ¬ (m : Int) < (M : Int) := by omega
        have ho := HOm.out
        rw [List.take_of_length_le (by have := HM.out; omega), pre_put HFA.out x, ← HNX.out] at ho
        have HO9 : Hid (GOwn encR 98 wr (w.heap.size + 1) u8 (playB ms (t.ws.take (k + 1)))) := ho.mono (by omega)
        have HB9 : Hid (Below w.heap.size w wr) := HB.out.trans (HBm.out.mono HB.out.size)
        have HX9 := hide (HXr.out.below HBm.out)
        clear ho
        go_wp2
        go_roundw
        case rel => exact ⟨k + 1, by omega, by go_num, HO9, HB9, HX9⟩
        case measure => simp [intOf]; omega
     ·rw [hgn] at y2
      have HP3 : Hid (GOwn encR 98 wr (vo.heap.size + 1) u8 (preC F x)) := by
       show GOwn _ _ _ _ _ _
       unfold preC
       rw [hgn]
       simpa using HO1.out
      have HB3 : Hid (Below vo.heap.size vo wr) := HBj
      have HY3 : Hid (Bx wr vo.heap.size [.string x.1, .string x.2.1, .bool x.2.2]) := HYj
      clear HO1 HBj HYj hsw hlen y0 y1
      go_wp2
      go_loopw [8, 10] (fun v s wr => ∃ m : Nat, m ≤ M ∧ s = .int .i64 m ∧ Hid (GOwn encR 98 wr (vo.heap.size + 1) v (preC F x ++ (F.take m).filter fun y => lt x.1 y.1)) ∧ Hid (Bx wr vo.heap.size [.string x.1, .string x.2.1, .bool x.2.2]) ∧ Hid (Below vo.heap.size vo wr)) (fun _ s _ => M - (intOf s).toNat)
      case atStart =>
       refine ⟨0, Nat.zero_le _, rfl, ?_, HY3, HB3⟩
       show GOwn _ _ _ _ _ _
       simpa using HP3.out
      case round =>
       clear HP3 HY3 HB3
       obtain ⟨m, hm, rfl, HOm, HYm, HBm⟩ := hrel
       have hsm : vo.heap.size + 1 ≤ wr.heap.size := HYm.out.lt
       by_cases hml : m < M
       ·have hml' : (m : Int) < (M : Int) := by omega
        have hm0 : (0 : Int) ≤ (m : Int) := by omega
        have hmf : m < F.length := by rw [← HM.out]; exact hml
        obtain ⟨b2, o2, rfl, hbl2, hc2⟩ := (R0.out.below HBm.out) (by omega)
        have q0 := (rat hc2 m hmf).1
        have q1 := (rat hc2 m hmf).2
        have y0 := HYm.out.c0
        clear hc2
        cases hl : lt x.1 F[m].1
        ·have hl' : (!(Op.bytesLess F[m].1.toList x.1.toList || F[m].1.toList == x.1.toList)) = false := (not_le _ _).trans hl
         have ho2 := HOm.out
         rw [← filter_no (p := fun y => lt x.1 y.1) hmf hl] at ho2
         have HO2 := hide ho2
         clear ho2 hl
         go_wp2
         go_quiet (fail)
         go_wp2
         go_roundw
         case rel => exact ⟨m + 1, by omega, by go_num, HO2, HYm.out.below (below_drewN (belowRefl wr) _), below_drewN HBm.out _⟩
         case measure => simp [intOf]; omega
        ·have hl' : (!(Op.bytesLess F[m].1.toList x.1.toList || F[m].1.toList == x.1.toList)) = true := (not_le _ _).trans hl
         have hlen : (preC F x ++ (F.take m).filter fun y => lt x.1 y.1).length ≤ 100000000 := by
          have h1 : (preC F x).length ≤ F.length + 1 := by
           unfold preC
           have h2 := List.length_filter_le (fun c : Rg => lt c.1 x.1) F
           rw [List.length_append]
           split <;> simp <;> omega
          have h3 := List.length_filter_le (fun y : Rg => lt x.1 y.1) (F.take m)
          rw [List.length_append]
          rw [List.length_take] at h3
          have := HM.out
          omega
         go_wp2
         go_quiet (fail)
         go_wp2_with (at_builtin; refine wpAppC1 rfl _ _ rfl F[m] rfl (HOm.out.drewN _) rfl hlen hsm ?_)
         intro v' w' ho' hb'
         have HO2 : Hid (GOwn encR 98 w' (vo.heap.size + 1) v' (preC F x ++ (F.take (m + 1)).filter fun y => lt x.1 y.1)) := by
          show GOwn _ _ _ _ _ _
          rw [filter_yes hmf hl]; exact ho'
         have HB4 : Hid (Below vo.heap.size vo w') := (below_drewN HBm.out _).trans (hb'.mono (by omega))
         have HY4 : Hid (Bx w' vo.heap.size [.string x.1, .string x.2.1, .bool x.2.2]) := (HYm.out.below (below_drewN (belowRefl wr) _)).belowB hb' (by omega)
         clear ho' hb' hl hlen
         go_wp2
         go_roundw
         case rel => exact ⟨m + 1, by omega, by go_num, HO2, HY4, HB4⟩
         case measure => simp [intOf]; omega
       ·have hml' : ¬ (m : Int) < (M : Int) := by omega
        have ho := HOm.out
        rw [List.take_of_length_le (by have := HM.out; omega), pre_put HFA.out x, ← HNX.out] at ho
        have HO9 : Hid (GOwn encR 98 wr (w.heap.size + 1) u8 (playB ms (t.ws.take (k + 1)))) := ho.mono (by omega)
        have HB9 : Hid (Below w.heap.size w wr) := HB.out.trans (HBm.out.mono HB.out.size)
        have HX9 := hide (HXr.out.below HBm.out)
        clear ho
        go_wp2
        go_roundw
        case rel => exact ⟨k + 1, by omega, by go_num, HO9, HB9, HX9⟩
        case measure => simp [intOf]; omega
  ·have hlt' : ¬ (k : Int) < (t.ws.length : Int) := by omega
   have ho := HO.out
   rw [List.take_of_length_le (by omega)] at ho
   obtain ⟨a1, c1, rfl, _⟩ := ho.row
   have O9 := hide (ho.mono (Nat.le_succ _))
   clear ho
   go_wp2
   go_ret
   exact ⟨a1, c1, _, rfl, rfl, O9.out, HB.out⟩
end Go.Proofs.YtnmggknpllnjiaaGreat

namespace Go.Proofs.YtnmggknpllnjiaaGreat
open Go.RowKit
open KM
attribute [local go_sem ↓] Go.wp_at_zero Go.wp_at_succ

end Go.Proofs.YtnmggknpllnjiaaGreat

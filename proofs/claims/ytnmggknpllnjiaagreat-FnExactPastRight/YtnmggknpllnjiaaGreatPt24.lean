/- slices.Insert at cells: copying elements of two cells; one cell put in. -/
import Derived.Test.YtnmggknpllnjiaaGreatPt01
import Derived.Test.YtnmggknpllnjiaaGreatPt23
import Derived.Test.YtnmggknpllnjiaaGreatPt19
import Derived.Laws.CopyRow
import Derived.Laws.Externs
import Derived.Lib.Overlaps
import Derived.Lib.AppendZerosOnto
namespace Go.Proofs.YtnmggknpllnjiaaGreat
open Go.RowKit
open KM
open VM
attribute [local go_sem ↓] Go.wp_at_zero Go.wp_at_succ

section
variable {P : Program}
theorem run_copyK (w : World) (dT sT ty elem : TypeId) (g o dLen dCap : Nat) (a : Addr) (sLen sCap sz : Nat) (cur : Array Value) (t : TypeId) (cs : List Value)
  (hu : P.underlying dT = some (.slice elem)) (hs : (P.info? elem).map (·.size) = some sz)
  (hg : w.heap[g]? = some (.cells cur t (0, 0))) (hn : cs.length = Nat.min sLen dLen * sz)
  (hsrc : ∀ j v, cs[j]? = some v → w.cell? (a.add j) = some v) (hfit : o + cs.length ≤ cur.size) (h1 : ∀ v ∈ cs, v.oneCell' = true) :
  (Builtin.copy_ #[dT, sT] ty #[.slice (some ⟨g, o, none⟩) dLen dCap, .slice (some a) sLen sCap]).run P w =
   .ok (goInt (Nat.min sLen dLen)) (w.setRow g (cur.toList.take o ++ cs ++ cur.toList.drop (o + cs.length)).toArray) := by
 have hl := run_loadCells_list (P := P) w a cs hsrc
 have hst := run_storeCells_at P g o t cs 0 cur w hg (by simpa using hfit) h1
 cases hq : P.info? elem with
 | none => simp [hq] at hs
 | some i =>
  have hi : i.size = sz := by simpa [hq] using hs
  simp [Builtin.copy_, run_underlying hu, Builtin.lenOf, Builtin.firstCells, sizeOf, typeInfo, hq, hi, ← hn, hl, hst]

theorem step_copyK {ops : Array Oper} {o : Oper} {a : Act} {w : World} {K : Act → World → Prop} {Q : Exit → Act → World → Prop} {E : Prop}
  (hg : o.guard = none) (d x : Operand) (dT sT : TypeId) (hop : o.op = Op.call { callee := Callee.builtin Builtin.copy, args := #[d, x], argTypes := #[dT, sT] })
  (v u : Value) (hd : a.eval d = v) (hx : a.eval x = u) {v' : Value} {w' : World} (hr : (Builtin.copy_ #[dT, sT] o.type #[v, u]).run P w = .ok v' w') (hK : K (a.put o.dst v') w') :
  if Region.wanted o (yielded ops a.tmps) = true then Oper.wp P o a w K Q else E := by
 have hw : Region.wanted o (yielded ops a.tmps) = true := by simp [Region.wanted, hg]
 rw [if_pos hw]
 unfold Oper.wp
 simp [execOp, hop, resolve, invoke, builtin, hd, hx, hr, Result.andThen]
 exact hK
end

def insAt (xs : List Rg) (i : Nat) (x : Rg) : List Rg := xs.take i ++ [x] ++ xs.drop i
theorem insAt_len (xs : List Rg) (i : Nat) (x : Rg) : (insAt xs i x).length = xs.length + 1 := by
 unfold insAt
 simp only [List.length_append, List.length_take, List.length_drop, List.length_cons, List.length_nil]
 omega
theorem cells_ins (xs : List Rg) (i : Nat) (x : Rg) : encR.cells (insAt xs i x) = encR.cells (xs.take i) ++ encR.enc x ++ encR.cells (xs.drop i) := by
 unfold insAt
 rw [encR.cells_app, encR.cells_app]
 simp [Enc.cells]
theorem cells_take (xs : List Rg) (i : Nat) (h : i ≤ xs.length) : (encR.cells xs).take (i * 2) = encR.cells (xs.take i) := by
 have e : encR.cells xs = encR.cells (xs.take i) ++ encR.cells (xs.drop i) := by rw [← encR.cells_app, List.take_append_drop]
 rw [e, List.take_left']
 rw [encR.cells_len, List.length_take, Nat.min_eq_left h]
 rfl
theorem cells_drop (xs : List Rg) (i : Nat) (h : i ≤ xs.length) : (encR.cells xs).drop (i * 2) = encR.cells (xs.drop i) := by
 have e : encR.cells xs = encR.cells (xs.take i) ++ encR.cells (xs.drop i) := by rw [← encR.cells_app, List.take_append_drop]
 rw [e, List.drop_left']
 rw [encR.cells_len, List.length_take, Nat.min_eq_left h]
 rfl
theorem cells_one (xs : List Rg) : ∀ u ∈ encR.cells xs, u.oneCell' = true := by
 intro u hu
 obtain ⟨x, _, hx⟩ := List.mem_flatMap.1 hu
 exact oneR u hx

theorem row_put (cur : List Value) (xs : List Rg) (x : Rg) (i cap : Nat) (hi : i ≤ xs.length) (hc : cur.length = cap * 2) (hroom : xs.length + 1 ≤ cap) (ht : cur.take (xs.length * 2) = encR.cells xs) :
  let r1 := cur.take ((i + 1) * 2) ++ encR.cells (xs.drop i) ++ cur.drop ((i + 1) * 2 + (encR.cells (xs.drop i)).length)
  let r2 := r1.take (i * 2) ++ encR.enc x ++ r1.drop (i * 2 + (encR.enc x).length)
  r2.length = cap * 2 ∧ r2.take ((xs.length + 1) * 2) = encR.cells (insAt xs i x) := by
 have hdl : (encR.cells (xs.drop i)).length = (xs.length - i) * 2 := by rw [encR.cells_len, List.length_drop]; rfl
 have hxl : (encR.enc x).length = 2 := rfl
 have hA : (cur.take ((i + 1) * 2)).take (i * 2) = encR.cells (xs.take i) := by
  rw [List.take_take, Nat.min_eq_left (by omega), ← cells_take xs i hi, ← ht, List.take_take, Nat.min_eq_left (by omega)]
 have hAl : (encR.cells (xs.take i)).length = i * 2 := by rw [encR.cells_len, List.length_take, Nat.min_eq_left hi]; rfl
 have hl1 : (cur.take ((i + 1) * 2)).length = (i + 1) * 2 := by rw [List.length_take]; omega
 intro r1 r2
 have e1 : r1.take (i * 2) = encR.cells (xs.take i) := by
  show List.take _ (_ ++ _ ++ _) = _
  rw [List.append_assoc, List.take_append_of_le_length (by omega), hA]
 have e2 : r1.drop (i * 2 + 2) = encR.cells (xs.drop i) ++ cur.drop ((i + 1) * 2 + (encR.cells (xs.drop i)).length) := by
  show List.drop _ (_ ++ _ ++ _) = _
  rw [List.append_assoc, List.drop_left' (by omega)]
 have e3 : r2 = encR.cells (xs.take i) ++ encR.enc x ++ (encR.cells (xs.drop i) ++ cur.drop ((i + 1) * 2 + (encR.cells (xs.drop i)).length)) := by
  show r1.take (i * 2) ++ encR.enc x ++ r1.drop (i * 2 + 2) = _
  rw [e1, e2]
 rw [e3, cells_ins]
 constructor
 ·simp only [List.length_append, List.length_drop, hdl, hxl, hAl, hc]
  omega
 ·rw [← List.append_assoc, List.take_left']
  simp only [List.length_append, hdl, hxl, hAl]
  omega

def OneC (w : World) (vb : Nat) (x : Rg) : Prop := w.heap[vb]? = some (.cells #[.string x.1, .string x.2] 98 (0, 0))

theorem wpAppVc {ops : Array Oper} {rest : List Oper} {o : Oper} {a : Act} {Q : Exit → Act → World → Prop} (hgd : o.guard = none) (s x : Operand) (ho : o.op = .call { callee := .builtin .append, args := #[s, x], argTypes := #[59, 59] })
  {W : World} {base : Nat} {v : Value} {xs : List Rg} (y : Rg) (vb : Nat) (hs : a.eval s = v) (hown : GOwn encR 98 W base v xs)
  (hx : a.eval x = .slice (some ⟨vb, 0, none⟩) 1 1) (hblk : OneC W vb y) (hlen : xs.length ≤ 100000000) (hB : base ≤ W.heap.size)
  (h : ∀ v' w', GOwn encR 98 w' base v' (xs ++ [y]) → Below base W w' → wpList Tryz.prog ops Q rest (a.put o.dst v') w') :
  wpList Tryz.prog ops Q (o :: rest) a W := by
 refine wpAppG 59 98 2 32 _ Tryz.underlying59 Tryz.info98 rfl (by omega) (by omega) hgd s x ho (encR.enc y) hs hown hx hblk rfl oneR (by omega) hB ?_
 intro g' cap w' h1 h2
 refine h _ w' ?_ h2
 have e : encR.cells (xs ++ [y]) = encR.cells xs ++ encR.enc y := by rw [encR.cells_app]; simp [Enc.cells]
 unfold GOwn
 rw [e, List.length_append]
 exact h1

set_option maxRecDepth 100000 in
set_option maxHeartbeats 2000000 in
theorem insEnd (xs : List Rg) (x : Rg) (a : Option Addr) (c vb base : Nat) (hn : xs.length ≤ 4000000) (w : World) (hown : GOwn encR 98 w base (.slice a xs.length c) xs) (hb : base ≤ w.heap.size) (hx : OneC w vb x) :
  Calls Tryz.prog 93 #[.slice a xs.length c, .int .i64 (xs.length : Int), .slice (some ⟨vb, 0, none⟩) 1 1] w fun e w' => ∃ a1 c1, e = .returned (.slice a1 (insAt xs xs.length x).length c1) ∧ GOwn encR 98 w' base (.slice a1 (insAt xs xs.length x).length c1) (insAt xs xs.length x) ∧ Below base w w' := by
 have HO : Hid (GOwn encR 98 w base (.slice a xs.length c) xs) := hown
 have HX : Hid (OneC w vb x) := hx
 obtain ⟨ys, hys⟩ : ∃ ys, ys = xs ++ [x] := ⟨_, rfl⟩
 have hI : insAt xs xs.length x = ys := by rw [hys]; unfold insAt; simp
 rw [hI]
 have HY : Hid (ys = xs ++ [x]) := hys
 clear hown hx hI hys
 have HAP : Hid (∀ {ops : Array Oper} {rest : List Oper} {o : Oper} {a' : Act} {Q : Exit → Act → World → Prop} (_ : o.guard = none) (s x' : Operand) (_ : o.op = .call { callee := .builtin .append, args := #[s, x'], argTypes := #[59, 59] })
   (_ : a'.eval s = .slice a xs.length c) (_ : a'.eval x' = .slice (some ⟨vb, 0, none⟩) 1 1)
   (_ : ∀ v' w', GOwn encR 98 w' base v' ys → Below base w w' → wpList Tryz.prog ops Q rest (a'.put o.dst v') w'), wpList Tryz.prog ops Q (o :: rest) a' w) := by
  show ∀ {ops : Array Oper} {rest : List Oper} {o : Oper} {a' : Act} {Q : Exit → Act → World → Prop} (_ : o.guard = none) (s x' : Operand) (_ : o.op = .call { callee := .builtin .append, args := #[s, x'], argTypes := #[59, 59] })
   (_ : a'.eval s = .slice a xs.length c) (_ : a'.eval x' = .slice (some ⟨vb, 0, none⟩) 1 1)
   (_ : ∀ v' w', GOwn encR 98 w' base v' ys → Below base w w' → wpList Tryz.prog ops Q rest (a'.put o.dst v') w'), wpList Tryz.prog ops Q (o :: rest) a' w
  rw [HY.out]
  intro ops rest o a' Q h1 s x' h2 h3 h4 h5
  exact wpAppVc h1 s x' h2 x vb h3 HO.out h4 HX.out (by omega) hb h5
 rcases HO.out.2 with ⟨hv, h0⟩ | ⟨g, cap, cur, hv, hg, hh, hnc, hcp, hcs, htake⟩
 ·simp only [Value.slice.injEq] at hv
  obtain ⟨rfl, h1, rfl⟩ := hv
  clear h1
  rw [h0] at HAP
  rw [h0]
  go_enter Tryz.func93, Tryz.ntmps93
  go_wp2_with (at_builtin; refine HAP.out rfl _ _ rfl rfl rfl ?_)
  intro v' w' h1 h2
  obtain ⟨a1, c1, rfl, _⟩ := h1.row
  have HG : Hid (GOwn encR 98 w' base (.slice a1 ys.length c1) ys) := h1
  have HB : Hid (Below base w w') := h2
  clear h1 h2
  go_wp2
  go_ret
  exact ⟨a1, c1, rfl, HG.out, HB.out⟩
 ·simp only [Value.slice.injEq] at hv
  obtain ⟨rfl, -, rfl⟩ := hv
  clear hh htake hcs
  unfold maxLen at hcp
  have hnn : (0 : Int) ≤ (xs.length : Int) := by omega
  have hnc' : (xs.length : Int) ≤ (c : Int) := by omega
  by_cases hcc : c = xs.length
  ·go_enter Tryz.func93, Tryz.ntmps93
   go_wp2_with (at_builtin; refine HAP.out rfl _ _ rfl rfl rfl ?_)
   intro v' w' h1 h2
   obtain ⟨a1, c1, rfl, _⟩ := h1.row
   have HG : Hid (GOwn encR 98 w' base (.slice a1 ys.length c1) ys) := h1
   have HB : Hid (Below base w w') := h2
   clear h1 h2
   go_wp2
   go_ret
   exact ⟨a1, c1, rfl, HG.out, HB.out⟩
  ·go_enter Tryz.func93, Tryz.ntmps93
   go_wp2_with (at_builtin; refine HAP.out rfl _ _ rfl rfl rfl ?_)
   intro v' w' h1 h2
   obtain ⟨a1, c1, rfl, _⟩ := h1.row
   have HG : Hid (GOwn encR 98 w' base (.slice a1 ys.length c1) ys) := h1
   have HB : Hid (Below base w w') := h2
   clear h1 h2
   go_wp2
   go_ret
   exact ⟨a1, c1, rfl, HG.out, HB.out⟩

set_option maxRecDepth 100000 in
set_option maxHeartbeats 2000000 in
theorem insRoom (xs : List Rg) (x : Rg) (g c vb i : Nat) (cur : Array Value) (hn : xs.length ≤ 4000000) (hi : i < xs.length) (hroom : xs.length + 1 ≤ c) (_hcp : c ≤ 9223372036854775807) (w : World)
  (hh : w.heap[g]? = some (.cells cur 98 (0, 0))) (hcs : cur.size = c * 2) (ht : cur.toList.take (xs.length * 2) = encR.cells xs) (hx : OneC w vb x) (hne : vb ≠ g) :
  Calls Tryz.prog 93 #[.slice (some ⟨g, 0, none⟩) xs.length c, .int .i64 (i : Int), .slice (some ⟨vb, 0, none⟩) 1 1] w fun e w' => ∃ cur' : Array Value, e = .returned (.slice (some ⟨g, 0, none⟩) (xs.length + 1) c) ∧ w'.heap[g]? = some (.cells cur' 98 (0, 0)) ∧ cur'.size = c * 2 ∧ cur'.toList.take ((xs.length + 1) * 2) = encR.cells (insAt xs i x) ∧ w.grownBy w' (some g) := by
 have hov : ∀ lb cb, (callFunc 104 #[.slice (some ⟨vb, 0, none⟩) 1 1, .slice (some ⟨g, (i + 1) * 2, none⟩) lb cb]).run Tryz.prog w = .ok (.value (.bool false)) w := fun lb cb => by
  rw [run_callFunc_extern Tryz.func104 (by kernel_rfl) (by kernel_rfl) (by kernel_rfl) (e := Extern.SlicesOverlaps.overlaps #[59, 59] #[4]) (by kernel_rfl),
   Lib.run_overlaps_apart w 59 4 98 Tryz.underlying59 2 (fun w => by kernel_rfl) ⟨vb, 0, none⟩ ⟨g, (i + 1) * 2, none⟩ 1 1 lb cb hne 98 98 2 (c * 2) (by unfold OneC at hx; simp [World.shape?, hx]) (by simp [World.shape?, hh, hcs]) (by omega) (by unfold OneC at hx; simp [World.frozen?, hx]) (by unfold OneC at hx; simp [World.frozen?, hx])]
  rfl
 have HH : Hid (w.heap[g]? = some (.cells cur 98 (0, 0))) := hh
 have HX : Hid (OneC w vb x) := hx
 have HCS : Hid (cur.size = c * 2) := hcs
 have HT : Hid (cur.toList.take (xs.length * 2) = encR.cells xs) := ht
 clear hh hx hcs ht
 obtain ⟨n, hxn⟩ : ∃ n, n = xs.length := ⟨_, rfl⟩
 have HN : Hid (n = xs.length) := hxn
 rw [← hxn] at hn hi hroom ⊢
 clear hxn
 have f0 : (0 : Int) ≤ (i : Int) := by omega
 have f1 : (i : Int) ≤ (n : Int) := by omega
 have f2 : ¬ ((i : Int) = (n : Int)) := by omega
 have f3 : ¬ (c : Int) < (n : Int) + 1 := by omega
 have f4 : ¬ (c = i) := by omega
 have f5 : ¬ (c = i + 1) := by omega
 have f6 : IntKind.i64.wrap ((i : Int) + 1) = ((i + 1 : Nat) : Int) := by rw [IntKind.wrap_i64]; omega
 have f7 : IntKind.i64.wrap ((n : Int) + 1) = ((n + 1 : Nat) : Int) := by rw [IntKind.wrap_i64]; omega
 have f8 : ((i + 1 : Nat) : Int) ≤ ((n + 1 : Nat) : Int) := by omega
 go_enter Tryz.func93, Tryz.ntmps93
 go_wp2_with (simp only [hov])
 have hle : n ≤ c := by omega
 have f9 : (0 : Int) ≤ (i : Int) + 1 := by omega
 have f10 : (i : Int) ≤ (n : Int) + 1 := by omega
 have HD : Hid ((encR.cells (xs.drop i)).length = (n - i) * 2) := by show _ = _; rw [encR.cells_len, List.length_drop, ← HN.out]; rfl
 have HCP1 : Hid (∀ ty dc sc, (Builtin.copy_ #[59, 59] ty #[.slice (some ⟨g, (i + 1) * 2, none⟩) (n - i) dc, .slice (some ⟨g, i * 2, none⟩) (n + 1 - i) sc]).run Tryz.prog w.drew = .ok (goInt (Nat.min (n + 1 - i) (n - i))) (w.drew.setRow g (cur.toList.take ((i + 1) * 2) ++ encR.cells (xs.drop i) ++ cur.toList.drop ((i + 1) * 2 + (encR.cells (xs.drop i)).length)).toArray)) := fun ty dc sc => by
  refine run_copyK w.drew 59 59 ty 98 g ((i + 1) * 2) (n - i) dc ⟨g, i * 2, none⟩ (n + 1 - i) sc 2 cur 98 (encR.cells (xs.drop i)) Tryz.underlying59 (by kernel_rfl) HH.out ?_ ?_ ?_ (cells_one _)
  ·rw [HD.out, show Nat.min (n + 1 - i) (n - i) = n - i from Nat.min_eq_right (by omega)]
  ·intro j v hj
   rw [Addr.add_lit]
   have hjl : j < (encR.cells (xs.drop i)).length := by
    rcases Nat.lt_or_ge j (encR.cells (xs.drop i)).length with h | h
    ·exact h
    ·rw [List.getElem?_eq_none h] at hj; cases hj
   rw [HD.out] at hjl
   have e : (w.drew).cell? ⟨g, i * 2 + j, none⟩ = cur.toList[i * 2 + j]? := by
    show w.cell? _ = _
    simp [World.cell?, HH.out]
   rw [e, ← hj, ← cells_drop xs i (by rw [← HN.out]; omega), ← HT.out, List.getElem?_drop, List.getElem?_take, if_pos (by rw [← HN.out]; omega)]
  ·rw [HD.out, HCS.out]
   omega
 refine wp_region_held_drew (S := fun w' => True) (by kernel_rfl) trivial (fun hHeld => ?_)
 (refine tk 0 ?_ rfl (Or.inl ⟨by rfl, ?_⟩) ?_; rotate_left; (focus (intro w h; (try dsimp only at h); go_simp; (try with_reducible rfl))); simp only [Act.put, tA, tB, tD, tE, tF])
 (refine tk 1 ?_ rfl (Or.inl ⟨by rfl, ?_⟩) ?_; rotate_left; (focus (intro w h; (try dsimp only at h); go_simp; (try with_reducible rfl))); simp only [Act.put, tA, tB, tC, tD, tE, tF])
 (refine tk 2 ?_ rfl (Or.inl ⟨by rfl, ?_⟩) ?_; rotate_left; (focus (intro w h; (try dsimp only at h); go_simp; (try with_reducible rfl))); simp only [Act.put, tA, tB, tC, tD, tE, tF])
 (refine tk 3 ?_ rfl (Or.inl ⟨by rfl, ?_⟩) ?_; rotate_left; (focus (intro w h; (try dsimp only at h); go_simp; (try with_reducible rfl))); simp only [Act.put, tA, tB, tC, tD, tE, tF])
 (refine tk 4 ?_ rfl (Or.inl ⟨by rfl, ?_⟩) ?_; rotate_left; (focus (intro w h; (try dsimp only at h); go_simp; (try with_reducible rfl))); simp only [Act.put, tA, tB, tC, tD, tE, tF])
 (refine tk 5 ?_ rfl (Or.inl ⟨by rfl, ?_⟩) ?_; rotate_left; (focus (intro w h; (try dsimp only at h); go_simp; (try with_reducible rfl))); simp only [Act.put, tA, tB, tC, tD, tE, tF])
 (refine tk 6 ?_ rfl (Or.inl ⟨by rfl, ?_⟩) ?_; rotate_left; (focus (intro w h; (try dsimp only at h); go_simp; (try with_reducible rfl))); simp only [Act.put, tA, tB, tC, tD, tE, tF])
 (refine tk 7 ?_ rfl (Or.inl ⟨by rfl, ?_⟩) ?_; rotate_left; (focus (intro w h; (try dsimp only at h); go_simp; (try with_reducible rfl))); simp only [Act.put, tA, tB, tC, tD, tE, tF])
 refine wpAnyH_ready (rs := [8]) (by kernel_rfl) (by simp) ?_
 refine AllReadyH.cons rfl (fun K hK => ?_) AllReadyH.nil
 refine step_copyK rfl _ _ 59 59 rfl _ _ rfl rfl (HCP1.out _ _ _) ?_
 refine hK.out _ _ trivial (fun hHeld2 => ?_)
 clear hK K hHeld hHeld2
 refine wpAnyH_done (by kernel_rfl) ?_ _
 obtain ⟨R1, hR1⟩ : ∃ R1 : Array Value, R1 = (cur.toList.take ((i + 1) * 2) ++ encR.cells (xs.drop i) ++ cur.toList.drop ((i + 1) * 2 + (encR.cells (xs.drop i)).length)).toArray := ⟨_, rfl⟩
 rw [← hR1]
 have HW1 : Hid ((w.drew.setRow g R1).heap[g]? = some (.cells R1 98 (0, 0))) := setRow_heap w.drew g cur R1 98 (0, 0) HH.out
 have HV1 : Hid (OneC (w.drew.setRow g R1) vb x) := (setRow_other w.drew g vb R1 hne).trans HX.out
 have HG1 : Hid (w.grownBy (w.drew.setRow g R1) (some g)) := ⟨rfl, rfl, rfl, by simp, fun j _ hj => setRow_other w.drew g j R1 (fun e => hj (by rw [e]))⟩
 have HRL : Hid (R1.size = c * 2) := by
  show R1.size = c * 2
  rw [hR1]
  simp only [List.size_toArray, List.length_append, List.length_take, List.length_drop, HD.out, Array.length_toList, HCS.out]
  omega
 have HR : Hid (∀ r2 : List Value, r2 = R1.toList.take (i * 2) ++ encR.enc x ++ R1.toList.drop (i * 2 + (encR.enc x).length) → r2.length = c * 2 ∧ r2.take ((n + 1) * 2) = encR.cells (insAt xs i x)) := fun r2 h2 => by
  have h := row_put cur.toList xs x i c (by rw [← HN.out]; omega) (by rw [Array.length_toList]; exact HCS.out) (by rw [← HN.out]; exact hroom) HT.out
  rw [← HN.out] at h
  rw [h2, hR1]
  exact h
 clear hR1
 generalize w.drew.setRow g R1 = W1 at *
 have HCP2 : Hid (∀ ty dc, (Builtin.copy_ #[59, 59] ty #[.slice (some ⟨g, i * 2, none⟩) (n + 1 - i) dc, .slice (some ⟨vb, 0, none⟩) 1 1]).run Tryz.prog W1 = .ok (goInt (Nat.min 1 (n + 1 - i))) (W1.setRow g (R1.toList.take (i * 2) ++ encR.enc x ++ R1.toList.drop (i * 2 + (encR.enc x).length)).toArray)) := fun ty dc => by
  refine run_copyK W1 59 59 ty 98 g (i * 2) (n + 1 - i) dc ⟨vb, 0, none⟩ 1 1 2 R1 98 (encR.enc x) Tryz.underlying59 (by kernel_rfl) HW1.out ?_ ?_ ?_ oneR
  ·rw [show Nat.min 1 (n + 1 - i) = 1 from Nat.min_eq_left (by omega)]; rfl
  ·intro j v hj
   rw [Addr.add_lit, Nat.zero_add]
   have h := HV1.out
   unfold OneC at h
   simp only [World.cell?, h]
   rw [← hj]
   simp [encR]
  ·rw [HRL.out]
   show i * 2 + 2 ≤ _
   omega
 go_wp2
 rw [HCP2.out]
 obtain ⟨R2, hR2⟩ : ∃ R2 : List Value, R2 = R1.toList.take (i * 2) ++ encR.enc x ++ R1.toList.drop (i * 2 + (encR.enc x).length) := ⟨_, rfl⟩
 rw [← hR2]
 have HF : Hid (R2.length = c * 2 ∧ R2.take ((n + 1) * 2) = encR.cells (insAt xs i x)) := HR.out R2 hR2
 have HW2 : Hid ((W1.setRow g R2.toArray).heap[g]? = some (.cells R2.toArray 98 (0, 0))) := setRow_heap W1 g R1 R2.toArray 98 (0, 0) HW1.out
 have HG2 : Hid (w.grownBy (W1.setRow g R2.toArray) (some g)) := grown_trans HG1.out ⟨rfl, rfl, rfl, by simp, fun j _ hj => setRow_other W1 g j R2.toArray (fun e => hj (by rw [e]))⟩
 clear hR2
 generalize W1.setRow g R2.toArray = W2 at *
 go_wp2
 go_ret
 exact ⟨R2.toArray, rfl, HW2.out, by simpa using HF.out.1, by simpa using HF.out.2, HG2.out⟩

theorem row_put2 (R0 : List Value) (xs : List Rg) (x : Rg) (i G : Nat) (hi : i ≤ xs.length) (hc : R0.length = G * 2) (hG : xs.length + 1 ≤ G) (ht : R0.take (i * 2) = encR.cells (xs.take i)) :
  let r1 := R0.take (i * 2) ++ encR.enc x ++ R0.drop (i * 2 + (encR.enc x).length)
  let r2 := r1.take ((i + 1) * 2) ++ encR.cells (xs.drop i) ++ r1.drop ((i + 1) * 2 + (encR.cells (xs.drop i)).length)
  r1.length = G * 2 ∧ r2.length = G * 2 ∧ r2.take ((xs.length + 1) * 2) = encR.cells (insAt xs i x) := by
 have hdl : (encR.cells (xs.drop i)).length = (xs.length - i) * 2 := by rw [encR.cells_len, List.length_drop]; rfl
 have hxl : (encR.enc x).length = 2 := rfl
 have hAl : (encR.cells (xs.take i)).length = i * 2 := by rw [encR.cells_len, List.length_take, Nat.min_eq_left hi]; rfl
 intro r1 r2
 have e0 : r1 = encR.cells (xs.take i) ++ encR.enc x ++ R0.drop (i * 2 + 2) := by
  show R0.take (i * 2) ++ encR.enc x ++ R0.drop (i * 2 + 2) = _
  rw [ht]
 have hl1 : r1.length = G * 2 := by
  rw [e0]
  simp only [List.length_append, List.length_drop, hxl, hAl, hc]
  omega
 have e1 : r1.take ((i + 1) * 2) = encR.cells (xs.take i) ++ encR.enc x := by
  rw [e0, List.take_left']
  simp only [List.length_append, hxl, hAl]
  omega
 have e3 : r2 = encR.cells (insAt xs i x) ++ r1.drop ((i + 1) * 2 + (encR.cells (xs.drop i)).length) := by
  show r1.take ((i + 1) * 2) ++ encR.cells (xs.drop i) ++ _ = _
  rw [e1, cells_ins]
 refine ⟨hl1, ?_, ?_⟩
 ·rw [e3, cells_ins]
  simp only [List.length_append, List.length_drop, hdl, hxl, hAl, hl1]
  omega
 ·rw [e3, List.take_left']
  rw [encR.cells_len, insAt_len]
  rfl

set_option maxRecDepth 100000 in
set_option maxHeartbeats 2000000 in
theorem insGrow (xs : List Rg) (x : Rg) (g c vb i : Nat) (hn : xs.length ≤ 4000000) (hi : i < xs.length) (hnc : xs.length ≤ c) (hroom : c < xs.length + 1) (w : World)
  (hr : ∀ j v, (encR.cells xs)[j]? = some v → w.cell? ⟨g, j, none⟩ = some v) (hgl : g < w.heap.size) (hx : OneC w vb x) :
  Calls Tryz.prog 93 #[.slice (some ⟨g, 0, none⟩) xs.length c, .int .i64 (i : Int), .slice (some ⟨vb, 0, none⟩) 1 1] w fun e w' => ∃ (cur' : Array Value) (G : Nat), e = .returned (.slice (some ⟨w.heap.size, 0, none⟩) (xs.length + 1) G) ∧ G ≤ maxLen ∧ xs.length + 1 ≤ G ∧ w'.heap[w.heap.size]? = some (.cells cur' 98 (0, 0)) ∧ cur'.size = G * 2 ∧ cur'.toList.take ((xs.length + 1) * 2) = encR.cells (insAt xs i x) ∧ Below w.heap.size w w' := by
 have hvl : vb < w.heap.size := by
  unfold OneC at hx
  exact (Array.getElem?_eq_some_iff.1 hx).1
 have HR : Hid (∀ j v, (encR.cells xs)[j]? = some v → w.cell? ⟨g, j, none⟩ = some v) := hr
 have HX : Hid (OneC w vb x) := hx
 clear hr hx
 obtain ⟨n, hxn⟩ : ∃ n, n = xs.length := ⟨_, rfl⟩
 have HN : Hid (n = xs.length) := hxn
 rw [← hxn] at hn hi hroom hnc ⊢
 clear hxn
 obtain ⟨i0, hi0, hz0, hzs, hzb⟩ := info_parts Tryz.info98
 have hik : i + (n + 1 - i) = n + 1 := by omega
 have hold : (Builtin.firstCells i0.size i (.slice (some ⟨g, 0, none⟩) i c)).run Tryz.prog w.drew = .ok (encR.cells (xs.take i)).toArray w.drew := by
  rw [hzs]
  refine run_firstCells_some w.drew 2 i ⟨g, 0, none⟩ i c (encR.cells (xs.take i)) ?_ (fun j v hj => ?_)
  ·rw [encR.cells_len, List.length_take, Nat.min_eq_left (by rw [← HN.out]; omega)]; rfl
  ·rw [Addr.add_lit, Nat.zero_add]
   rw [← cells_take xs i (by rw [← HN.out]; omega), List.getElem?_take] at hj
   split at hj
   ·exact HR.out j v hj
   ·cases hj
 obtain ⟨G, hG⟩ : ∃ G, G = grownCap w (n + 1) c 98 := ⟨_, rfl⟩
 obtain ⟨R0, hR0⟩ : ∃ R0 : Array Value, R0 = (encR.cells (xs.take i)).toArray ++ Builtin.zeroCells (Value.agg #[.string ByteArray.empty, .string ByteArray.empty]).cells (n + 1 - i) ++ Builtin.zeroCells (Value.agg #[.string ByteArray.empty, .string ByteArray.empty]).cells (G - (n + 1)) := ⟨_, rfl⟩
 have hrz : ∀ ty, (Builtin.append_ #[59, 3] ty #[.slice (some ⟨g, 0, none⟩) i c, .int .i64 ((n + 1 - i : Nat) : Int)]).run Tryz.prog w = .ok (.slice (some ⟨w.heap.size, 0, none⟩) (n + 1) G) (w.drew.alloc (.cells R0 98)) := fun ty => by
  have h := Lib.run_append_grow_zeros w 59 3 ty 98 i0 _ .i64 .i64 Tryz.underlying59 Tryz.underlying3 hi0 hz0 (some ⟨g, 0, none⟩) i c _ hold (n + 1 - i) (by omega) (by omega) (by omega) (by omega) (by rw [hzb]; omega) (by rw [hzb, hik]; exact growslice_fits hroom (by omega))
  rw [hik] at h
  rw [hR0, hG]
  exact h
 have HRZ : Hid (∀ ty, (Builtin.append_ #[59, 3] ty #[.slice (some ⟨g, 0, none⟩) i c, .int .i64 ((n + 1 - i : Nat) : Int)]).run Tryz.prog w = .ok (.slice (some ⟨w.heap.size, 0, none⟩) (n + 1) G) (w.drew.alloc (.cells R0 98))) := hrz
 have hGn : n + 1 ≤ G := by rw [hG]; exact grownCap_ge w _ _ _
 have HGM : Hid (G ≤ maxLen) := by show G ≤ maxLen; rw [hG]; exact grownCap_le_maxLen w (n + 1) c 98 (by unfold maxLen; omega)
 have hG63 : G ≤ 9223372036854775807 := by have := HGM.out; unfold maxLen at this; omega
 have HRS : Hid (R0.size = G * 2) := by
  show R0.size = G * 2
  rw [hR0]
  have e1 : (encR.cells (xs.take i)).length = i * 2 := by rw [encR.cells_len, List.length_take, Nat.min_eq_left (by rw [← HN.out]; omega)]; rfl
  simp [Builtin.zeroCells, Value.cells, e1]
  omega
 have HRT : Hid (R0.toList.take (i * 2) = encR.cells (xs.take i)) := by
  show R0.toList.take (i * 2) = _
  have e1 : (encR.cells (xs.take i)).length = i * 2 := by rw [encR.cells_len, List.length_take, Nat.min_eq_left (by rw [← HN.out]; omega)]; rfl
  rw [hR0]
  simp only [Array.toList_append, List.append_assoc]
  rw [List.take_left' e1]
 clear hrz hold hzs hzb hz0 hi0 hR0 hG hik
 have f0 : (0 : Int) ≤ (i : Int) := by omega
 have f1 : (i : Int) ≤ (n : Int) := by omega
 have f2 : ¬ ((i : Int) = (n : Int)) := by omega
 have f3 : (c : Int) < (n : Int) + 1 := by omega
 have f4 : ¬ (c = i) := by omega
 have f5 : (i : Int) ≤ (c : Int) := by omega
 have f6 : IntKind.i64.wrap ((n : Int) + 1 - (i : Int)) = ((n + 1 - i : Nat) : Int) := by rw [IntKind.wrap_i64]; omega
 have f7 : (n : Int) + 1 - (i : Int) = ((n + 1 - i : Nat) : Int) := by omega
 go_enter Tryz.func93, Tryz.ntmps93
 go_wp2_with (at_builtin; refine Lib.wpList_append_run _ rfl _ _ _ _ rfl _ _ rfl rfl _ _ (HRZ.out _) ?_)
 have HW1 : Hid ((w.alloc (.cells R0 98)).drew.heap[w.heap.size]? = some (.cells R0 98 (0, 0))) := heap_alloc_new w _
 have HV1 : Hid (OneC (w.alloc (.cells R0 98)).drew vb x) := (Below.heap_alloc w (.cells R0 98) vb hvl).trans HX.out
 have HB1 : Hid (Below w.heap.size w (w.alloc (.cells R0 98)).drew) := ((belowRefl w).alloc (Nat.le_refl _) _).drew
 generalize (w.alloc (.cells R0 98)).drew = W1 at *
 obtain ⟨X, hX⟩ : ∃ X, X = w.heap.size := ⟨_, rfl⟩
 rw [← hX] at HW1 ⊢
 have HXE : Hid (X = w.heap.size) := hX
 have hgX : g ≠ X := by omega
 have hvX : vb ≠ X := by omega
 clear hX
 have HR2 := row_put2 R0.toList xs x i G (by rw [← HN.out]; omega) (by rw [Array.length_toList]; exact HRS.out) (by rw [← HN.out]; exact hGn) HRT.out
 obtain ⟨R1, hR1⟩ : ∃ R1 : List Value, R1 = R0.toList.take (i * 2) ++ encR.enc x ++ R0.toList.drop (i * 2 + (encR.enc x).length) := ⟨_, rfl⟩
 have HC1 : Hid (∀ ty dc, (Builtin.copy_ #[59, 59] ty #[.slice (some ⟨X, i * 2, none⟩) (n + 1 - i) dc, .slice (some ⟨vb, 0, none⟩) 1 1]).run Tryz.prog W1 = .ok (goInt (Nat.min 1 (n + 1 - i))) (W1.setRow X R1.toArray)) := fun ty dc => by
  rw [hR1]
  refine run_copyK W1 59 59 ty 98 X (i * 2) (n + 1 - i) dc ⟨vb, 0, none⟩ 1 1 2 R0 98 (encR.enc x) Tryz.underlying59 (by kernel_rfl) HW1.out ?_ ?_ ?_ oneR
  ·rw [show Nat.min 1 (n + 1 - i) = 1 from Nat.min_eq_left (by omega)]; rfl
  ·intro j v hj
   rw [Addr.add_lit, Nat.zero_add]
   have h := HV1.out
   unfold OneC at h
   simp only [World.cell?, h]
   rw [← hj]
   simp [encR]
  ·rw [HRS.out]
   show i * 2 + 2 ≤ _
   omega
 simp only [← hR1, ← HN.out] at HR2
 have HF1 : Hid (R1.length = G * 2) := HR2.1
 have HF2 : Hid ((R1.take ((i + 1) * 2) ++ encR.cells (xs.drop i) ++ R1.drop ((i + 1) * 2 + (encR.cells (xs.drop i)).length)).length = G * 2 ∧ (R1.take ((i + 1) * 2) ++ encR.cells (xs.drop i) ++ R1.drop ((i + 1) * 2 + (encR.cells (xs.drop i)).length)).take ((n + 1) * 2) = encR.cells (insAt xs i x)) := HR2.2
 clear HR2 hR1
 rw [HC1.out]
 have HW2 : Hid ((W1.setRow X R1.toArray).heap[X]? = some (.cells R1.toArray 98 (0, 0))) := setRow_heap W1 X R0 R1.toArray 98 (0, 0) HW1.out
 have HB2 : Hid (Below w.heap.size w (W1.setRow X R1.toArray)) := HB1.out.grown ⟨rfl, rfl, rfl, by simp, fun j _ hj => setRow_other W1 X j R1.toArray (fun e => hj (by rw [e]))⟩ HB1.out.size (fun j hj => by cases hj; rw [← HXE.out]; exact Nat.le_refl _)
 generalize W1.setRow X R1.toArray = W2 at *
 have f8 : ((i + 1 : Nat) : Int) ≤ ((n + 1 : Nat) : Int) := by omega
 have f9 : (0 : Int) ≤ (i : Int) + 1 := by omega
 have f10 : (i : Int) + 1 ≤ (n : Int) + 1 := by omega
 have f11 : IntKind.i64.wrap ((i : Int) + 1) = ((i + 1 : Nat) : Int) := by rw [IntKind.wrap_i64]; omega
 have f12 : ¬ (G = i + 1) := by omega
 have f13 : ¬ (G = i) := by omega
 go_wp2
 have HD : Hid ((encR.cells (xs.drop i)).length = (n - i) * 2) := by show _ = _; rw [encR.cells_len, List.length_drop, ← HN.out]; rfl
 have HC2 : Hid (∀ ty dc sc, (Builtin.copy_ #[59, 59] ty #[.slice (some ⟨X, (i + 1) * 2, none⟩) (n - i) dc, .slice (some ⟨g, i * 2, none⟩) (n - i) sc]).run Tryz.prog W2.drew = .ok (goInt (Nat.min (n - i) (n - i))) (W2.drew.setRow X (R1.take ((i + 1) * 2) ++ encR.cells (xs.drop i) ++ R1.drop ((i + 1) * 2 + (encR.cells (xs.drop i)).length)).toArray)) := fun ty dc sc => by
  refine run_copyK W2.drew 59 59 ty 98 X ((i + 1) * 2) (n - i) dc ⟨g, i * 2, none⟩ (n - i) sc 2 R1.toArray 98 (encR.cells (xs.drop i)) Tryz.underlying59 (by kernel_rfl) HW2.out ?_ ?_ ?_ (cells_one _)
  ·rw [HD.out, show Nat.min (n - i) (n - i) = n - i from Nat.min_self _]
  ·intro j v hj
   rw [Addr.add_lit]
   refine (HB2.out.drew.cell (p := ⟨g, i * 2 + j, none⟩) hgl).trans (HR.out _ v ?_)
   rw [← hj, ← cells_drop xs i (by rw [← HN.out]; omega), List.getElem?_drop]
  ·rw [HD.out, List.size_toArray, HF1.out]
   omega
 refine wp_region_held_drew (S := fun w' => True) (by kernel_rfl) trivial (fun hHeld => ?_)
 (refine tk 0 ?_ rfl (Or.inl ⟨by rfl, ?_⟩) ?_; rotate_left; (focus (intro w h; (try dsimp only at h); go_simp; (try with_reducible rfl))); simp only [Act.put, tA, tB, tD, tE, tF])
 (refine tk 1 ?_ rfl (Or.inl ⟨by rfl, ?_⟩) ?_; rotate_left; (focus (intro w h; (try dsimp only at h); go_simp; (try with_reducible rfl))); simp only [Act.put, tA, tB, tC, tD, tE, tF])
 (refine tk 2 ?_ rfl (Or.inl ⟨by rfl, ?_⟩) ?_; rotate_left; (focus (intro w h; (try dsimp only at h); go_simp; (try with_reducible rfl))); simp only [Act.put, tA, tB, tC, tD, tE, tF])
 (refine tk 3 ?_ rfl (Or.inl ⟨by rfl, ?_⟩) ?_; rotate_left; (focus (intro w h; (try dsimp only at h); go_simp; (try with_reducible rfl))); simp only [Act.put, tA, tB, tC, tD, tE, tF])
 (refine tk 4 ?_ rfl (Or.inl ⟨by rfl, ?_⟩) ?_; rotate_left; (focus (intro w h; (try dsimp only at h); go_simp; (try with_reducible rfl))); simp only [Act.put, tA, tB, tC, tD, tE, tF])
 (refine tk 5 ?_ rfl (Or.inl ⟨by rfl, ?_⟩) ?_; rotate_left; (focus (intro w h; (try dsimp only at h); go_simp; (try with_reducible rfl))); simp only [Act.put, tA, tB, tC, tD, tE, tF])
 (refine tk 6 ?_ rfl (Or.inl ⟨by rfl, ?_⟩) ?_; rotate_left; (focus (intro w h; (try dsimp only at h); go_simp; (try with_reducible rfl))); simp only [Act.put, tA, tB, tC, tD, tE, tF])
 (refine tk 7 ?_ rfl (Or.inl ⟨by rfl, ?_⟩) ?_; rotate_left; (focus (intro w h; (try dsimp only at h); go_simp; (try with_reducible rfl))); simp only [Act.put, tA, tB, tC, tD, tE, tF])
 refine wpAnyH_ready (rs := [8]) (by kernel_rfl) (by simp) ?_
 refine AllReadyH.cons rfl (fun K hK => ?_) AllReadyH.nil
 refine step_copyK rfl _ _ 59 59 rfl _ _ rfl rfl (HC2.out _ _ _) ?_
 refine hK.out _ _ trivial (fun hHeld2 => ?_)
 clear hK K hHeld hHeld2
 refine wpAnyH_done (by kernel_rfl) ?_ _
 obtain ⟨R2, hR2⟩ : ∃ R2 : List Value, R2 = R1.take ((i + 1) * 2) ++ encR.cells (xs.drop i) ++ R1.drop ((i + 1) * 2 + (encR.cells (xs.drop i)).length) := ⟨_, rfl⟩
 rw [← hR2] at HF2 ⊢
 have HW3 : Hid ((W2.drew.setRow X R2.toArray).heap[X]? = some (.cells R2.toArray 98 (0, 0))) := setRow_heap W2.drew X R1.toArray R2.toArray 98 (0, 0) HW2.out
 have HB3 : Hid (Below w.heap.size w (W2.drew.setRow X R2.toArray)) := HB2.out.drew.grown ⟨rfl, rfl, rfl, by simp, fun j _ hj => setRow_other W2.drew X j R2.toArray (fun e => hj (by rw [e]))⟩ HB2.out.drew.size (fun j hj => by cases hj; rw [← HXE.out]; exact Nat.le_refl _)
 clear hR2
 generalize W2.drew.setRow X R2.toArray = W3 at *
 go_wp2
 go_ret
 exact ⟨R2.toArray, G, by rw [← HXE.out]; rfl, HGM.out, hGn, by rw [← HXE.out]; exact HW3.out, by simpa using HF2.out.1, by simpa using HF2.out.2, HB3.out⟩

theorem insC (xs : List Rg) (x : Rg) (a : Option Addr) (c vb base i : Nat) (hn : xs.length ≤ 4000000) (hi : i ≤ xs.length) (w : World) (hown : GOwn encR 98 w base (.slice a xs.length c) xs) (hb : base ≤ w.heap.size) (hx : OneC w vb x) (hne : a ≠ some ⟨vb, 0, none⟩) :
  Calls Tryz.prog 93 #[.slice a xs.length c, .int .i64 (i : Int), .slice (some ⟨vb, 0, none⟩) 1 1] w fun e w' => ∃ a1 c1, e = .returned (.slice a1 (insAt xs i x).length c1) ∧ GOwn encR 98 w' base (.slice a1 (insAt xs i x).length c1) (insAt xs i x) ∧ Below base w w' := by
 by_cases hin : i = xs.length
 ·subst hin
  exact insEnd xs x a c vb base hn w hown hb hx
 rcases hown.2 with ⟨hv, h0⟩ | ⟨g, cap, cur, hv, hg, hh, hnc, hcp, hcs, htake⟩
 ·omega
 ·simp only [Value.slice.injEq] at hv
  obtain ⟨rfl, -, rfl⟩ := hv
  have hvg : vb ≠ g := fun e => hne (by rw [e])
  have hlt := (World.ownsRow.lt hown g rfl).2
  by_cases hroom : xs.length + 1 ≤ c
  ·refine (insRoom xs x g c vb i cur hn (by omega) hroom (by unfold maxLen at hcp; exact hcp) w hh hcs htake hx hvg).mono ?_
   rintro e w' ⟨cur', rfl, h1, h2, h3, h4⟩
   refine ⟨some ⟨g, 0, none⟩, c, by rw [insAt_len], ?_, (Below.refl _ _).grown h4 hb (fun j hj => by cases hj; exact hg)⟩
   rw [insAt_len]
   refine ⟨by rw [encR.cells_len, insAt_len], Or.inr ⟨g, c, cur', by rw [insAt_len], hg, h1, by rw [insAt_len]; exact hroom, hcp, h2, by rw [insAt_len]; exact h3⟩⟩
  ·refine (insGrow xs x g c vb i hn (by omega) hnc (by omega) w (fun j v hj => ?_) hlt hx).mono ?_
   ·have hjl : j < (encR.cells xs).length := by
     rcases Nat.lt_or_ge j (encR.cells xs).length with h | h
     ·exact h
     ·rw [List.getElem?_eq_none h] at hj; cases hj
    rw [encR.cells_len] at hjl
    rw [World.ownsRow.cellAt hown j hjl]
    exact hj
   ·rintro e w' ⟨cur', G, rfl, hGm, hGn, h1, h2, h3, h4⟩
    refine ⟨some ⟨w.heap.size, 0, none⟩, G, by rw [insAt_len], ?_, h4.mono hb⟩
    rw [insAt_len]
    exact ⟨by rw [encR.cells_len, insAt_len], Or.inr ⟨w.heap.size, G, cur', by rw [insAt_len], hb, h1, by rw [insAt_len]; exact hGn, hGm, h2, by rw [insAt_len]; exact h3⟩⟩
end Go.Proofs.YtnmggknpllnjiaaGreat

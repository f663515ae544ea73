/- What spec.PutVersions makes. -/
import Derived.Test.YtmijppfppigjcaaGreatPd01
import Derived.Test.YtmijppfppigjcaaGreatProg
import Derived.WalkKit
import Derived.WalkSpells
import Derived.WalkLawsBesides
import Derived.Deep.QuietTactic
import Derived.BigQuiet
import Derived.Deep.RegionHeld3
import Derived.Deep.DrawnRows
import Derived.Test.YtmijppfppigjcaaGreatPd07
import Derived.Deep.AppendLies
import Derived.Test.YtmijppfppigjcaaGreatPd02
import Derived.Shelf.Small.Strs
import Derived.Shelf.Small.Wraps
import Derived.Shelf.LaysM
import Derived.Shelf.Strconv.Clone
import Derived.Deep.RegionHeld
import Derived.Test.YtmijppfppigjcaaGreatPd03
import Derived.Test.YtmijppfppigjcaaGreatPd06
import Derived.Lib.SlicesCompact
import Derived.Sort.Walk0
import Derived.Sort.OwnSorted
import Derived.Lib.RowBridge
import Derived.Deep.LoopGhost
import Derived.Test.YtmijppfppigjcaaGreatPd08
namespace Go.Proofs.YtmijppfppigjcaaGreat
open Go.RowKit
open KM
open VM
attribute [local go_sem ↓] Go.wp_at_zero Go.wp_at_succ

def leV (v : Vr) (a : Vr) : Bool := lt a.1 v.1 || (decide (a.1 = v.1) && decide (a.2.2.2 ≤ v.2.2.2))
def insV (l : List Vr) (v : Vr) : List Vr := l.takeWhile (leV v) ++ v :: l.dropWhile (leV v)
def verOf (cs : Int) (x : Wt) : Vr := (x.1, x.2.1, x.2.2, cs)
def putV (l : List Vr) (ws : List Wt) (cs : Int) : List Vr := ws.foldl (fun acc x => insV acc (verOf cs x)) l
theorem putV_snoc (l : List Vr) (ws : List Wt) (cs : Int) (i : Nat) (h : i < ws.length) : putV l (ws.take (i + 1)) cs = insV (putV l (ws.take i) cs) (verOf cs ws[i]) := by
 unfold putV
 rw [List.take_succ_eq_append_getElem h, List.foldl_append]; rfl
theorem ins_len (l : List Vr) (v : Vr) : (insV l v).length = l.length + 1 := by
 unfold insV
 have h := congrArg List.length (List.takeWhile_append_dropWhile (p := leV v) (l := l))
 rw [List.length_append] at h
 rw [List.length_append, List.length_cons]
 omega
theorem put_len (l : List Vr) (cs : Int) : ∀ ws : List Wt, (putV l ws cs).length = l.length + ws.length := by
 intro ws
 induction ws generalizing l with
 | nil => rfl
 | cons x ws ih =>
  show (putV (insV l (verOf cs x)) ws cs).length = _
  rw [ih, ins_len, List.length_cons]; omega
theorem ins_cut {l : List Vr} {v : Vr} : ∀ {k : Nat}, k ≤ l.length → (∀ j (hj : j < l.length), j < k → leV v l[j] = true) → (∀ (hk : k < l.length), leV v l[k] = false) → l.take k ++ v :: l.drop k = insV l v := by
 induction l with
 | nil => intro k _ _ _; simp [insV]
 | cons x l ih =>
  intro k hk h1 h2
  cases k with
  | zero =>
   have := h2 (by simp)
   simp only [List.getElem_cons_zero] at this
   simp [insV, this]
  | succ k =>
   have hx := h1 0 (by simp) (by omega)
   simp only [List.getElem_cons_zero] at hx
   have := ih (k := k) (by simpa using hk) (fun j hj hjk => by have := h1 (j + 1) (by simpa using hj) (by omega); simpa using this) (fun hk' => by have := h2 (by simpa using hk'); simpa using this)
   unfold insV at this ⊢
   rw [List.takeWhile_cons_of_pos hx, List.dropWhile_cons_of_pos hx]
   simp only [List.take_succ_cons, List.drop_succ_cons, List.cons_append]
   rw [this]

theorem wpAppRowV {ops : Array Oper} {rest : List Oper} {o : Oper} {a : Act} {Q : Exit → Act → World → Prop} (hgd : o.guard = none) (s x : Operand) (ho : o.op = .call { callee := .builtin .append, args := #[s, x], argTypes := #[39, 39] })
  {W : World} {base m c : Nat} {ao : Option Addr} {v : Value} {ys zs : List Vr} (hs : a.eval s = v) (hown : GOwn encV 150 W base v ys) (hx : a.eval x = .slice ao m c)
  (hsrc : (ao = none ∧ m = 0 ∧ c = 0) ∨ ∃ ad, ao = some ad ∧ ∀ j u, (encV.cells zs)[j]? = some u → W.cell? (ad.add j) = some u) (hm : zs.length = m) (hlen : ys.length + zs.length ≤ 100000000) (hB : base ≤ W.heap.size) (hne : v ≠ .slice none 0 0)
  (h : ∀ g' cap L w', L = (ys ++ zs).length → GOwn encV 150 w' base (.slice (some ⟨g', 0, none⟩) L cap) (ys ++ zs) → Below base W w' → wpList Tryz.prog ops Q rest (a.put o.dst (.slice (some ⟨g', 0, none⟩) L cap)) w') :
  wpList Tryz.prog ops Q (o :: rest) a W := by
 obtain ⟨i0, hi, hz0, hz1, hz2⟩ := info_parts Tryz.info150
 have hone : ∀ u ∈ encV.cells zs, u.oneCell' = true := fun u hu => by
  unfold Enc.cells at hu
  obtain ⟨y, _, hy⟩ := List.mem_flatMap.1 hu
  exact oneV u hy
 have key : ∃ v' w', (Builtin.append_ #[39, 39] o.type #[v, .slice ao m c]).run Tryz.prog W = .ok v' w' ∧ w'.ownsRow base 150 4 v' (ys ++ zs).length (encV.cells (ys ++ zs)) ∧ W.grownBy w' v.ownBlock ∧ v' ≠ .slice none 0 0 := by
  rw [encV.cells_app, List.length_append]
  rcases hsrc with ⟨rfl, rfl, rfl⟩ | ⟨ad, rfl, hc⟩
  ·obtain rfl : zs = [] := List.length_eq_zero_iff.1 hm
   refine ⟨v, W, run_append_owned_none (P := Tryz.prog) W base 39 o.type 150 i0 4 Tryz.underlying39 hi v _ _ hown, ?_, ⟨rfl, rfl, rfl, Nat.le_refl _, fun _ _ _ => rfl⟩, hne⟩
   have e : encV.cells ([] : List Vr) = [] := rfl
   rw [e, List.append_nil]
   exact hown
  ·obtain ⟨v', w', hr, q1, q2, q3⟩ := run_append_own (P := Tryz.prog) W base 39 o.type 150 i0 _ 4 48 Tryz.underlying39 hi hz0 hz1 hz2 rfl (by omega) v ys.length (encV.cells ys) hown ad m c (encV.cells zs) (by rw [encV.cells_len, hm]; rfl) hc hone (by unfold maxLen; omega) (by omega) hB
   refine ⟨v', w', hr, by rw [hm]; exact q1, q2, fun e => hne (q3.1 e).1⟩
 obtain ⟨v', w', hr, q1, q2, q3⟩ := key
 have hb : Below base W w' := (Below.refl _ _).grown q2 hB (fun j hj => (World.ownsRow.lt hown j hj).1)
 rcases q1.2 with ⟨hv, _⟩ | ⟨g', cap, cur, hv, _⟩
 ·exact absurd hv q3
 ·subst hv
  refine wpList_plain hgd fun K hK => ?_
  unfold Oper.wp execOp
  simp only [ho, resolve, invoke, builtin, Sem.run_bind, Sem.run_pure, Result.andThen_ok, List.map_toArray, List.map_cons, List.map_nil, hs, hx, hr]
  exact hK _ _ (h g' cap _ w' rfl q1 hb)
theorem wpAppVs {ops : Array Oper} {rest : List Oper} {o : Oper} {a : Act} {Q : Exit → Act → World → Prop} (hgd : o.guard = none) (s x : Operand) (ho : o.op = .call { callee := .builtin .append, args := #[s, x], argTypes := #[39, 39] })
  {W : World} {base : Nat} {v : Value} {xs : List Vr} (y : Vr) (hs : a.eval s = v) (hown : GOwn encV 150 W base v xs)
  (hx : a.eval x = .slice (some ⟨W.heap.size, 0, none⟩) 1 1) (hlen : xs.length ≤ 100000000) (hB : base ≤ W.heap.size)
  (h : ∀ g' cap L w', L = (xs ++ [y]).length → GOwn encV 150 w' base (.slice (some ⟨g', 0, none⟩) L cap) (xs ++ [y]) → Below base W w' → wpList Tryz.prog ops Q rest (a.put o.dst (.slice (some ⟨g', 0, none⟩) L cap)) w') :
  wpList Tryz.prog ops Q (o :: rest) a (W.alloc (.cells #[.string y.1, .string y.2.1, .bool y.2.2.1, .int .i64 y.2.2.2] 150)) := by
 refine wpAppG 39 150 4 48 _ Tryz.underlying39 Tryz.info150 rfl (by omega) (by omega) hgd s x ho (encV.enc y) hs (World.ownsRow.alloc hown _) hx (heapAllocNew W _ _) rfl oneV (by omega) (by simp; omega) ?_
 intro g' cap w' h1 h2
 have e : encV.cells (xs ++ [y]) = encV.cells xs ++ encV.enc y := by rw [encV.cells_app]; simp [Enc.cells]
 have el : (xs ++ [y]).length = xs.length + 1 := by simp
 have h3 := h g' cap _ w' rfl (by unfold GOwn; rw [e, el]; exact h1) (((Below.refl _ _).alloc hB _).trans h2)
 rw [el] at h3
 exact h3
theorem drop_cells {W : World} {base g cap : Nat} {l : List Vr} (h : GOwn encV 150 W base (.slice (some ⟨g, 0, none⟩) l.length cap) l) (k : Nat) (hk : k ≤ l.length) : ∀ j u, (encV.cells (l.drop k))[j]? = some u → W.cell? ((⟨g, k * 4, none⟩ : Addr).add j) = some u := by
 intro j u hj
 have e : encV.cells l = encV.cells (l.take k) ++ encV.cells (l.drop k) := by rw [← encV.cells_app, List.take_append_drop]
 have el : (encV.cells (l.take k)).length = k * 4 := by rw [encV.cells_len, List.length_take, Nat.min_eq_left hk]; rfl
 have hjl : j < (encV.cells (l.drop k)).length := by
  by_cases hj' : j < (encV.cells (l.drop k)).length
  ·exact hj'
  ·rw [List.getElem?_eq_none (by omega)] at hj; cases hj
 have hjl2 : k * 4 + j < l.length * 4 := by
  have e2 : (encV.cells (l.drop k)).length = (l.length - k) * 4 := by rw [encV.cells_len, List.length_drop]; rfl
  omega
 rw [Addr.add_lit]
 rw [World.ownsRow.cellAt h (k * 4 + j) hjl2, e, List.getElem?_append_right (by omega), el, show k * 4 + j - k * 4 = j by omega]
 exact hj
theorem gown_shape {W : World} {base : Nat} {v : Value} {l : List Vr} (h : GOwn encV 150 W base v l) : v = .slice none 0 0 ∧ l = [] ∨ ∃ g cap, v = .slice (some ⟨g, 0, none⟩) l.length cap ∧ l.length ≤ cap := by
 rcases h.2 with ⟨rfl, h0⟩ | ⟨g, cap, cur, rfl, _, _, hnc, _⟩
 ·exact Or.inl ⟨rfl, List.length_eq_zero_iff.1 h0⟩
 ·exact Or.inr ⟨g, cap, rfl, hnc⟩

set_option maxRecDepth 100000 in
set_option maxHeartbeats 4000000 in
theorem sputv (xs : List Vr) (ws : List Wt) (v0 : Value) (a2 : Option Addr) (c2 : Nat) (cs : Int) (b0 : Nat) (hn : xs.length ≤ 2000000) (hm : ws.length ≤ 2000000) (w : World) (hp : GOwn encV 150 w b0 v0 xs) (hq : GRow encW w a2 ws) :
  Calls Tryz.prog 53 #[v0, .slice a2 ws.length c2, .int .i64 cs] w fun e w' => ∃ a1 c1, e = .returned (.slice a1 (putV xs ws cs).length c1) ∧ GOwn encV 150 w' w.heap.size (.slice a1 (putV xs ws cs).length c1) (putV xs ws cs) ∧ Below w.heap.size w w' := by
 have HQ : Hid (GRow encW w a2 ws) := hq
 have hE : GOwn encV 150 (w.alloc (.cells #[] 150)) w.heap.size (.slice (some ⟨w.heap.size, 0, none⟩) 0 0) [] := GOwn.empty w _ (Nat.le_refl _)
 have HE := hide hE
 have HBe : Hid (Below w.heap.size w (w.alloc (.cells #[] 150))) := (belowRefl w).alloc (Nat.le_refl _) _
 have HSrc : Hid (∃ ao c, v0 = .slice ao xs.length c ∧ ((ao = none ∧ xs.length = 0 ∧ c = 0) ∨ ∃ ad, ao = some ad ∧ ∀ j u, (encV.cells xs)[j]? = some u → (w.alloc (.cells #[] 150)).cell? (ad.add j) = some u)) := by
  have h1 := hp.alloc (.cells #[] 150)
  rcases gown_shape hp with ⟨rfl, rfl⟩ | ⟨g, cap, rfl, hcap⟩
  ·exact ⟨none, 0, rfl, Or.inl ⟨rfl, rfl, rfl⟩⟩
  ·refine ⟨some ⟨g, 0, none⟩, cap, rfl, Or.inr ⟨_, rfl, ?_⟩⟩
   have h2 := drop_cells h1 0 (Nat.zero_le _)
   simpa using h2
 clear hq hp hE
 obtain ⟨ao, c, rfl, hsrc⟩ := HSrc.out
 have HS2 := hide hsrc
 clear hsrc HSrc
 go_enter Tryz.func53, Tryz.ntmps53
 go_wp2_with (at_builtin; refine wpAppRowV (v := .slice (some ⟨w.heap.size, 0, none⟩) 0 0) rfl _ _ rfl rfl HE.out rfl HS2.out rfl (by simp; omega) HBe.out.size (fun h => by cases h) ?_)
 intro g1 cap1 L1 w1 hL1 ho1 hb1
 obtain rfl : L1 = xs.length := by simpa using hL1
 clear hL1
 have HO1 := hide ho1
 have HB1 : Hid (Below w.heap.size w w1) := HBe.out.trans hb1
 clear ho1 hb1 HE HBe HS2
 go_wp2
 go_loopw [7, 8] (fun v t wr => ∃ (i g cap : Nat), i ≤ ws.length ∧ t = .int .i64 i ∧ v = .slice (some ⟨g, 0, none⟩) (putV xs (ws.take i) cs).length cap ∧ Hid (GOwn encV 150 wr w.heap.size (.slice (some ⟨g, 0, none⟩) (putV xs (ws.take i) cs).length cap) (putV xs (ws.take i) cs)) ∧ Hid (Below w.heap.size w wr)) (fun _ t _ => ws.length - (intOf t).toNat)
 case atStart => exact ⟨0, g1, cap1, Nat.zero_le _, rfl, rfl, HO1, HB1⟩
 case round =>
  clear HO1 HB1
  obtain ⟨i, g, cap, hi, rfl, hv, HO, HB⟩ := hrel
  have hol : (putV xs (ws.take i) cs).length ≤ 4000000 := by rw [put_len, List.length_take]; omega
  by_cases hlt : i < ws.length
  ·have hlt' : (i : Int) < (ws.length : Int) := by omega
   have hi0 : (0 : Int) ≤ (i : Int) := by omega
   have HPs : Hid (putV xs (ws.take (i + 1)) cs = insV (putV xs (ws.take i) cs) (verOf cs ws[i])) := putV_snoc xs ws cs i hlt
   generalize putV xs (ws.take i) cs = l at hv HO hol HPs
   subst hv
   obtain ⟨b, off, rfl, hbl, hc⟩ := (HQ.out.below HB.out) (by omega)
   have d0 := (wat hc i hlt).1
   have d1 := (wat hc i hlt).2.1
   have d2 := (wat hc i hlt).2.2
   clear hc
   obtain ⟨y, hy⟩ : ∃ y, y = verOf cs ws[i] := ⟨_, rfl⟩
   have y0 : ws[i].1 = y.1 := by rw [hy]; rfl
   have y1 : ws[i].2.1 = y.2.1 := by rw [hy]; rfl
   have y2 : ws[i].2.2 = y.2.2.1 := by rw [hy]; rfl
   have y3 : y.2.2.2 = cs := by rw [hy]; rfl
   rw [← hy] at HPs
   rw [y0] at d0
   rw [y1] at d1
   rw [y2] at d2
   have HY3 : Hid (y.2.2.2 = cs) := y3
   clear hy y0 y1 y2 y3
   have hcap : l.length ≤ cap := by
    rcases gown_shape HO.out with ⟨h, _⟩ | ⟨_, _, h, h2⟩
    ·cases h
    ·cases h; exact h2
   go_wp2
   have XB : Hid (Bx (wr.alloc (.cells #[.string y.1, .string y.2.1, .bool y.2.2.1, .int .i64 cs] 150)).drew wr.heap.size [.string y.1, .string y.2.1, .bool y.2.2.1, .int .i64 cs]) := (Bx.new wr [.string y.1, .string y.2.1, .bool y.2.2.1, .int .i64 cs] 150).drew
   have HOw : Hid (GOwn encV 150 (wr.alloc (.cells #[.string y.1, .string y.2.1, .bool y.2.2.1, .int .i64 cs] 150)).drew w.heap.size (.slice (some ⟨g, 0, none⟩) l.length cap) l) := (HO.out.alloc _).drew
   have HBw : Hid (Below w.heap.size w (wr.alloc (.cells #[.string y.1, .string y.2.1, .bool y.2.2.1, .int .i64 cs] 150)).drew) := (HB.out.alloc HB.out.size _).drew
   refine wp_region_held_drew (S := fun w' => w'.cell? ⟨b, off + i * 3, none⟩ = some (.string y.1) ∧ w'.cell? ⟨b, off + i * 3 + 1, none⟩ = some (.string y.2.1) ∧ w'.cell? ⟨b, off + i * 3 + 2, none⟩ = some (.bool y.2.2.1)) (by kernel_rfl) ⟨d0, d1, d2⟩ (fun hHeld => ?_)
   (refine ti 0 ?_; simp only [Act.put, tA, tB, tD, tE, tF])
   (refine ti 1 ?_; simp only [Act.put, tA, tB, tC, tD, tE, tF])
   (refine ti 2 ?_; simp only [Act.put, tA, tB, tC, tD, tE, tF])
   (refine ti 3 ?_; simp only [Act.put, tA, tB, tC, tD, tE, tF])
   (refine ti 4 ?_; simp only [Act.put, tA, tB, tC, tD, tE, tF])
   (refine ti 5 ?_; simp only [Act.put, tA, tB, tC, tD, tE, tF])
   (refine ti 6 ?_; simp only [Act.put, tA, tB, tC, tD, tE, tF])
   (refine ti 7 ?_; simp only [Act.put, tA, tB, tC, tD, tE, tF])
   (refine ti 8 ?_; simp only [Act.put, tA, tB, tC, tD, tE, tF])
   (refine ti 9 ?_; simp only [Act.put, tA, tB, tC, tD, tE, tF])
   (refine ti 10 ?_; simp only [Act.put, tA, tB, tC, tD, tE, tF])
   (refine ti 11 ?_; simp only [Act.put, tA, tB, tC, tD, tE, tF])
   (refine ti 12 ?_; simp only [Act.put, tA, tB, tC, tD, tE, tF])
   (refine ti 13 ?_; simp only [Act.put, tA, tB, tC, tD, tE, tF])
   (refine ti 14 ?_; simp only [Act.put, tA, tB, tC, tD, tE, tF])
   (refine ti 15 ?_; simp only [Act.put, tA, tB, tC, tD, tE, tF])
   (refine ti 16 ?_; simp only [Act.put, tA, tB, tC, tD, tE, tF])
   refine wpAnyH_ready (rs := [17]) (by kernel_rfl) (by simp) ?_
   refine AllReadyH.cons rfl (fun K hK => ?_) AllReadyH.nil
   go_simp
   have q0 := (((belowRefl wr).alloc (Nat.le_refl _) (.cells #[.string ⟨#[]⟩, .string ⟨#[]⟩, .bool false, .int .i64 0] 150)).cell (p := ⟨b, off + i * 3, none⟩) hbl).trans d0
   have q1 := (((belowRefl wr).alloc (Nat.le_refl _) (.cells #[.string ⟨#[]⟩, .string ⟨#[]⟩, .bool false, .int .i64 0] 150)).cell (p := ⟨b, off + i * 3 + 1, none⟩) hbl).trans d1
   have q2 := (((belowRefl wr).alloc (Nat.le_refl _) (.cells #[.string ⟨#[]⟩, .string ⟨#[]⟩, .bool false, .int .i64 0] 150)).cell (p := ⟨b, off + i * 3 + 2, none⟩) hbl).trans d2
   go_wp2_with fail
   refine hK.out _ _ ⟨q0, q1, q2⟩ (fun hHeld2 => ?_)
   clear hK K
   refine wpAnyH_ready (rs := [18]) (by kernel_rfl) (by simp) ?_
   refine AllReadyH.cons rfl (fun K hK => ?_) AllReadyH.nil
   go_simp
   have p0 := (((belowRefl wr).alloc (Nat.le_refl _) (.cells #[.string y.1, .string y.2.1, .bool y.2.2.1, .int .i64 cs] 150)).cell (p := ⟨b, off + i * 3, none⟩) hbl).trans d0
   have p1 := (((belowRefl wr).alloc (Nat.le_refl _) (.cells #[.string y.1, .string y.2.1, .bool y.2.2.1, .int .i64 cs] 150)).cell (p := ⟨b, off + i * 3 + 1, none⟩) hbl).trans d1
   have p2 := (((belowRefl wr).alloc (Nat.le_refl _) (.cells #[.string y.1, .string y.2.1, .bool y.2.2.1, .int .i64 cs] 150)).cell (p := ⟨b, off + i * 3 + 2, none⟩) hbl).trans d2
   refine hK.out _ _ ⟨p0, p1, p2⟩ (fun hHeld3 => ?_)
   clear hK K
   refine wpAnyH_done (by kernel_rfl) ?_ _
   generalize (wr.alloc (.cells #[.string y.1, .string y.2.1, .bool y.2.2.1, .int .i64 cs] 150)).drew = W at *
   go_wp2
   go_loopw [10, 11] (fun v t wk => ∃ k : Nat, k ≤ l.length ∧ t = .int .i64 k ∧ Hid (GOwn encV 150 wk W.heap.size v (l.take k)) ∧ Hid (∀ j (hj : j < l.length), j < k → leV y l[j] = true) ∧ Hid (Below W.heap.size W wk)) (fun _ t _ => l.length - (intOf t).toNat)
   case atStart => exact ⟨0, Nat.zero_le _, rfl, GOwn.empty W _ (Nat.le_refl _), (fun j hj h => by omega), (belowRefl W).alloc (Nat.le_refl _) _⟩
   case round =>
    rename World => wk
    obtain ⟨k, hk, rfl, HN, HL, HBk⟩ := hrel
    have hk0 : (0 : Int) ≤ (k : Int) := by omega
    have xq := XB.out.below HBk.out
    have x0 := xq.c0
    have x3 := xq.c3
    clear xq
    by_cases hkl : k < l.length
    ·have hkl' : (k : Int) < (l.length : Int) := by omega
     have hkd : decide ((k : Int) < (l.length : Int)) = true := by simpa using hkl'
     have hrw := (HOw.out.below HBk.out).grow
     obtain ⟨b5, o5, hbo, _, hc5⟩ := hrw (by omega)
     cases hbo
     have r0 := (vat hc5 k hkl).1
     have r1 := (vat hc5 k hkl).2.1
     have r2 := (vat hc5 k hkl).2.2.1
     have r3 := (vat hc5 k hkl).2.2.2
     simp only [Nat.zero_add] at r0 r1 r2 r3
     clear hc5 hrw
     cases hL : Op.bytesLess l[k].1.toList y.1.toList
     ·cases hE : (l[k].1.toList == y.1.toList)
      ·have HStop : Hid (∀ (hk : k < l.length), leV y l[k] = false) := fun h => by unfold leV lt; rw [hL, ← beq_text, hE]; rfl
       go_wp2
       refine wp_region_held_drew (S := fun w' => w'.cell? ⟨g, k * 4, none⟩ = some (.string l[k].1) ∧ w'.cell? ⟨g, k * 4 + 3, none⟩ = some (.int .i64 l[k].2.2.2) ∧ w'.cell? ⟨wr.heap.size, 0, none⟩ = some (.string y.1) ∧ w'.cell? ⟨wr.heap.size, 3, none⟩ = some (.int .i64 cs)) (by kernel_rfl) ⟨r0, r3, x0, x3⟩ (fun hHeld => ?_)
       (refine ti 0 ?_; simp only [Act.put, tA, tB, tD, tE, tF])
       (refine ti 1 ?_; simp only [Act.put, tA, tB, tC, tD, tE, tF])
       (refine ti 2 ?_; simp only [Act.put, tA, tB, tC, tD, tE, tF])
       (refine ti 3 ?_; simp only [Act.put, tA, tB, tC, tD, tE, tF])
       (refine ti 4 ?_; simp only [Act.put, tA, tB, tC, tD, tE, tF])
       (refine ti 5 ?_; simp only [Act.put, tA, tB, tC, tD, tE, tF])
       (refine ti 6 ?_; simp only [Act.put, tA, tB, tC, tD, tE, tF])
       (refine ti 7 ?_; simp only [Act.put, tA, tB, tC, tD, tE, tF])
       (refine ti 8 ?_; simp only [Act.put, tA, tB, tC, tD, tE, tF])
       (refine ti 9 ?_; simp only [Act.put, tA, tB, tC, tD, tE, tF])
       (refine ti 10 ?_; simp only [Act.put, tA, tB, tC, tD, tE, tF])
       (refine ti 11 ?_; simp only [Act.put, tA, tB, tC, tD, tE, tF])
       (refine ti 12 ?_; simp only [Act.put, tA, tB, tC, tD, tE, tF])
       (refine ti 13 ?_; simp only [Act.put, tA, tB, tC, tD, tE, tF])
       (refine ti 14 ?_; simp only [Act.put, tA, tB, tC, tD, tE, tF])
       (refine ti 15 ?_; simp only [Act.put, tA, tB, tC, tD, tE, tF])
       (refine ti 16 ?_; simp only [Act.put, tA, tB, tC, tD, tE, tF])
       (refine ti 17 ?_; simp only [Act.put, tA, tB, tC, tD, tE, tF])
       (refine ti 18 ?_; simp only [Act.put, tA, tB, tC, tD, tE, tF])
       (refine ti 19 ?_; simp only [Act.put, tA, tB, tC, tD, tE, tF])
       (refine ti 20 ?_; simp only [Act.put, tA, tB, tC, tD, tE, tF])
       (refine ti 21 ?_; simp only [Act.put, tA, tB, tC, tD, tE, tF])
       (refine ti 22 ?_; simp only [Act.put, tA, tB, tC, tD, tE, tF])
       (refine tu 23 ?_; simp only [Act.put, tA, tB, tC, tD, tE, tF])
       (refine tu 24 ?_; simp only [Act.put, tA, tB, tC, tD, tE, tF])
       (refine tu 25 ?_; simp only [Act.put, tA, tB, tC, tD, tE, tF])
       (refine tu 26 ?_; simp only [Act.put, tA, tB, tC, tD, tE, tF])
       (refine tu 27 ?_; simp only [Act.put, tA, tB, tC, tD, tE, tF])
       (refine tu 28 ?_; simp only [Act.put, tA, tB, tC, tD, tE, tF])
       (refine tu 29 ?_; simp only [Act.put, tA, tB, tC, tD, tE, tF])
       (refine tu 30 ?_; simp only [Act.put, tA, tB, tC, tD, tE, tF])
       (refine ti 31 ?_; simp only [Act.put, tA, tB, tC, tD, tE, tF])
       (refine ti 32 ?_; simp only [Act.put, tA, tB, tC, tD, tE, tF])
       (refine ti 33 ?_; simp only [Act.put, tA, tB, tC, tD, tE, tF])
       refine wpAnyH_done (by kernel_rfl) ?_ _
       have xb := XB.out.below HBk.out
       have x0' := xb.c0
       have x1' := xb.c1
       have x2' := xb.c2
       have x3' := xb.c3
       have Hyy : Hid (((y.1, y.2.1, y.2.2.1, cs) : Vr) = y) := by show _ = _; rw [← HY3.out]
       have HIn : Hid (l.take k ++ y :: l.drop k = insV l y) := ins_cut hk HL.out HStop.out
       have HNk := hide (HN.out.drewN 1)
       have HBn : Hid (Below W.heap.size W (wk.drewN 1)) := below_drewN HBk.out 1
       have htl : (l.take k).length ≤ 100000000 := by rw [List.length_take]; omega
       go_wp2_with (at_builtin; refine wpAppVs rfl _ _ rfl (y.1, y.2.1, y.2.2.1, cs) rfl HNk.out rfl htl HBn.out.size ?_)
       intro g3 cap3 L3 w3 hL3 ho3 hb3
       rw [Hyy.out] at ho3
       have HL3 : Hid (L3 = (l.take k ++ [y]).length) := by show _ = _; rw [List.length_append, List.length_singleton, List.length_take, Nat.min_eq_left hk]; first | exact hL3 | (simp at hL3; omega)
       clear hL3
       have HO3 := hide ho3
       have HB3 : Hid (Below W.heap.size W w3) := HBn.out.trans hb3
       have HSr : Hid (GOwn encV 150 w3 w.heap.size (.slice (some ⟨g, 0, none⟩) l.length cap) l) := HOw.out.below HB3.out
       have HDc := hide (drop_cells HSr.out k hk)
       have hll3 : (l.take k ++ [y]).length + (l.drop k).length ≤ 100000000 := by simp only [List.length_append, List.length_singleton, List.length_take, List.length_drop]; omega
       clear ho3 hb3
       have hkc : k ≤ cap := by omega
       have hkI : (k : Int) ≤ (l.length : Int) := by omega
       have hkC : (l.length : Int) ≤ (cap : Int) := by omega
       go_wp2_with (at_builtin; refine wpAppRowV (v := .slice (some ⟨g3, 0, none⟩) L3 cap3) rfl _ _ rfl rfl HO3.out rfl (Or.inr ⟨_, rfl, HDc.out⟩) (by rw [List.length_drop]) hll3 HB3.out.size (fun h => by cases h) ?_)
       intro g4 cap4 L4 w4 hL4 ho4 hb4
       have HEq : Hid (L4 = (putV xs (ws.take (i + 1)) cs).length) := by
        show _ = _
        rw [HPs.out, ← HIn.out, List.length_append, List.length_cons, List.length_take, List.length_drop, Nat.min_eq_left hk]; first | exact hL4 | (simp at hL4; omega)
       have HO4 : Hid (GOwn encV 150 w4 w.heap.size (.slice (some ⟨g4, 0, none⟩) (putV xs (ws.take (i + 1)) cs).length cap4) (putV xs (ws.take (i + 1)) cs)) := by
        show GOwn _ _ _ _ _ _
        rw [← HEq.out, HPs.out, ← HIn.out]
        have e : l.take k ++ [y] ++ l.drop k = l.take k ++ y :: l.drop k := by simp
        have h := ho4
        first | exact h.mono HBw.out.size | (rw [e] at h; exact h.mono HBw.out.size)
       have HB4 : Hid (Below w.heap.size w w4) := HBw.out.trans ((HB3.out.trans hb4).mono HBw.out.size)
       clear ho4 hb4 hL4
       go_wp2
       go_roundw
       case rel => exact ⟨i + 1, g4, cap4, by omega, by go_num, by rw [HEq.out], HO4, HB4⟩
       case measure => simp [intOf]; omega
      ·by_cases hC : l[k].2.2.2 ≤ cs
       ·have hC' : decide (l[k].2.2.2 ≤ cs) = true := by simpa using hC
        have HLe : Hid (leV y l[k] = true) := by show _ = _; unfold leV lt; rw [hL, ← beq_text, hE, HY3.out, hC']; rfl
        go_wp2
        refine wp_region_held_drew (S := fun w' => w'.cell? ⟨g, k * 4, none⟩ = some (.string l[k].1) ∧ w'.cell? ⟨g, k * 4 + 3, none⟩ = some (.int .i64 l[k].2.2.2) ∧ w'.cell? ⟨wr.heap.size, 0, none⟩ = some (.string y.1) ∧ w'.cell? ⟨wr.heap.size, 3, none⟩ = some (.int .i64 cs)) (by kernel_rfl) ⟨r0, r3, x0, x3⟩ (fun hHeld => ?_)
        (refine ti 0 ?_; simp only [Act.put, tA, tB, tD, tE, tF])
        (refine ti 1 ?_; simp only [Act.put, tA, tB, tC, tD, tE, tF])
        (refine ti 2 ?_; simp only [Act.put, tA, tB, tC, tD, tE, tF])
        (refine ti 3 ?_; simp only [Act.put, tA, tB, tC, tD, tE, tF])
        (refine ti 4 ?_; simp only [Act.put, tA, tB, tC, tD, tE, tF])
        (refine ti 5 ?_; simp only [Act.put, tA, tB, tC, tD, tE, tF])
        (refine ti 6 ?_; simp only [Act.put, tA, tB, tC, tD, tE, tF])
        (refine ti 7 ?_; simp only [Act.put, tA, tB, tC, tD, tE, tF])
        (refine ti 8 ?_; simp only [Act.put, tA, tB, tC, tD, tE, tF])
        (refine ti 9 ?_; simp only [Act.put, tA, tB, tC, tD, tE, tF])
        (refine ti 10 ?_; simp only [Act.put, tA, tB, tC, tD, tE, tF])
        (refine ti 11 ?_; simp only [Act.put, tA, tB, tC, tD, tE, tF])
        (refine ti 12 ?_; simp only [Act.put, tA, tB, tC, tD, tE, tF])
        (refine ti 13 ?_; simp only [Act.put, tA, tB, tC, tD, tE, tF])
        (refine ti 14 ?_; simp only [Act.put, tA, tB, tC, tD, tE, tF])
        (refine ti 15 ?_; simp only [Act.put, tA, tB, tC, tD, tE, tF])
        (refine ti 16 ?_; simp only [Act.put, tA, tB, tC, tD, tE, tF])
        (refine ti 17 ?_; simp only [Act.put, tA, tB, tC, tD, tE, tF])
        (refine ti 18 ?_; simp only [Act.put, tA, tB, tC, tD, tE, tF])
        (refine ti 19 ?_; simp only [Act.put, tA, tB, tC, tD, tE, tF])
        (refine ti 20 ?_; simp only [Act.put, tA, tB, tC, tD, tE, tF])
        (refine ti 21 ?_; simp only [Act.put, tA, tB, tC, tD, tE, tF])
        (refine ti 22 ?_; simp only [Act.put, tA, tB, tC, tD, tE, tF])
        (refine ti 23 ?_; simp only [Act.put, tA, tB, tC, tD, tE, tF])
        (refine ti 24 ?_; simp only [Act.put, tA, tB, tC, tD, tE, tF])
        (refine ti 25 ?_; simp only [Act.put, tA, tB, tC, tD, tE, tF])
        (refine ti 26 ?_; simp only [Act.put, tA, tB, tC, tD, tE, tF])
        (refine ti 27 ?_; simp only [Act.put, tA, tB, tC, tD, tE, tF])
        (refine ti 28 ?_; simp only [Act.put, tA, tB, tC, tD, tE, tF])
        (refine ti 29 ?_; simp only [Act.put, tA, tB, tC, tD, tE, tF])
        (refine ti 30 ?_; simp only [Act.put, tA, tB, tC, tD, tE, tF])
        (refine ti 31 ?_; simp only [Act.put, tA, tB, tC, tD, tE, tF])
        (refine ti 32 ?_; simp only [Act.put, tA, tB, tC, tD, tE, tF])
        (refine ti 33 ?_; simp only [Act.put, tA, tB, tC, tD, tE, tF])
        refine wpAnyH_done (by kernel_rfl) ?_ _
        have HL2 : Hid (∀ j (hj : j < l.length), j < k + 1 → leV y l[j] = true) := fun j hj h => by
         by_cases e : j = k
         ·subst e; exact HLe.out
         ·exact HL.out j hj (by omega)
        have HNk := hide (HN.out.drewN 1)
        have HBn : Hid (Below W.heap.size W (wk.drewN 1)) := below_drewN HBk.out 1
        have htl : (l.take k).length ≤ 100000000 := by rw [List.length_take]; omega
        go_wp2_with (at_builtin; refine wpAppV rfl _ _ rfl l[k] rfl HNk.out rfl htl HBn.out.size ?_)
        intro v' w' ho' hb'
        have HN2 : Hid (GOwn encV 150 w' W.heap.size v' (l.take (k + 1))) := by
         show GOwn _ _ _ _ _ _
         first | exact ho' | (rw [List.take_succ_eq_append_getElem hkl]; exact ho')
        have HB2 : Hid (Below W.heap.size W w') := HBn.out.trans hb'
        clear ho' hb'
        go_wp2
        go_roundw
        case rel => exact ⟨k + 1, by omega, by go_num, HN2, HL2, HB2⟩
        case measure => simp [intOf]; omega
       ·have hC' : decide (l[k].2.2.2 ≤ cs) = false := by simpa using hC
        have HStop : Hid (∀ (hk : k < l.length), leV y l[k] = false) := fun h => by unfold leV lt; rw [hL, ← beq_text, hE, HY3.out, hC']; rfl
        go_wp2
        refine wp_region_held_drew (S := fun w' => w'.cell? ⟨g, k * 4, none⟩ = some (.string l[k].1) ∧ w'.cell? ⟨g, k * 4 + 3, none⟩ = some (.int .i64 l[k].2.2.2) ∧ w'.cell? ⟨wr.heap.size, 0, none⟩ = some (.string y.1) ∧ w'.cell? ⟨wr.heap.size, 3, none⟩ = some (.int .i64 cs)) (by kernel_rfl) ⟨r0, r3, x0, x3⟩ (fun hHeld => ?_)
        (refine ti 0 ?_; simp only [Act.put, tA, tB, tD, tE, tF])
        (refine ti 1 ?_; simp only [Act.put, tA, tB, tC, tD, tE, tF])
        (refine ti 2 ?_; simp only [Act.put, tA, tB, tC, tD, tE, tF])
        (refine ti 3 ?_; simp only [Act.put, tA, tB, tC, tD, tE, tF])
        (refine ti 4 ?_; simp only [Act.put, tA, tB, tC, tD, tE, tF])
        (refine ti 5 ?_; simp only [Act.put, tA, tB, tC, tD, tE, tF])
        (refine ti 6 ?_; simp only [Act.put, tA, tB, tC, tD, tE, tF])
        (refine ti 7 ?_; simp only [Act.put, tA, tB, tC, tD, tE, tF])
        (refine ti 8 ?_; simp only [Act.put, tA, tB, tC, tD, tE, tF])
        (refine ti 9 ?_; simp only [Act.put, tA, tB, tC, tD, tE, tF])
        (refine ti 10 ?_; simp only [Act.put, tA, tB, tC, tD, tE, tF])
        (refine ti 11 ?_; simp only [Act.put, tA, tB, tC, tD, tE, tF])
        (refine ti 12 ?_; simp only [Act.put, tA, tB, tC, tD, tE, tF])
        (refine ti 13 ?_; simp only [Act.put, tA, tB, tC, tD, tE, tF])
        (refine ti 14 ?_; simp only [Act.put, tA, tB, tC, tD, tE, tF])
        (refine ti 15 ?_; simp only [Act.put, tA, tB, tC, tD, tE, tF])
        (refine ti 16 ?_; simp only [Act.put, tA, tB, tC, tD, tE, tF])
        (refine ti 17 ?_; simp only [Act.put, tA, tB, tC, tD, tE, tF])
        (refine ti 18 ?_; simp only [Act.put, tA, tB, tC, tD, tE, tF])
        (refine ti 19 ?_; simp only [Act.put, tA, tB, tC, tD, tE, tF])
        (refine ti 20 ?_; simp only [Act.put, tA, tB, tC, tD, tE, tF])
        (refine ti 21 ?_; simp only [Act.put, tA, tB, tC, tD, tE, tF])
        (refine ti 22 ?_; simp only [Act.put, tA, tB, tC, tD, tE, tF])
        (refine ti 23 ?_; simp only [Act.put, tA, tB, tC, tD, tE, tF])
        (refine ti 24 ?_; simp only [Act.put, tA, tB, tC, tD, tE, tF])
        (refine ti 25 ?_; simp only [Act.put, tA, tB, tC, tD, tE, tF])
        (refine ti 26 ?_; simp only [Act.put, tA, tB, tC, tD, tE, tF])
        (refine ti 27 ?_; simp only [Act.put, tA, tB, tC, tD, tE, tF])
        (refine ti 28 ?_; simp only [Act.put, tA, tB, tC, tD, tE, tF])
        (refine ti 29 ?_; simp only [Act.put, tA, tB, tC, tD, tE, tF])
        (refine ti 30 ?_; simp only [Act.put, tA, tB, tC, tD, tE, tF])
        (refine ti 31 ?_; simp only [Act.put, tA, tB, tC, tD, tE, tF])
        (refine ti 32 ?_; simp only [Act.put, tA, tB, tC, tD, tE, tF])
        (refine ti 33 ?_; simp only [Act.put, tA, tB, tC, tD, tE, tF])
        refine wpAnyH_done (by kernel_rfl) ?_ _
        have xb := XB.out.below HBk.out
        have x0' := xb.c0
        have x1' := xb.c1
        have x2' := xb.c2
        have x3' := xb.c3
        have Hyy : Hid (((y.1, y.2.1, y.2.2.1, cs) : Vr) = y) := by show _ = _; rw [← HY3.out]
        have HIn : Hid (l.take k ++ y :: l.drop k = insV l y) := ins_cut hk HL.out HStop.out
        have HNk := hide (HN.out.drewN 1)
        have HBn : Hid (Below W.heap.size W (wk.drewN 1)) := below_drewN HBk.out 1
        have htl : (l.take k).length ≤ 100000000 := by rw [List.length_take]; omega
        go_wp2_with (at_builtin; refine wpAppVs rfl _ _ rfl (y.1, y.2.1, y.2.2.1, cs) rfl HNk.out rfl htl HBn.out.size ?_)
        intro g3 cap3 L3 w3 hL3 ho3 hb3
        rw [Hyy.out] at ho3
        have HL3 : Hid (L3 = (l.take k ++ [y]).length) := by show _ = _; rw [List.length_append, List.length_singleton, List.length_take, Nat.min_eq_left hk]; first | exact hL3 | (simp at hL3; omega)
        clear hL3
        have HO3 := hide ho3
        have HB3 : Hid (Below W.heap.size W w3) := HBn.out.trans hb3
        have HSr : Hid (GOwn encV 150 w3 w.heap.size (.slice (some ⟨g, 0, none⟩) l.length cap) l) := HOw.out.below HB3.out
        have HDc := hide (drop_cells HSr.out k hk)
        have hll3 : (l.take k ++ [y]).length + (l.drop k).length ≤ 100000000 := by simp only [List.length_append, List.length_singleton, List.length_take, List.length_drop]; omega
        clear ho3 hb3
        have hkc : k ≤ cap := by omega
        have hkI : (k : Int) ≤ (l.length : Int) := by omega
        have hkC : (l.length : Int) ≤ (cap : Int) := by omega
        go_wp2_with (at_builtin; refine wpAppRowV (v := .slice (some ⟨g3, 0, none⟩) L3 cap3) rfl _ _ rfl rfl HO3.out rfl (Or.inr ⟨_, rfl, HDc.out⟩) (by rw [List.length_drop]) hll3 HB3.out.size (fun h => by cases h) ?_)
        intro g4 cap4 L4 w4 hL4 ho4 hb4
        have HEq : Hid (L4 = (putV xs (ws.take (i + 1)) cs).length) := by
         show _ = _
         rw [HPs.out, ← HIn.out, List.length_append, List.length_cons, List.length_take, List.length_drop, Nat.min_eq_left hk]; first | exact hL4 | (simp at hL4; omega)
        have HO4 : Hid (GOwn encV 150 w4 w.heap.size (.slice (some ⟨g4, 0, none⟩) (putV xs (ws.take (i + 1)) cs).length cap4) (putV xs (ws.take (i + 1)) cs)) := by
         show GOwn _ _ _ _ _ _
         rw [← HEq.out, HPs.out, ← HIn.out]
         have e : l.take k ++ [y] ++ l.drop k = l.take k ++ y :: l.drop k := by simp
         have h := ho4
         first | exact h.mono HBw.out.size | (rw [e] at h; exact h.mono HBw.out.size)
        have HB4 : Hid (Below w.heap.size w w4) := HBw.out.trans ((HB3.out.trans hb4).mono HBw.out.size)
        clear ho4 hb4 hL4
        go_wp2
        go_roundw
        case rel => exact ⟨i + 1, g4, cap4, by omega, by go_num, by rw [HEq.out], HO4, HB4⟩
        case measure => simp [intOf]; omega
     ·have HLe : Hid (leV y l[k] = true) := by show _ = _; unfold leV lt; rw [hL]; rfl
      go_wp2
      refine wp_region_held_drew (S := fun w' => w'.cell? ⟨g, k * 4, none⟩ = some (.string l[k].1) ∧ w'.cell? ⟨g, k * 4 + 3, none⟩ = some (.int .i64 l[k].2.2.2) ∧ w'.cell? ⟨wr.heap.size, 0, none⟩ = some (.string y.1) ∧ w'.cell? ⟨wr.heap.size, 3, none⟩ = some (.int .i64 cs)) (by kernel_rfl) ⟨r0, r3, x0, x3⟩ (fun hHeld => ?_)
      (refine ti 0 ?_; simp only [Act.put, tA, tB, tD, tE, tF])
      (refine ti 1 ?_; simp only [Act.put, tA, tB, tC, tD, tE, tF])
      (refine ti 2 ?_; simp only [Act.put, tA, tB, tC, tD, tE, tF])
      (refine ti 3 ?_; simp only [Act.put, tA, tB, tC, tD, tE, tF])
      (refine ti 4 ?_; simp only [Act.put, tA, tB, tC, tD, tE, tF])
      (refine ti 5 ?_; simp only [Act.put, tA, tB, tC, tD, tE, tF])
      (refine ti 6 ?_; simp only [Act.put, tA, tB, tC, tD, tE, tF])
      (refine ti 7 ?_; simp only [Act.put, tA, tB, tC, tD, tE, tF])
      (refine ti 8 ?_; simp only [Act.put, tA, tB, tC, tD, tE, tF])
      (refine ti 9 ?_; simp only [Act.put, tA, tB, tC, tD, tE, tF])
      (refine ti 10 ?_; simp only [Act.put, tA, tB, tC, tD, tE, tF])
      (refine ti 11 ?_; simp only [Act.put, tA, tB, tC, tD, tE, tF])
      (refine ti 12 ?_; simp only [Act.put, tA, tB, tC, tD, tE, tF])
      (refine ti 13 ?_; simp only [Act.put, tA, tB, tC, tD, tE, tF])
      (refine tu 14 ?_; simp only [Act.put, tA, tB, tC, tD, tE, tF])
      (refine tu 15 ?_; simp only [Act.put, tA, tB, tC, tD, tE, tF])
      (refine tu 16 ?_; simp only [Act.put, tA, tB, tC, tD, tE, tF])
      (refine tu 17 ?_; simp only [Act.put, tA, tB, tC, tD, tE, tF])
      (refine tu 18 ?_; simp only [Act.put, tA, tB, tC, tD, tE, tF])
      (refine tu 19 ?_; simp only [Act.put, tA, tB, tC, tD, tE, tF])
      (refine tu 20 ?_; simp only [Act.put, tA, tB, tC, tD, tE, tF])
      (refine tu 21 ?_; simp only [Act.put, tA, tB, tC, tD, tE, tF])
      (refine tu 22 ?_; simp only [Act.put, tA, tB, tC, tD, tE, tF])
      (refine tu 23 ?_; simp only [Act.put, tA, tB, tC, tD, tE, tF])
      (refine tu 24 ?_; simp only [Act.put, tA, tB, tC, tD, tE, tF])
      (refine tu 25 ?_; simp only [Act.put, tA, tB, tC, tD, tE, tF])
      (refine tu 26 ?_; simp only [Act.put, tA, tB, tC, tD, tE, tF])
      (refine tu 27 ?_; simp only [Act.put, tA, tB, tC, tD, tE, tF])
      (refine tu 28 ?_; simp only [Act.put, tA, tB, tC, tD, tE, tF])
      (refine tu 29 ?_; simp only [Act.put, tA, tB, tC, tD, tE, tF])
      (refine tu 30 ?_; simp only [Act.put, tA, tB, tC, tD, tE, tF])
      (refine tu 31 ?_; simp only [Act.put, tA, tB, tC, tD, tE, tF])
      (refine ti 32 ?_; simp only [Act.put, tA, tB, tC, tD, tE, tF])
      (refine ti 33 ?_; simp only [Act.put, tA, tB, tC, tD, tE, tF])
      refine wpAnyH_done (by kernel_rfl) ?_ _
      have HL2 : Hid (∀ j (hj : j < l.length), j < k + 1 → leV y l[j] = true) := fun j hj h => by
       by_cases e : j = k
       ·subst e; exact HLe.out
       ·exact HL.out j hj (by omega)
      have HNk := hide (HN.out.drewN 1)
      have HBn : Hid (Below W.heap.size W (wk.drewN 1)) := below_drewN HBk.out 1
      have htl : (l.take k).length ≤ 100000000 := by rw [List.length_take]; omega
      go_wp2_with (at_builtin; refine wpAppV rfl _ _ rfl l[k] rfl HNk.out rfl htl HBn.out.size ?_)
      intro v' w' ho' hb'
      have HN2 : Hid (GOwn encV 150 w' W.heap.size v' (l.take (k + 1))) := by
       show GOwn _ _ _ _ _ _
       first | exact ho' | (rw [List.take_succ_eq_append_getElem hkl]; exact ho')
      have HB2 : Hid (Below W.heap.size W w') := HBn.out.trans hb'
      clear ho' hb'
      go_wp2
      go_roundw
      case rel => exact ⟨k + 1, by omega, by go_num, HN2, HL2, HB2⟩
      case measure => simp [intOf]; omega
    ·have hkl' : ¬ (k : Int) < (l.length : Int) := by omega
     have hkd : decide ((k : Int) < (l.length : Int)) = false := by simpa using hkl'
     have HStop : Hid (∀ (hk : k < l.length), leV y l[k] = false) := fun h => absurd h hkl
     go_wp2
     refine wp_region_held_drew (S := fun w' => w'.cell? ⟨wr.heap.size, 0, none⟩ = some (.string y.1) ∧ w'.cell? ⟨wr.heap.size, 3, none⟩ = some (.int .i64 cs)) (by kernel_rfl) ⟨x0, x3⟩ (fun hHeld => ?_)
     (refine ti 0 ?_; simp only [Act.put, tA, tB, tD, tE, tF])
     (refine ti 1 ?_; simp only [Act.put, tA, tB, tC, tD, tE, tF])
     (refine ti 2 ?_; simp only [Act.put, tA, tB, tC, tD, tE, tF])
     (refine ti 3 ?_; simp only [Act.put, tA, tB, tC, tD, tE, tF])
     (refine ti 4 ?_; simp only [Act.put, tA, tB, tC, tD, tE, tF])
     (refine tu 5 ?_; simp only [Act.put, tA, tB, tC, tD, tE, tF])
     (refine tu 6 ?_; simp only [Act.put, tA, tB, tC, tD, tE, tF])
     (refine tu 7 ?_; simp only [Act.put, tA, tB, tC, tD, tE, tF])
     (refine tu 8 ?_; simp only [Act.put, tA, tB, tC, tD, tE, tF])
     (refine tu 9 ?_; simp only [Act.put, tA, tB, tC, tD, tE, tF])
     (refine tu 10 ?_; simp only [Act.put, tA, tB, tC, tD, tE, tF])
     (refine tu 11 ?_; simp only [Act.put, tA, tB, tC, tD, tE, tF])
     (refine tu 12 ?_; simp only [Act.put, tA, tB, tC, tD, tE, tF])
     (refine tu 13 ?_; simp only [Act.put, tA, tB, tC, tD, tE, tF])
     (refine tu 14 ?_; simp only [Act.put, tA, tB, tC, tD, tE, tF])
     (refine tu 15 ?_; simp only [Act.put, tA, tB, tC, tD, tE, tF])
     (refine tu 16 ?_; simp only [Act.put, tA, tB, tC, tD, tE, tF])
     (refine tu 17 ?_; simp only [Act.put, tA, tB, tC, tD, tE, tF])
     (refine tu 18 ?_; simp only [Act.put, tA, tB, tC, tD, tE, tF])
     (refine tu 19 ?_; simp only [Act.put, tA, tB, tC, tD, tE, tF])
     (refine tu 20 ?_; simp only [Act.put, tA, tB, tC, tD, tE, tF])
     (refine tu 21 ?_; simp only [Act.put, tA, tB, tC, tD, tE, tF])
     (refine tu 22 ?_; simp only [Act.put, tA, tB, tC, tD, tE, tF])
     (refine tu 23 ?_; simp only [Act.put, tA, tB, tC, tD, tE, tF])
     (refine tu 24 ?_; simp only [Act.put, tA, tB, tC, tD, tE, tF])
     (refine tu 25 ?_; simp only [Act.put, tA, tB, tC, tD, tE, tF])
     (refine tu 26 ?_; simp only [Act.put, tA, tB, tC, tD, tE, tF])
     (refine tu 27 ?_; simp only [Act.put, tA, tB, tC, tD, tE, tF])
     (refine tu 28 ?_; simp only [Act.put, tA, tB, tC, tD, tE, tF])
     (refine tu 29 ?_; simp only [Act.put, tA, tB, tC, tD, tE, tF])
     (refine tu 30 ?_; simp only [Act.put, tA, tB, tC, tD, tE, tF])
     (refine tu 31 ?_; simp only [Act.put, tA, tB, tC, tD, tE, tF])
     (refine tu 32 ?_; simp only [Act.put, tA, tB, tC, tD, tE, tF])
     (refine ti 33 ?_; simp only [Act.put, tA, tB, tC, tD, tE, tF])
     refine wpAnyH_done (by kernel_rfl) ?_ _
     have xb := XB.out.below HBk.out
     have x0' := xb.c0
     have x1' := xb.c1
     have x2' := xb.c2
     have x3' := xb.c3
     have Hyy : Hid (((y.1, y.2.1, y.2.2.1, cs) : Vr) = y) := by show _ = _; rw [← HY3.out]
     have HIn : Hid (l.take k ++ y :: l.drop k = insV l y) := ins_cut hk HL.out HStop.out
     have HNk := hide (HN.out.drewN 1)
     have HBn : Hid (Below W.heap.size W (wk.drewN 1)) := below_drewN HBk.out 1
     have htl : (l.take k).length ≤ 100000000 := by rw [List.length_take]; omega
     go_wp2_with (at_builtin; refine wpAppVs rfl _ _ rfl (y.1, y.2.1, y.2.2.1, cs) rfl HNk.out rfl htl HBn.out.size ?_)
     intro g3 cap3 L3 w3 hL3 ho3 hb3
     rw [Hyy.out] at ho3
     have HL3 : Hid (L3 = (l.take k ++ [y]).length) := by show _ = _; rw [List.length_append, List.length_singleton, List.length_take, Nat.min_eq_left hk]; first | exact hL3 | (simp at hL3; omega)
     clear hL3
     have HO3 := hide ho3
     have HB3 : Hid (Below W.heap.size W w3) := HBn.out.trans hb3
     have HSr : Hid (GOwn encV 150 w3 w.heap.size (.slice (some ⟨g, 0, none⟩) l.length cap) l) := HOw.out.below HB3.out
     have HDc := hide (drop_cells HSr.out k hk)
     have hll3 : (l.take k ++ [y]).length + (l.drop k).length ≤ 100000000 := by simp only [List.length_append, List.length_singleton, List.length_take, List.length_drop]; omega
     clear ho3 hb3
     have hkc : k ≤ cap := by omega
     have hkI : (k : Int) ≤ (l.length : Int) := by omega
     have hkC : (l.length : Int) ≤ (cap : Int) := by omega
     have HDn : Hid (∀ ad : Addr, ∀ j u, (encV.cells (l.drop k))[j]? = some u → w3.cell? (ad.add j) = some u) := by
      intro ad j u hj
      rw [List.drop_of_length_le (by omega)] at hj
      cases hj
     by_cases hck : cap = k
     ·go_wp2_with (at_builtin; refine wpAppRowV (v := .slice (some ⟨g3, 0, none⟩) L3 cap3) rfl _ _ rfl rfl HO3.out rfl (Or.inr ⟨_, rfl, HDn.out _⟩) (by rw [List.length_drop]) hll3 HB3.out.size (fun h => by cases h) ?_)
      intro g4 cap4 L4 w4 hL4 ho4 hb4
      have HEq : Hid (L4 = (putV xs (ws.take (i + 1)) cs).length) := by
       show _ = _
       rw [HPs.out, ← HIn.out, List.length_append, List.length_cons, List.length_take, List.length_drop, Nat.min_eq_left hk]; first | exact hL4 | (simp at hL4; omega)
      have HO4 : Hid (GOwn encV 150 w4 w.heap.size (.slice (some ⟨g4, 0, none⟩) (putV xs (ws.take (i + 1)) cs).length cap4) (putV xs (ws.take (i + 1)) cs)) := by
       show GOwn _ _ _ _ _ _
       rw [← HEq.out, HPs.out, ← HIn.out]
       have e : l.take k ++ [y] ++ l.drop k = l.take k ++ y :: l.drop k := by simp
       have h := ho4
       first | exact h.mono HBw.out.size | (rw [e] at h; exact h.mono HBw.out.size)
      have HB4 : Hid (Below w.heap.size w w4) := HBw.out.trans ((HB3.out.trans hb4).mono HBw.out.size)
      clear ho4 hb4 hL4
      go_wp2
      go_roundw
      case rel => exact ⟨i + 1, g4, cap4, by omega, by go_num, by rw [HEq.out], HO4, HB4⟩
      case measure => simp [intOf]; omega
     ·go_wp2_with (at_builtin; refine wpAppRowV (v := .slice (some ⟨g3, 0, none⟩) L3 cap3) rfl _ _ rfl rfl HO3.out rfl (Or.inr ⟨_, rfl, HDc.out⟩) (by rw [List.length_drop]) hll3 HB3.out.size (fun h => by cases h) ?_)
      intro g4 cap4 L4 w4 hL4 ho4 hb4
      have HEq : Hid (L4 = (putV xs (ws.take (i + 1)) cs).length) := by
       show _ = _
       rw [HPs.out, ← HIn.out, List.length_append, List.length_cons, List.length_take, List.length_drop, Nat.min_eq_left hk]; first | exact hL4 | (simp at hL4; omega)
      have HO4 : Hid (GOwn encV 150 w4 w.heap.size (.slice (some ⟨g4, 0, none⟩) (putV xs (ws.take (i + 1)) cs).length cap4) (putV xs (ws.take (i + 1)) cs)) := by
       show GOwn _ _ _ _ _ _
       rw [← HEq.out, HPs.out, ← HIn.out]
       have e : l.take k ++ [y] ++ l.drop k = l.take k ++ y :: l.drop k := by simp
       have h := ho4
       first | exact h.mono HBw.out.size | (rw [e] at h; exact h.mono HBw.out.size)
      have HB4 : Hid (Below w.heap.size w w4) := HBw.out.trans ((HB3.out.trans hb4).mono HBw.out.size)
      clear ho4 hb4 hL4
      go_wp2
      go_roundw
      case rel => exact ⟨i + 1, g4, cap4, by omega, by go_num, by rw [HEq.out], HO4, HB4⟩
      case measure => simp [intOf]; omega
  ·have hlt' : ¬ (i : Int) < (ws.length : Int) := by omega
   have hil : ws.take i = ws := List.take_of_length_le (by omega)
   rw [hil] at hv HO
   subst hv
   go_wp2
   go_ret
   exact ⟨_, _, rfl, HO.out, HB.out⟩
end Go.Proofs.YtmijppfppigjcaaGreat

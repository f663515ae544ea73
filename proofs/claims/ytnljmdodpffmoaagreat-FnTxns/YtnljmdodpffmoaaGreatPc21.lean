/- What impl.PutWrite makes. -/
import Derived.Test.YtnljmdodpffmoaaGreatPc01
import Derived.Test.YtnljmdodpffmoaaGreatPc19
import Derived.Test.YtnljmdodpffmoaaGreatPc04
import Derived.Test.YtnljmdodpffmoaaGreatPc06
namespace Go.Proofs.YtnljmdodpffmoaaGreat
open Go.RowKit Go.Maps
open KM
attribute [local go_sem ↓] Go.wp_at_zero Go.wp_at_succ

def fidx : List Wt → ByteArray → Nat
 | [], _ => 0
 | x :: xs, s => if x.1 = s then 0 else fidx xs s + 1
theorem fidx_lt : ∀ (xs : List Wt) (s : ByteArray), (∃ x ∈ xs, x.1 = s) → fidx xs s < xs.length
 | [], _, h => by obtain ⟨x, hx, _⟩ := h; simp at hx
 | x :: xs, s, h => by
  unfold fidx
  split
  ·simp
  ·rename_i hne
   have := fidx_lt xs s (by
    obtain ⟨y, hy, e⟩ := h
    rcases List.mem_cons.1 hy with rfl | hy
    ·exact absurd e hne
    ·exact ⟨y, hy, e⟩)
   simp; omega
theorem plc_at : ∀ (xs : List Wt) (i : Nat) (s : ByteArray) (z : DataW Unit), (∃ x ∈ xs, x.1 = s) → (plc xs i).atKey (kl s) z = .lit (.int .i64 ((i + fidx xs s : Nat) : Int))
 | [], _, _, _, h => by obtain ⟨x, hx, _⟩ := h; simp at hx
 | x :: xs, i, s, z, h => by
  by_cases e : x.1 = s
  ·subst e
   simp only [plc, fidx, if_true, Nat.add_zero]
   rw [atKey_put_same (plc_isMap _ _) (kl_key _)]
  ·have h' : ∃ y ∈ xs, y.1 = s := by
    obtain ⟨y, hy, e'⟩ := h
    rcases List.mem_cons.1 hy with rfl | hy
    ·exact absurd e' e
    ·exact ⟨y, hy, e'⟩
   simp only [plc, fidx, if_neg e]
   rw [atKey_put_other (fun hk => e (kl_inj hk).symm), plc_at xs (i + 1) s z h', show i + 1 + fidx xs s = i + (fidx xs s + 1) by omega]

def putI (xs : List Wt) (x : Wt) : List Wt := if xs.any (fun y => decide (y.1 = x.1)) then xs.set (fidx xs x.1) x else insAt xs (aidx xs x.1) x
theorem putI_len (xs : List Wt) (x : Wt) : (putI xs x).length ≤ xs.length + 1 := by
 unfold putI
 split
 ·rw [List.length_set]; omega
 ·rw [insAt_len]; omega

theorem cells_set (xs : List Wt) (j : Nat) (_hj : j < xs.length) (x : Wt) : (((encW.cells xs).set (j * 3) (.string x.1)).set (j * 3 + 1) (.string x.2.1)).set (j * 3 + 2) (.bool x.2.2) = encW.cells (xs.set j x) := by
 apply List.ext_getElem?
 intro i
 have hl : (encW.cells xs).length = xs.length * 3 := encW.cells_len xs
 have hl2 : (encW.cells (xs.set j x)).length = xs.length * 3 := by rw [encW.cells_len, List.length_set]; rfl
 by_cases hi : i < xs.length * 3
 ·have hd : i = (i / 3) * 3 + i % 3 := by omega
  have hq : i / 3 < xs.length := by omega
  have hr : i % 3 < 3 := by omega
  have h1 := encW.cells_at xs (i / 3) hq (i % 3) hr
  have h2 := encW.cells_at (xs.set j x) (i / 3) (by rw [List.length_set]; exact hq) (i % 3) hr
  change (encW.cells xs)[(i / 3) * 3 + i % 3]? = _ at h1
  change (encW.cells (xs.set j x))[(i / 3) * 3 + i % 3]? = _ at h2
  rw [← hd] at h1 h2
  by_cases e : i / 3 = j
  ·have hx : (xs.set j x)[i / 3]'(by rw [List.length_set]; exact hq) = x := by simp [e]
   rw [hx] at h2
   rw [h2]
   rcases (by omega : i % 3 = 0 ∨ i % 3 = 1 ∨ i % 3 = 2) with h | h | h
   ·rw [h, List.getElem?_set_ne (by omega), List.getElem?_set_ne (by omega), show i = j * 3 by omega, List.getElem?_set_self (by omega)]; rfl
   ·rw [h, List.getElem?_set_ne (by omega), show i = j * 3 + 1 by omega, List.getElem?_set_self (by simp; omega)]; rfl
   ·rw [h, show i = j * 3 + 2 by omega, List.getElem?_set_self (by simp; omega)]; rfl
  ·have hx : (xs.set j x)[i / 3]'(by rw [List.length_set]; exact hq) = xs[i / 3] := by rw [List.getElem_set_ne (fun e' => e e'.symm)]
   rw [hx] at h2
   rw [h2, List.getElem?_set_ne (by omega), List.getElem?_set_ne (by omega), List.getElem?_set_ne (by omega), h1]
 ·rw [List.getElem?_eq_none (by simp only [List.length_set]; omega), List.getElem?_eq_none (by omega)]

section
variable {P : Program}
theorem step_lookup {ops : Array Oper} {o : Oper} {a : Act} {w : World} {K : Act → World → Prop} {Q : Exit → Act → World → Prop} {E : Prop}
  (hg : o.guard = none) (m x : Operand) (t : TypeId) (hop : o.op = Op.lookup t m x true) (vm vx : Value) (hm : a.eval m = vm) (hx : a.eval x = vx) {v : Value} (hr : (Instr.lookup t vm vx true).run P w = .ok v w) (hK : K (a.put o.dst v) w) :
  if Region.wanted o (yielded ops a.tmps) = true then Oper.wp P o a w K Q else E := by
 have hw : Region.wanted o (yielded ops a.tmps) = true := by simp [Region.wanted, hg]
 rw [if_pos hw]
 unfold Oper.wp
 simp [execOp, hop, hm, hx, hr, Result.andThen]
 exact hK
end

set_option maxRecDepth 100000 in
set_option maxHeartbeats 2000000 in
theorem iput (xs : List Wt) (x : Wt) (a : Option Addr) (c : Nat) (hn : xs.length ≤ 1048576) (hf : WFit xs) (h1 : x.1.size ≤ 1048576) (h2 : x.2.1.size ≤ 1048576) (w : World) (hp : GRow encW w a xs) :
  Calls Tryz.prog 48 #[.slice a xs.length c, .agg #[.string x.1, .string x.2.1, .bool x.2.2]] w fun e w' => ∃ a1 c1, e = .returned (.slice a1 (putI xs x).length c1) ∧ GOwn encW 42 w' w.heap.size (.slice a1 (putI xs x).length c1) (putI xs x) ∧ Below w.heap.size w w' := by
 have HP : Hid (GRow encW w a xs) := hp
 have HF : Hid (WFit xs) := hf
 clear hp hf
 have X0 : Hid (Bx (w.alloc (.cells #[.string x.1, .string x.2.1, .bool x.2.2] 42)) w.heap.size [.string x.1, .string x.2.1, .bool x.2.2]) := Bx.new w _ 42
 have HB0 : Hid (Below w.heap.size w (w.alloc (.cells #[.string x.1, .string x.2.1, .bool x.2.2] 42))) := (belowRefl w).alloc (Nat.le_refl _) _
 go_enter Tryz.func48, Tryz.ntmps48
 go_wp2_with fail
 refine (icopyWs xs a c (by omega) HF.out _ (HP.out.below HB0.out)).mono ?_
 rintro e w1 ⟨a1, c1, rfl, ho1, hb1⟩
 have O1 : Hid (GOwn encW 42 w1 (w.heap.size + 1) (.slice a1 xs.length c1) xs) := by
  rw [World.size_alloc] at ho1
  exact ho1
 have X1 : Hid (Bx w1 w.heap.size [.string x.1, .string x.2.1, .bool x.2.2]) := X0.out.below hb1
 have HB1 : Hid (Below w.heap.size w w1) := HB0.out.trans (hb1.mono HB0.out.size)
 have s1 : w.heap.size < w1.heap.size := X1.out.lt
 clear ho1 hb1 X0 HB0
 go_wp2
 refine wp_region_held_drew (S := fun w' => w'.cell? ⟨w.heap.size, 0, none⟩ = some (.string x.1)) (by kernel_rfl) X1.out.drew.c0 (fun hHeld => ?_)
 (refine tk 0 ?_ rfl (Or.inl ⟨by rfl, ?_⟩) ?_; rotate_left; (focus (intro w h; (try dsimp only at h); go_simp; (try with_reducible rfl))); simp only [Act.put, tA, tB, tD, tE, tF])
 (refine tk 2 ?_ rfl (Or.inl ⟨by rfl, ?_⟩) ?_; rotate_left; (focus (intro w h; (try dsimp only at h); go_simp; (try with_reducible rfl))); simp only [Act.put, tA, tB, tC, tD, tE, tF])
 (refine tk 3 ?_ rfl (Or.inl ⟨by rfl, ?_⟩) ?_; rotate_left; (focus (intro w h; (try dsimp only at h); go_simp; (try with_reducible rfl))); simp only [Act.put, tA, tB, tC, tD, tE, tF])
 refine wpAnyH_ready (rs := [1]) (by kernel_rfl) (by simp) ?_
 refine AllReadyH.cons rfl (fun K hK => ?_) AllReadyH.nil
 go_simp
 go_wp2_with fail
 refine (places xs a c (by omega) HF.out _ (HP.out.below HB1.out.drew)).mono ?_
 rintro e w2 ⟨rfl, hm2, hb2⟩
 have M2 : Hid (w2.ownsMap Tryz.prog 9 (plainElem Tryz.prog 3) w1.heap.size xs.length (plc xs 0)) := hm2
 have X2 : Hid (Bx w2 w.heap.size [.string x.1, .string x.2.1, .bool x.2.2]) := X1.out.drew.below hb2
 have O2 : Hid (GOwn encW 42 w2 (w.heap.size + 1) (.slice a1 xs.length c1) xs) := O1.out.drew.below hb2
 have HB2 : Hid (Below w.heap.size w w2) := HB1.out.drew.trans (hb2.mono HB1.out.size)
 have s2 : w1.heap.size ≤ w2.heap.size := hb2.size
 clear hm2 hb2 X1 O1 HB1
 go_wp2_with fail
 refine hK.out _ _ X2.out.c0 (fun hHeld2 => ?_)
 clear hK K
 have HK : Hid (keyOf Tryz.prog 9 (.string x.1) = some (kl x.1)) := keyOk h1
 obtain ⟨v, ps, hrun, hv⟩ := M2.out.look_ok lawK Tryz.underlying128 (zero3 w2) (zd := .lit (.int .i64 0)) (zp := []) (plainElem_int Tryz.underlying3 (by decide)) HK.out
 obtain ⟨z, rfl, hz, _⟩ := plainElem_int_inv Tryz.underlying3 hv
 refine wpAnyH_ready (rs := [4]) (by kernel_rfl) (by simp) ?_
 refine AllReadyH.cons rfl (fun K hK => ?_) AllReadyH.nil
 refine step_lookup rfl _ _ 128 rfl _ _ rfl rfl hrun ?_
 refine hK.out _ _ X2.out.c0 (fun hHeld3 => ?_)
 clear hK K hrun hv
 have HZ : Hid ((plc xs 0).atKey (kl x.1) (.lit (.int .i64 0)) = .lit (.int .i64 z)) := congrArg Prod.fst hz
 clear hz
 simp only [Act.put, tA, tB, tC, tD, tE, tF]
 (refine tk 5 ?_ rfl (Or.inl ⟨by rfl, ?_⟩) ?_; rotate_left; (focus (intro w h; (try dsimp only at h); go_simp; (try with_reducible rfl))); simp only [Act.put, tA, tB, tC, tD, tE, tF])
 (refine tk 6 ?_ rfl (Or.inl ⟨by rfl, ?_⟩) ?_; rotate_left; (focus (intro w h; (try dsimp only at h); go_simp; (try with_reducible rfl))); simp only [Act.put, tA, tB, tC, tD, tE, tF])
 (refine tk 7 ?_ rfl (Or.inl ⟨by rfl, ?_⟩) ?_; rotate_left; (focus (intro w h; (try dsimp only at h); go_simp; (try with_reducible rfl))); simp only [Act.put, tA, tB, tC, tD, tE, tF])
 (refine tk 8 ?_ rfl (Or.inl ⟨by rfl, ?_⟩) ?_; rotate_left; (focus (intro w h; (try dsimp only at h); go_simp; (try with_reducible rfl))); simp only [Act.put, tA, tB, tC, tD, tE, tF])
 (refine tk 9 ?_ rfl (Or.inl ⟨by rfl, ?_⟩) ?_; rotate_left; (focus (intro w h; (try dsimp only at h); go_simp; (try with_reducible rfl))); simp only [Act.put, tA, tB, tC, tD, tE, tF])
 refine wpAnyH_done (by kernel_rfl) ?_ _
 clear hHeld hHeld2 hHeld3
 cases hh : Maps.has (plc xs 0) (kl x.1)
 ·have HA : Hid (xs.any (fun y => decide (y.1 = x.1)) = false) := by
   show _ = _
   rw [List.any_eq_false]
   intro y hy e
   rw [(plc_has xs 0 x.1).2 ⟨y, hy, of_decide_eq_true e⟩] at hh
   cases hh
  have HPI : Hid (putI xs x = insAt xs (aidx xs x.1) x) := by show _ = _; unfold putI; rw [HA.out]; rfl
  clear hh
  go_wp2
  refine wp_region_held_drew (S := fun w' => w'.cell? ⟨w.heap.size, 0, none⟩ = some (.string x.1) ∧ w'.cell? ⟨w.heap.size, 1, none⟩ = some (.string x.2.1) ∧ w'.cell? ⟨w.heap.size, 2, none⟩ = some (.bool x.2.2)) (by kernel_rfl) ⟨X2.out.drew.c0, X2.out.drew.c1, X2.out.drew.c2⟩ (fun hHeld => ?_)
  (refine tk 0 ?_ rfl (Or.inl ⟨by rfl, ?_⟩) ?_; rotate_left; (focus (intro w h; (try dsimp only at h); go_simp; (try with_reducible rfl))); simp only [Act.put, tA, tB, tD, tE, tF])
  (refine tk 1 ?_ rfl (Or.inl ⟨by rfl, ?_⟩) ?_; rotate_left; (focus (intro w h; (try dsimp only at h); go_simp; (try with_reducible rfl))); simp only [Act.put, tA, tB, tC, tD, tE, tF])
  (refine tk 2 ?_ rfl (Or.inl ⟨by rfl, ?_⟩) ?_; rotate_left; (focus (intro w h; (try dsimp only at h); go_simp; (try with_reducible rfl))); simp only [Act.put, tA, tB, tC, tD, tE, tF])
  (refine tk 3 ?_ rfl (Or.inl ⟨by rfl, ?_⟩) ?_; rotate_left; (focus (intro w h; (try dsimp only at h); go_simp; (try with_reducible rfl))); simp only [Act.put, tA, tB, tC, tD, tE, tF])
  (refine tk 5 ?_ rfl (Or.inl ⟨by rfl, ?_⟩) ?_; rotate_left; (focus (intro w h; (try dsimp only at h); go_simp; (try with_reducible rfl))); simp only [Act.put, tA, tB, tC, tD, tE, tF])
  refine wpAnyH_ready (rs := [4]) (by kernel_rfl) (by simp) ?_
  refine AllReadyH.cons rfl (fun K hK => ?_) AllReadyH.nil
  go_simp
  go_wp2_with fail
  refine (iahead xs x.1 a c (by omega) _ (HP.out.below HB2.out.drew)).mono ?_
  rintro e w3 ⟨rfl, hb3⟩
  have X3 : Hid (Bx w3 w.heap.size [.string x.1, .string x.2.1, .bool x.2.2]) := X2.out.drew.below hb3
  have O3 : Hid (GOwn encW 42 w3 (w.heap.size + 1) (.slice a1 xs.length c1) xs) := O2.out.drew.below hb3
  have HB3 : Hid (Below w.heap.size w w3) := HB2.out.drew.trans (hb3.mono HB2.out.size)
  clear hb3 X2 O2 HB2 M2
  go_wp2_with fail
  refine hK.out _ _ ⟨X3.out.c0, X3.out.c1, X3.out.c2⟩ (fun hHeld3 => ?_)
  clear hK K
  refine wpAnyH_ready (rs := [6]) (by kernel_rfl) (by simp) ?_
  refine AllReadyH.cons rfl (fun K hK => ?_) AllReadyH.nil
  go_simp
  go_wp2_with fail
  refine (icopyW x h1 h2 _).mono ?_
  rintro e w4 ⟨rfl, hb4⟩
  have X4 : Hid (Bx w4 w.heap.size [.string x.1, .string x.2.1, .bool x.2.2]) := X3.out.below hb4
  have O4 : Hid (GOwn encW 42 w4 (w.heap.size + 1) (.slice a1 xs.length c1) xs) := O3.out.below hb4
  have HB4 : Hid (Below w.heap.size w w4) := HB3.out.trans (hb4.mono HB3.out.size)
  clear hb4 X3 O3 HB3
  go_wp2_with fail
  refine hK.out _ _ ⟨X4.out.c0, X4.out.c1, X4.out.c2⟩ (fun hHeld4 => ?_)
  clear hK K
  have X5 : Hid (Bx (w4.alloc (.cells #[.string x.1, .string x.2.1, .bool x.2.2] 42)) w.heap.size [.string x.1, .string x.2.1, .bool x.2.2]) := X4.out.alloc _
  have O5 : Hid (GOwn encW 42 (w4.alloc (.cells #[.string x.1, .string x.2.1, .bool x.2.2] 42)) (w.heap.size + 1) (.slice a1 xs.length c1) xs) := O4.out.alloc _
  have HB5 : Hid (Below w.heap.size w (w4.alloc (.cells #[.string x.1, .string x.2.1, .bool x.2.2] 42))) := HB4.out.alloc HB4.out.size _
  have V5 : Hid (OneW (w4.alloc (.cells #[.string x.1, .string x.2.1, .bool x.2.2] 42)) w4.heap.size x) := heap_alloc_new w4 _
  have N5 : Hid (a1 ≠ some ⟨w4.heap.size, 0, none⟩) := fun e => by
   rcases O4.out.2 with ⟨hv, _⟩ | ⟨g, cap, cur, hv, _, hh, _⟩
   ·simp only [Value.slice.injEq] at hv
    rw [hv.1] at e; cases e
   ·simp only [Value.slice.injEq] at hv
    rw [hv.1] at e
    cases e
    have := (World.ownsRow.lt O4.out w4.heap.size (by rw [hv.1]; rfl)).2
    omega
  have s5 : w.heap.size + 1 ≤ (w4.alloc (.cells #[.string x.1, .string x.2.1, .bool x.2.2] 42)).heap.size := X5.out.lt
  refine wpAnyH_ready (rs := [7]) (by kernel_rfl) (by simp) ?_
  refine AllReadyH.cons rfl (fun K hK => ?_) AllReadyH.nil
  go_simp
  refine hK.out _ _ ⟨X5.out.c0, X5.out.c1, X5.out.c2⟩ (fun hHeld5 => ?_)
  clear hK K
  refine wpAnyH_ready (rs := [8]) (by kernel_rfl) (by simp) ?_
  refine AllReadyH.cons rfl (fun K hK => ?_) AllReadyH.nil
  go_simp
  go_wp2_with fail
  refine (insW xs x a1 c1 w4.heap.size (w.heap.size + 1) (aidx xs x.1) hn (aidx_le xs x.1) _ O5.out s5 V5.out N5.out).mono ?_
  rintro e w6 ⟨a6, c6, rfl, ho6, hb6⟩
  have X6 : Hid (Bx w6 w.heap.size [.string x.1, .string x.2.1, .bool x.2.2]) := X5.out.belowB hb6 (by omega)
  have O6 : Hid (GOwn encW 42 w6 w.heap.size (.slice a6 (insAt xs (aidx xs x.1) x).length c6) (insAt xs (aidx xs x.1) x)) := ho6.mono (by omega)
  have HB6 : Hid (Below w.heap.size w w6) := HB5.out.trans (hb6.mono (by omega))
  clear ho6 hb6 X4 O4 HB4 X5 O5 HB5 V5 N5
  go_wp2_with fail
  refine hK.out _ _ ⟨X6.out.c0, X6.out.c1, X6.out.c2⟩ (fun hHeld6 => ?_)
  clear hK K
  (refine tk 9 ?_ rfl (Or.inl ⟨by rfl, ?_⟩) ?_; rotate_left; (focus (intro w h; (try dsimp only at h); go_simp; (try with_reducible rfl))); simp only [Act.put, tA, tB, tC, tD, tE, tF])
  refine wpAnyH_done (by kernel_rfl) ?_ _
  go_wp2
  go_ret
  exact ⟨a6, c6, by rw [HPI.out]; rfl, by rw [HPI.out]; exact O6.out, HB6.out⟩
 ·have HA : Hid (∃ y ∈ xs, y.1 = x.1) := (plc_has xs 0 x.1).1 hh
  have HPI : Hid (putI xs x = xs.set (fidx xs x.1) x) := by
   show _ = _
   unfold putI
   rw [if_pos]
   obtain ⟨y, hy, e⟩ := HA.out
   rw [List.any_eq_true]
   exact ⟨y, hy, by simpa using e⟩
  have hfl : fidx xs x.1 < xs.length := fidx_lt xs x.1 HA.out
  obtain ⟨j, hj⟩ : ∃ j, j = fidx xs x.1 := ⟨_, rfl⟩
  have hzj : z = (j : Int) := by
   have h := HZ.out
   rw [plc_at xs 0 x.1 _ HA.out, Nat.zero_add, ← hj] at h
   simp only [DataW.lit.injEq, Lit.int.injEq, true_and] at h
   exact h.symm
  have HPJ : Hid (putI xs x = xs.set j x) := by show _ = _; rw [HPI.out, hj]
  rw [← hj] at hfl
  subst hzj
  clear hh HPI hj HZ
  have hj0 : (0 : Int) ≤ (j : Int) := by omega
  have hjl : (j : Int) < (xs.length : Int) := by omega
  have x0 := X2.out.c0
  have x1 := X2.out.c1
  have x2 := X2.out.c2
  obtain ⟨g, cap, hgv, hgb, hgl⟩ := World.ownsRow.form O2.out (by omega)
  simp only [Value.slice.injEq] at hgv
  obtain ⟨rfl, -, rfl⟩ := hgv
  go_wp2_with fail
  refine (icopyW x h1 h2 _).mono ?_
  rintro e w3 ⟨rfl, hb3⟩
  have O3 : Hid (GOwn encW 42 w3 (w.heap.size + 1) (.slice (some ⟨g, 0, none⟩) xs.length c1) xs) := O2.out.below hb3
  have HB3 : Hid (Below w.heap.size w w3) := HB2.out.trans (hb3.mono HB2.out.size)
  clear hb3 x0 x1 x2
  have hlen := O3.out.1
  have hsz : encW.size = 3 := rfl
  rw [hsz] at hlen
  have q0 : w3.cell? ⟨g, j * 3, none⟩ = some ((encW.cells xs)[j * 3]'(by omega)) := by
   rw [World.ownsRow.cellAt O3.out (j * 3) (by rw [hsz]; omega)]; simp
  have q1 : w3.cell? ⟨g, j * 3 + 1, none⟩ = some ((encW.cells xs)[j * 3 + 1]'(by omega)) := by
   rw [World.ownsRow.cellAt O3.out (j * 3 + 1) (by rw [hsz]; omega)]; simp
  have q2 : w3.cell? ⟨g, j * 3 + 2, none⟩ = some ((encW.cells xs)[j * 3 + 2]'(by omega)) := by
   rw [World.ownsRow.cellAt O3.out (j * 3 + 2) (by rw [hsz]; omega)]; simp
  have g0 := World.ownsRow.frozenAt O3.out (j * 3)
  have g1 := World.ownsRow.frozenAt O3.out (j * 3 + 1)
  have g2 := World.ownsRow.frozenAt O3.out (j * 3 + 2)
  have hst := (World.ownsRow.stored (World.ownsRow.stored (World.ownsRow.stored O3.out (j * 3) (.string x.1)).1 (j * 3 + 1) (.string x.2.1)).1 (j * 3 + 2) (.bool x.2.2)).1
  rw [cells_set xs j hfl x] at hst
  have O4 : Hid (GOwn encW 42 (((w3.setCell ⟨g, j * 3, none⟩ (.string x.1)).setCell ⟨g, j * 3 + 1, none⟩ (.string x.2.1)).setCell ⟨g, j * 3 + 2, none⟩ (.bool x.2.2)) w.heap.size (.slice (some ⟨g, 0, none⟩) (xs.set j x).length c1) (xs.set j x)) := by
   show GOwn _ _ _ _ _ _
   refine GOwn.mono (base := w.heap.size + 1) ?_ (by omega)
   unfold GOwn
   rw [List.length_set]
   exact hst
  have HL : Hid ((xs.set j x).length = xs.length) := List.length_set
  have HB4 : Hid (Below w.heap.size w (((w3.setCell ⟨g, j * 3, none⟩ (.string x.1)).setCell ⟨g, j * 3 + 1, none⟩ (.string x.2.1)).setCell ⟨g, j * 3 + 2, none⟩ (.bool x.2.2))) := ((HB3.out.setCell (by show w.heap.size ≤ g; omega) _).setCell (by show w.heap.size ≤ g; omega) _).setCell (by show w.heap.size ≤ g; omega) _
  clear hst
  go_wp2
  go_ret
  exact ⟨some ⟨g, 0, none⟩, c1, by rw [HPJ.out, HL.out]; rfl, by rw [HPJ.out]; exact O4.out, HB4.out⟩
end Go.Proofs.YtnljmdodpffmoaaGreat

namespace Go.Proofs.YtnljmdodpffmoaaGreat
open Go.RowKit
open KM
attribute [local go_sem ↓] Go.wp_at_zero Go.wp_at_succ

theorem lt_of_ne {a b : ByteArray} (h : lt a b = false) (hne : a ≠ b) : lt b a = true := less_total _ _ h (fun e => hne (toList_inj e))
theorem filter_all' {ys : List Wt} {p : Wt → Bool} (h : ∀ z ∈ ys, p z = true) : ys.filter p = ys := List.filter_eq_self.2 h
theorem filter_none' {ys : List Wt} {p : Wt → Bool} (h : ∀ z ∈ ys, p z = false) : ys.filter p = [] := List.filter_eq_nil_iff.2 (fun z hz => by rw [h z hz]; simp)
theorem putI_eq : ∀ (xs : List Wt) (x : Wt), Asc xs → putI xs x = putS xs x
 | [], x, _ => rfl
 | y :: ys, x, h => by
  obtain ⟨h1, h2⟩ := List.pairwise_cons.1 h
  have ih := putI_eq ys x h2
  by_cases e : y.1 = x.1
  ·have ha : (y :: ys).any (fun z => decide (z.1 = x.1)) = true := by simp [e]
   have hf : fidx (y :: ys) x.1 = 0 := by unfold fidx; rw [if_pos e]
   unfold putI putS
   rw [if_pos ha, hf]
   have h3 : ∀ z ∈ ys, lt x.1 z.1 = true := fun z hz => by rw [← e]; exact h1 z hz
   have f1 : (y :: ys).filter (fun z => lt z.1 x.1) = [] := filter_none' (fun z hz => by
    rcases List.mem_cons.1 hz with rfl | hz
    ·rw [e]; exact lt_irrefl' _
    ·exact lt_asymm' (h3 z hz))
   have f2 : (y :: ys).filter (fun z => lt x.1 z.1) = ys := by
    rw [List.filter_cons, e, lt_irrefl']
    simp only [Bool.false_eq_true, if_false]
    exact filter_all' h3
   rw [f1, f2]
   rfl
  ·by_cases ha : ys.any (fun z => decide (z.1 = x.1)) = true
   ·have ha' : (y :: ys).any (fun z => decide (z.1 = x.1)) = true := by rw [List.any_cons, ha]; simp
    have hf : fidx (y :: ys) x.1 = fidx ys x.1 + 1 := by unfold fidx; rw [if_neg e]; cases ys <;> rfl
    have hy : lt y.1 x.1 = true := by
     rw [List.any_eq_true] at ha
     obtain ⟨z, hz, ez⟩ := ha
     have := h1 z hz
     rw [of_decide_eq_true ez] at this
     exact this
    unfold putI putS at ih ⊢
    rw [if_pos ha] at ih
    rw [if_pos ha', hf, List.set_cons_succ, ih, List.filter_cons, hy, List.filter_cons, lt_asymm' hy]
    simp
   ·have ha' : ¬ (y :: ys).any (fun z => decide (z.1 = x.1)) = true := by rw [List.any_cons]; simp [e]; simpa using ha
    cases hl : lt x.1 y.1
    ·have hy : lt y.1 x.1 = true := lt_of_ne hl (fun e' => e e'.symm)
     have hx : aidx (y :: ys) x.1 = aidx ys x.1 + 1 := by
      show (if lt x.1 y.1 then 0 else aidx ys x.1 + 1) = _
      rw [hl]; rfl
     unfold putI putS at ih ⊢
     rw [if_neg ha] at ih
     rw [if_neg ha', hx, List.filter_cons, hy, List.filter_cons, hl]
     have e2 : insAt (y :: ys) (aidx ys x.1 + 1) x = y :: insAt ys (aidx ys x.1) x := by unfold insAt; simp
     rw [e2, ih]
     simp
    ·have hx : aidx (y :: ys) x.1 = 0 := by
      show (if lt x.1 y.1 then 0 else aidx ys x.1 + 1) = _
      rw [hl]; rfl
     have h3 : ∀ z ∈ y :: ys, lt x.1 z.1 = true := fun z hz => by
      rcases List.mem_cons.1 hz with rfl | hz
      ·exact hl
      ·exact lt_trans' hl (h1 z hz)
     unfold putI putS
     rw [if_neg ha', hx, filter_none' (fun z hz => lt_asymm' (h3 z hz)), filter_all' h3]
     unfold insAt
     simp

end Go.Proofs.YtnljmdodpffmoaaGreat

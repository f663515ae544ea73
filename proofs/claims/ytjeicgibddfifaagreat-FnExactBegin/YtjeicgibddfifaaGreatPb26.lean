/- Those that are open, as the program asks. -/
import Derived.Test.YtjeicgibddfifaaGreatPb01
import Derived.Test.YtjeicgibddfifaaGreatPb17
import Derived.Test.YtjeicgibddfifaaGreatPb25
import Derived.Test.YtjeicgibddfifaaGreatPb16
import Derived.Test.YtjeicgibddfifaaGreatPb08
import Derived.Test.YtjeicgibddfifaaGreatPb24
import Derived.Deep.RegionHeld3
import Derived.Deep.Cut
import Derived.Deep.CutRange
import Derived.Laws.EntriesVeiled
namespace Go.Proofs.YtjeicgibddfifaaGreat
open Go.RowKit
open KM
attribute [local go_sem ↓] Go.wp_at_zero Go.wp_at_succ

theorem rowSl3 (W : World) (s0 s1 s2 : Sl) (T : TypeId) : GRow encSl (W.alloc (.cells #[.slice s0.a s0.n s0.c, .slice s1.a s1.n s1.c, .slice s2.a s2.n s2.c] T)) (some ⟨W.heap.size, 0, none⟩) [s0, s1, s2] := fun _ => ⟨W.heap.size, 0, rfl, by simp, fun j hj i hi => by
 obtain rfl : i = 0 := by simpa [encSl] using hi
 have : j = 0 ∨ j = 1 ∨ j = 2 := by simp at hj; omega
 rcases this with rfl | rfl | rfl
 ·show _ = some _
  simp [encSl]
 ·show _ = some _
  simp [encSl]
 ·show _ = some _
  simp [encSl]⟩
theorem GRow.row2 {α : Type} {E : Enc α} {e : TypeId} {w : World} {lo hi n c : Nat} {a : Option Addr} {xs : List α} (h : Lies E e w lo hi (.slice a n c) xs) (hn : n = xs.length) : GRow E w a xs := by
 subst hn
 exact h.own.grow

theorem btr {w W W' : World} (h : Below w.heap.size w W) (k : Below W.heap.size W W') : Below w.heap.size w W' := h.trans (k.mono h.size)
def Dj (g lo hi : Nat) : Prop := g < lo ∨ hi ≤ g
theorem al11 {w W : World} (e : En) (_h : Below w.heap.size w W) : Below W.heap.size W (W.alloc (.cells #[.slice e.b.pa e.b.ps.length e.b.pc, .slice e.b.qa e.b.qs.length e.b.qc, .slice e.oa e.os.length e.oc] 31)) ∧ GRow encSl (W.alloc (.cells #[.slice e.b.pa e.b.ps.length e.b.pc, .slice e.b.qa e.b.qs.length e.b.qc, .slice e.oa e.os.length e.oc] 31)) (some ⟨W.heap.size, 0, none⟩) [⟨e.b.pa, e.b.ps.length, e.b.pc, e.b.ps⟩, ⟨e.b.qa, e.b.qs.length, e.b.qc, e.b.qs⟩, ⟨e.oa, e.os.length, e.oc, e.os⟩] := ⟨(belowRefl W).alloc (Nat.le_refl _) _, rowSl3 W ⟨e.b.pa, e.b.ps.length, e.b.pc, e.b.ps⟩ ⟨e.b.qa, e.b.qs.length, e.b.qc, e.b.qs⟩ ⟨e.oa, e.os.length, e.oc, e.os⟩ 31⟩
theorem alK {w W : World} (h : Below w.heap.size w W) : Below W.heap.size W (W.alloc (.cells #[.slice none 0 0, .nilFunc] 102)) ∧ Hid (Bx (W.alloc (.cells #[.slice none 0 0, .nilFunc] 102)) W.heap.size [.slice none 0 0, .nilFunc]) ∧ Hid (w.heap.size ≤ W.heap.size) := ⟨(belowRefl W).alloc (Nat.le_refl _) _, Bx.new W [.slice none 0 0, .nilFunc] 102, h.size⟩
theorem djr {W : World} {lo hi : Nat} {v : Value} {zs : List Ta} (_h : Lies encT 56 W lo hi v zs) (u : hi ≤ W.heap.size) : Dj W.heap.size lo hi := Or.inr u
theorem djb {W W' : World} {g hi : Nat} {v : Value} {zs : List Ta} {l : List Value} (b : Bx W g l) (_h : Lies encT 56 W' W.heap.size hi v zs) : Dj g W.heap.size hi := Or.inl b.lt
theorem stK {b lo hi g g' : Nat} {w W : World} {v x0 x1 : Value} {zs : List Ta} {l : List Value} (o : Bx W g [x0, x1]) (o' : Bx W g' l) (rz : Lies encT 56 W lo hi v zs) (h : Below b w W) (n : g ≠ g') (d : Dj g lo hi) (lg : b ≤ g) (k0 k1 : Value) : Hid (Bx ((W.setCell ⟨g, 0, none⟩ k0).setCell ⟨g, 1, none⟩ k1) g [k0, k1]) ∧ Hid (Bx ((W.setCell ⟨g, 0, none⟩ k0).setCell ⟨g, 1, none⟩ k1) g' l) ∧ Hid (Lies encT 56 ((W.setCell ⟨g, 0, none⟩ k0).setCell ⟨g, 1, none⟩ k1) lo hi v zs) ∧ Hid (Below b w ((W.setCell ⟨g, 0, none⟩ k0).setCell ⟨g, 1, none⟩ k1)) :=
 ⟨(o.set 0 k0).set 1 k1, (o'.setO (p := ⟨g, 0, none⟩) n k0).setO (p := ⟨g, 1, none⟩) n k1, (rz.setO (a := ⟨g, 0, none⟩) d k0).setO (a := ⟨g, 1, none⟩) d k1, (h.setCell (p := ⟨g, 0, none⟩) lg k0).setCell (p := ⟨g, 1, none⟩) lg k1⟩

set_option maxRecDepth 100000 in
set_option maxHeartbeats 40000000 in
theorem iopenl (e : En) (hf : EnFit e) (hz : Nones e.b) (ho : e.oa = none → e.os.length = 0 ∧ e.oc = 0) (hn1 : 1 ≤ e.b.nx) (hn2 : e.b.nx ≤ 9999) (w : World) (hp : EnRows w e) :
  Calls Tryz.prog 26 #[.agg #[.slice e.b.va e.b.vs.length e.b.vc, .slice e.b.pa e.b.ps.length e.b.pc, .slice e.b.qa e.b.qs.length e.b.qc, .int .i64 e.b.cs, .int .i64 e.b.nx, .slice e.oa e.os.length e.oc]] w fun ex w' => ex = .returned (.bool (iolB e)) ∧ Below w.heap.size w w' := by
 have BA0 : Hid (Bx (w.alloc (.cells #[.slice e.b.va e.b.vs.length e.b.vc, .slice e.b.pa e.b.ps.length e.b.pc, .slice e.b.qa e.b.qs.length e.b.qc, .int .i64 e.b.cs, .int .i64 e.b.nx, .slice e.oa e.os.length e.oc] 35)) w.heap.size [.slice e.b.va e.b.vs.length e.b.vc, .slice e.b.pa e.b.ps.length e.b.pc, .slice e.b.qa e.b.qs.length e.b.qc, .int .i64 e.b.cs, .int .i64 e.b.nx, .slice e.oa e.os.length e.oc]) := Bx.new w [.slice e.b.va e.b.vs.length e.b.vc, .slice e.b.pa e.b.ps.length e.b.pc, .slice e.b.qa e.b.qs.length e.b.qc, .int .i64 e.b.cs, .int .i64 e.b.nx, .slice e.oa e.os.length e.oc] 35
 have HB0 : Hid (Below w.heap.size w (w.alloc (.cells #[.slice e.b.va e.b.vs.length e.b.vc, .slice e.b.pa e.b.ps.length e.b.pc, .slice e.b.qa e.b.qs.length e.b.qc, .int .i64 e.b.cs, .int .i64 e.b.nx, .slice e.oa e.os.length e.oc] 35))) := (belowRefl w).alloc (Nat.le_refl _) _
 have HP : Hid (EnRows w e) := hp
 have HF : Hid (EnFit e) := hf
 have HZ : Hid (Nones e.b) := hz
 have HO : Hid (e.oa = none → e.os.length = 0 ∧ e.oc = 0) := ho
 have hol : e.os.length ≤ 10000000 := Nat.le_trans hf.ol (by omega)
 clear hp hf hz ho
 have C1 : Hid (∀ W : World, Below w.heap.size w W → Calls Tryz.prog 59 #[.slice e.oa e.os.length e.oc, .int .i64 1] W fun ex w' => ex = .returned (.bool (e.os.all (inStB 1))) ∧ Below W.heap.size W w') := fun W h => allin38 e.os e.oa e.oc e.os.length 1 rfl hol HF.out.o W (HP.out.below h).o
 have C2 : Hid (∀ W : World, Calls Tryz.prog 60 #[.slice e.oa e.os.length e.oc] W fun ex w' => ex = .returned (.agg #[.slice e.oa e.os.length e.oc, .func (.func 103) #[] #[]]) ∧ Below W.heap.size W w') := fun W => by41 e.oa e.oc e.os.length W
 have C3 : Hid (∀ W : World, Below w.heap.size w W → Calls Tryz.prog 61 #[.agg #[.slice e.oa e.os.length e.oc, .func (.func 103) #[] #[]], .int .i64 e.b.cs] W fun ex w' => ex = .returned (.bool (e.os.any (fun x : Ta => decide (e.b.cs < x.t.snap)))) ∧ Below W.heap.size W w') := fun W h => any66 e.os e.oa e.oc e.os.length rfl hol e.b.cs W (HP.out.below h).o
 have C4 : Hid (∀ W : World, Below w.heap.size w W → Calls Tryz.prog 64 #[.agg #[.slice e.oa e.os.length e.oc, .func (.func 105) #[] #[]]] W fun ex w' => ex = .returned (.bool (ascIB (e.os.map fun x : Ta => x.t.id))) ∧ Below W.heap.size W w') := fun W h => asc67 e.os e.oa e.oc e.os.length rfl hol W (HP.out.below h).o
 have C5 : Hid (∀ W : World, Below w.heap.size w W → Calls Tryz.prog 61 #[.agg #[.slice e.oa e.os.length e.oc, .func (.func 105) #[] #[]], .int .i64 (e.b.nx - 1)] W fun ex w' => ex = .returned (.bool (e.os.any (fun x : Ta => decide (e.b.nx - 1 < x.t.id)))) ∧ Below W.heap.size W w') := fun W h => any67 e.os e.oa e.oc e.os.length rfl hol (e.b.nx - 1) W (HP.out.below h).o
 have hlen : (e.b.ps ++ e.b.qs ++ e.os).length ≤ 10000000 := by rw [List.length_append, List.length_append]; have := HF.out.b.pl; have := HF.out.b.ql; have := HF.out.ol; omega
 have HM : Hid (∀ W : World, Below w.heap.size w W → ∀ x ∈ e.b.ps ++ e.b.qs ++ e.os, TRow W x.t x.ra x.wa) := fun W h x hx => by
  rcases List.mem_append.1 hx with hx | hx
  ·rcases List.mem_append.1 hx with hx | hx
   ·exact (HP.out.below h).b.p.each x hx
   ·exact (HP.out.below h).b.q.each x hx
  ·exact (HP.out.below h).o.each x hx
 have C6 : Hid (∀ (W : World) (a1 : Option Addr) (c1 n1 : Nat), n1 = (e.b.ps ++ e.b.qs ++ e.os).length → Below w.heap.size w W → GRow encT W a1 (e.b.ps ++ e.b.qs ++ e.os) → Calls Tryz.prog 65 #[.agg #[.slice a1 n1 c1, .func (.func 105) #[] #[]]] W fun ex w' => ex = .returned (.bool (ascIB (sortI ((e.b.ps ++ e.b.qs ++ e.os).map fun x : Ta => x.t.id)))) ∧ Below W.heap.size W w') := fun W a1 c1 n1 h1 h2 h3 => unlike44 (e.b.ps ++ e.b.qs ++ e.os) a1 c1 n1 h1 (by omega) W ⟨h3, HM.out W h2⟩
 have ew : IntKind.i64.wrap (e.b.nx - 1) = e.b.nx - 1 := by rw [IntKind.wrap_i64]; omega
 unfold iolB
 obtain ⟨rl, hrl⟩ : ∃ rl, rl = decide (e.os.length ≤ 4) := ⟨_, rfl⟩
 have HRL : Hid (decide ((4 : Int) < (e.os.length : Int)) = !rl) := by show _ = _; rw [hrl]; by_cases h : e.os.length ≤ 4 <;> simp [h] <;> omega
 rw [← hrl]
 clear hrl
 generalize e.os.all (inStB 1) = r1 at *
 generalize e.os.any (fun x : Ta => decide (e.b.cs < x.t.snap)) = r2 at *
 generalize ascIB (e.os.map fun x : Ta => x.t.id) = r3 at *
 generalize e.os.any (fun x : Ta => decide (e.b.nx - 1 < x.t.id)) = r4 at *
 generalize ascIB (sortI ((e.b.ps ++ e.b.qs ++ e.os).map fun x : Ta => x.t.id)) = r5 at *
 go_enter Tryz.func26, Tryz.ntmps26
 go_upto_region 1 with fail
 generalize (w.alloc (.cells #[.slice e.b.va e.b.vs.length e.b.vc, .slice e.b.pa e.b.ps.length e.b.pc, .slice e.b.qa e.b.qs.length e.b.qc, .int .i64 e.b.cs, .int .i64 e.b.nx, .slice e.oa e.os.length e.oc] 35)) = w0 at *
 have hrl0 := HRL.out
 cases rl
 ·simp only [Bool.not_false] at hrl0
  refine wp_region_held_drew (S := fun w' => w'.cell? ⟨w.heap.size, 3, none⟩ = some (.int .i64 e.b.cs) ∧ w'.cell? ⟨w.heap.size, 5, none⟩ = some (.slice e.oa e.os.length e.oc)) (by kernel_rfl) ⟨BA0.out.c3, BA0.out.c5⟩ (fun hHeld => ?_)
  (refine tk 0 ?_ rfl (Or.inl ⟨by rfl, ?_⟩) ?_; rotate_left; (focus (intro w h; (try dsimp only at h); go_simp; (try with_reducible rfl))); simp only [Act.put, tA, tB, tD, tE, tF])
  (refine tk 1 ?_ rfl (Or.inl ⟨by rfl, ?_⟩) ?_; rotate_left; (focus (intro w h; (try dsimp only at h); go_simp; (try with_reducible rfl))); simp only [Act.put, tA, tB, tC, tD, tE, tF])
  (refine tk 2 ?_ rfl (Or.inl ⟨by rfl, ?_⟩) ?_; rotate_left; (focus (intro w h; (try dsimp only at h); go_simp; (try with_reducible rfl))); simp only [Act.put, tA, tB, tC, tD, tE, tF])
  (refine tk 3 ?_ rfl (Or.inl ⟨by rfl, ?_⟩) ?_; rotate_left; (focus (intro w h; (try dsimp only at h); go_simp; (try with_reducible rfl))); simp only [Act.put, tA, tB, tC, tD, tE, tF])
  (refine tk 4 ?_ rfl (Or.inl ⟨by rfl, ?_⟩) ?_; rotate_left; (focus (intro w h; (try dsimp only at h); go_simp; (try with_reducible rfl))); simp only [Act.put, tA, tB, tC, tD, tE, tF])
  (refine tk 5 undef rfl (Or.inr ⟨by rfl, rfl⟩) ?_; simp only [Act.put, tA, tB, tC, tD, tE, tF])
  (refine tk 6 undef rfl (Or.inr ⟨by rfl, rfl⟩) ?_; simp only [Act.put, tA, tB, tC, tD, tE, tF])
  (refine tk 7 undef rfl (Or.inr ⟨by rfl, rfl⟩) ?_; simp only [Act.put, tA, tB, tC, tD, tE, tF])
  (refine tk 8 undef rfl (Or.inr ⟨by rfl, rfl⟩) ?_; simp only [Act.put, tA, tB, tC, tD, tE, tF])
  (refine tk 9 ?_ rfl (Or.inl ⟨by rfl, ?_⟩) ?_; rotate_left; (focus (intro w h; (try dsimp only at h); go_simp; (try with_reducible rfl))); simp only [Act.put, tA, tB, tC, tD, tE, tF])
  (refine tk 10 ?_ rfl (Or.inl ⟨by rfl, ?_⟩) ?_; rotate_left; (focus (intro w h; (try dsimp only at h); go_simp; (try with_reducible rfl))); simp only [Act.put, tA, tB, tC, tD, tE, tF])
  (refine tk 11 undef rfl (Or.inr ⟨by rfl, rfl⟩) ?_; simp only [Act.put, tA, tB, tC, tD, tE, tF])
  (refine tk 12 undef rfl (Or.inr ⟨by rfl, rfl⟩) ?_; simp only [Act.put, tA, tB, tC, tD, tE, tF])
  (refine tk 13 undef rfl (Or.inr ⟨by rfl, rfl⟩) ?_; simp only [Act.put, tA, tB, tC, tD, tE, tF])
  (refine tk 14 undef rfl (Or.inr ⟨by rfl, rfl⟩) ?_; simp only [Act.put, tA, tB, tC, tD, tE, tF])
  (refine tk 15 undef rfl (Or.inr ⟨by rfl, rfl⟩) ?_; simp only [Act.put, tA, tB, tC, tD, tE, tF])
  (refine tk 16 undef rfl (Or.inr ⟨by rfl, rfl⟩) ?_; simp only [Act.put, tA, tB, tC, tD, tE, tF])
  (refine tk 17 undef rfl (Or.inr ⟨by rfl, rfl⟩) ?_; simp only [Act.put, tA, tB, tC, tD, tE, tF])
  (refine tk 18 ?_ rfl (Or.inl ⟨by rfl, ?_⟩) ?_; rotate_left; (focus (intro w h; (try dsimp only at h); go_simp; (try with_reducible rfl))); simp only [Act.put, tA, tB, tC, tD, tE, tF])
  refine wpAnyH_done (by kernel_rfl) ?_ _
  go_wp2
  go_ret
  exact ⟨rfl, HB0.out.drew⟩
 simp only [Bool.not_true] at hrl0
 refine wp_region_held_drew (S := fun w' => w'.cell? ⟨w.heap.size, 3, none⟩ = some (.int .i64 e.b.cs) ∧ w'.cell? ⟨w.heap.size, 5, none⟩ = some (.slice e.oa e.os.length e.oc)) (by kernel_rfl) ⟨BA0.out.c3, BA0.out.c5⟩ (fun hHeld => ?_)
 (refine tk 0 ?_ rfl (Or.inl ⟨by rfl, ?_⟩) ?_; rotate_left; (focus (intro w h; (try dsimp only at h); go_simp; (try with_reducible rfl))); simp only [Act.put, tA, tB, tD, tE, tF])
 (refine tk 1 ?_ rfl (Or.inl ⟨by rfl, ?_⟩) ?_; rotate_left; (focus (intro w h; (try dsimp only at h); go_simp; (try with_reducible rfl))); simp only [Act.put, tA, tB, tC, tD, tE, tF])
 (refine tk 2 ?_ rfl (Or.inl ⟨by rfl, ?_⟩) ?_; rotate_left; (focus (intro w h; (try dsimp only at h); go_simp; (try with_reducible rfl))); simp only [Act.put, tA, tB, tC, tD, tE, tF])
 (refine tk 3 ?_ rfl (Or.inl ⟨by rfl, ?_⟩) ?_; rotate_left; (focus (intro w h; (try dsimp only at h); go_simp; (try with_reducible rfl))); simp only [Act.put, tA, tB, tC, tD, tE, tF])
 (refine tk 4 ?_ rfl (Or.inl ⟨by rfl, ?_⟩) ?_; rotate_left; (focus (intro w h; (try dsimp only at h); go_simp; (try with_reducible rfl))); simp only [Act.put, tA, tB, tC, tD, tE, tF])
 (refine tk 5 ?_ rfl (Or.inl ⟨by rfl, ?_⟩) ?_; rotate_left; (focus (intro w h; (try dsimp only at h); go_simp; (try with_reducible rfl))); simp only [Act.put, tA, tB, tC, tD, tE, tF])
 (refine tk 6 ?_ rfl (Or.inl ⟨by rfl, ?_⟩) ?_; rotate_left; (focus (intro w h; (try dsimp only at h); go_simp; (try with_reducible rfl))); simp only [Act.put, tA, tB, tC, tD, tE, tF])
 refine wpAnyH_ready (rs := [7]) (by kernel_rfl) (by simp) ?_
 refine AllReadyH.cons rfl (fun K hK => ?_) AllReadyH.nil
 go_simp
 go_wp2_with fail
 refine (C1.out _ HB0.out.drew).mono ?_
 rintro ex w1 ⟨rfl, hb9⟩
 have hb := undrew hb9
 have HB1 : Hid (Below w.heap.size w w1) := HB0.out.trans (hb.mono HB0.out.size)
 have BA1 : Hid (Bx w1 w.heap.size [.slice e.b.va e.b.vs.length e.b.vc, .slice e.b.pa e.b.ps.length e.b.pc, .slice e.b.qa e.b.qs.length e.b.qc, .int .i64 e.b.cs, .int .i64 e.b.nx, .slice e.oa e.os.length e.oc]) := BA0.out.below hb
 clear hb hb9 HB0 BA0
 go_wp2_with fail
 refine hK.out _ _ ⟨BA1.out.c3, BA1.out.c5⟩ (fun hHeld1 => ?_)
 clear hK K
 cases r1
 ·(refine tk 8 ?_ rfl (Or.inl ⟨by rfl, ?_⟩) ?_; rotate_left; (focus (intro w h; (try dsimp only at h); go_simp; (try with_reducible rfl))); simp only [Act.put, tA, tB, tC, tD, tE, tF])
  (refine tk 9 ?_ rfl (Or.inl ⟨by rfl, ?_⟩) ?_; rotate_left; (focus (intro w h; (try dsimp only at h); go_simp; (try with_reducible rfl))); simp only [Act.put, tA, tB, tC, tD, tE, tF])
  (refine tk 10 ?_ rfl (Or.inl ⟨by rfl, ?_⟩) ?_; rotate_left; (focus (intro w h; (try dsimp only at h); go_simp; (try with_reducible rfl))); simp only [Act.put, tA, tB, tC, tD, tE, tF])
  (refine tk 11 undef rfl (Or.inr ⟨by rfl, rfl⟩) ?_; simp only [Act.put, tA, tB, tC, tD, tE, tF])
  (refine tk 12 undef rfl (Or.inr ⟨by rfl, rfl⟩) ?_; simp only [Act.put, tA, tB, tC, tD, tE, tF])
  (refine tk 13 undef rfl (Or.inr ⟨by rfl, rfl⟩) ?_; simp only [Act.put, tA, tB, tC, tD, tE, tF])
  (refine tk 14 undef rfl (Or.inr ⟨by rfl, rfl⟩) ?_; simp only [Act.put, tA, tB, tC, tD, tE, tF])
  (refine tk 15 undef rfl (Or.inr ⟨by rfl, rfl⟩) ?_; simp only [Act.put, tA, tB, tC, tD, tE, tF])
  (refine tk 16 undef rfl (Or.inr ⟨by rfl, rfl⟩) ?_; simp only [Act.put, tA, tB, tC, tD, tE, tF])
  (refine tk 17 undef rfl (Or.inr ⟨by rfl, rfl⟩) ?_; simp only [Act.put, tA, tB, tC, tD, tE, tF])
  (refine tk 18 ?_ rfl (Or.inl ⟨by rfl, ?_⟩) ?_; rotate_left; (focus (intro w h; (try dsimp only at h); go_simp; (try with_reducible rfl))); simp only [Act.put, tA, tB, tC, tD, tE, tF])
  refine wpAnyH_done (by kernel_rfl) ?_ _
  go_wp2
  go_ret
  exact ⟨rfl, HB1.out⟩
 (refine tk 8 ?_ rfl (Or.inl ⟨by rfl, ?_⟩) ?_; rotate_left; (focus (intro w h; (try dsimp only at h); go_simp; (try with_reducible rfl))); simp only [Act.put, tA, tB, tC, tD, tE, tF])
 (refine tk 9 ?_ rfl (Or.inl ⟨by rfl, ?_⟩) ?_; rotate_left; (focus (intro w h; (try dsimp only at h); go_simp; (try with_reducible rfl))); simp only [Act.put, tA, tB, tC, tD, tE, tF])
 (refine tk 10 ?_ rfl (Or.inl ⟨by rfl, ?_⟩) ?_; rotate_left; (focus (intro w h; (try dsimp only at h); go_simp; (try with_reducible rfl))); simp only [Act.put, tA, tB, tC, tD, tE, tF])
 (refine tk 11 ?_ rfl (Or.inl ⟨by rfl, ?_⟩) ?_; rotate_left; (focus (intro w h; (try dsimp only at h); go_simp; (try with_reducible rfl))); simp only [Act.put, tA, tB, tC, tD, tE, tF])
 (refine tk 12 ?_ rfl (Or.inl ⟨by rfl, ?_⟩) ?_; rotate_left; (focus (intro w h; (try dsimp only at h); go_simp; (try with_reducible rfl))); simp only [Act.put, tA, tB, tC, tD, tE, tF])
 (refine tk 14 ?_ rfl (Or.inl ⟨by rfl, ?_⟩) ?_; rotate_left; (focus (intro w h; (try dsimp only at h); go_simp; (try with_reducible rfl))); simp only [Act.put, tA, tB, tC, tD, tE, tF])
 (refine tk 15 ?_ rfl (Or.inl ⟨by rfl, ?_⟩) ?_; rotate_left; (focus (intro w h; (try dsimp only at h); go_simp; (try with_reducible rfl))); simp only [Act.put, tA, tB, tC, tD, tE, tF])
 (refine tk 16 ?_ rfl (Or.inl ⟨by rfl, ?_⟩) ?_; rotate_left; (focus (intro w h; (try dsimp only at h); go_simp; (try with_reducible rfl))); simp only [Act.put, tA, tB, tC, tD, tE, tF])
 refine wpAnyH_ready (rs := [13]) (by kernel_rfl) (by simp) ?_
 refine AllReadyH.cons rfl (fun K hK => ?_) AllReadyH.nil
 go_simp
 go_wp2_with fail
 refine (C2.out _).mono ?_
 rintro ex w2 ⟨rfl, hb⟩
 have HB2 : Hid (Below w.heap.size w w2) := HB1.out.trans (hb.mono HB1.out.size)
 have BA2 : Hid (Bx w2 w.heap.size [.slice e.b.va e.b.vs.length e.b.vc, .slice e.b.pa e.b.ps.length e.b.pc, .slice e.b.qa e.b.qs.length e.b.qc, .int .i64 e.b.cs, .int .i64 e.b.nx, .slice e.oa e.os.length e.oc]) := BA1.out.below hb
 clear hb HB1 BA1
 go_wp2_with fail
 refine hK.out _ _ ⟨BA2.out.c3, BA2.out.c5⟩ (fun hHeld2 => ?_)
 clear hK K
 refine wpAnyH_ready (rs := [17]) (by kernel_rfl) (by simp) ?_
 refine AllReadyH.cons rfl (fun K hK => ?_) AllReadyH.nil
 go_simp
 go_wp2_with fail
 refine (C3.out _ HB2.out).mono ?_
 rintro ex w3 ⟨rfl, hb⟩
 have HB3 : Hid (Below w.heap.size w w3) := HB2.out.trans (hb.mono HB2.out.size)
 have BA3 : Hid (Bx w3 w.heap.size [.slice e.b.va e.b.vs.length e.b.vc, .slice e.b.pa e.b.ps.length e.b.pc, .slice e.b.qa e.b.qs.length e.b.qc, .int .i64 e.b.cs, .int .i64 e.b.nx, .slice e.oa e.os.length e.oc]) := BA2.out.below hb
 clear hb HB2 BA2
 go_wp2_with fail
 refine hK.out _ _ ⟨BA3.out.c3, BA3.out.c5⟩ (fun hHeld3 => ?_)
 clear hK K
 (refine tk 18 ?_ rfl (Or.inl ⟨by rfl, ?_⟩) ?_; rotate_left; (focus (intro w h; (try dsimp only at h); go_simp; (try with_reducible rfl))); simp only [Act.put, tA, tB, tC, tD, tE, tF])
 cases r2
 rotate_left
 ·refine wpAnyH_done (by kernel_rfl) ?_ _
  go_wp2
  go_ret
  exact ⟨rfl, HB3.out⟩
 refine wpAnyH_done (by kernel_rfl) ?_ _
 go_wp2
 have HSl : Hid (sums [⟨e.b.pa, e.b.ps.length, e.b.pc, e.b.ps⟩, ⟨e.b.qa, e.b.qs.length, e.b.qc, e.b.qs⟩, ⟨e.oa, e.os.length, e.oc, e.os⟩] = e.b.ps ++ e.b.qs ++ e.os) := by show _ = _; simp [sums]
 have CC : Hid (∀ (W : World) (gs : Nat), Below w3.heap.size w3 W → GRow encSl W (some ⟨gs, 0, none⟩) [⟨e.b.pa, e.b.ps.length, e.b.pc, e.b.ps⟩, ⟨e.b.qa, e.b.qs.length, e.b.qc, e.b.qs⟩, ⟨e.oa, e.os.length, e.oc, e.os⟩] → Calls Tryz.prog 63 #[.slice (some ⟨gs, 0, none⟩) 3 3] W fun ex w' => ∃ (a1 : Option Addr) (c1 n1 : Nat), ex = .returned (.slice a1 n1 c1) ∧ n1 = (e.b.ps ++ e.b.qs ++ e.os).length ∧ GOwn encT 56 w' W.heap.size (.slice a1 n1 c1) (e.b.ps ++ e.b.qs ++ e.os) ∧ Below W.heap.size W w') := fun W gs h1 h2 => by
  have hw := HB3.out.trans (h1.mono HB3.out.size)
  have h := concat43 [⟨e.b.pa, e.b.ps.length, e.b.pc, e.b.ps⟩, ⟨e.b.qa, e.b.qs.length, e.b.qc, e.b.qs⟩, ⟨e.oa, e.os.length, e.oc, e.os⟩] (some ⟨gs, 0, none⟩) 3 3 rfl (by omega) (by rw [HSl.out]; exact hlen) W h2 (fun s hs => by
   rcases List.mem_cons.1 hs with rfl | hs
   ·exact ⟨rfl, (HP.out.below hw).b.p.row, HZ.out.1⟩
   ·rcases List.mem_cons.1 hs with rfl | hs
    ·exact ⟨rfl, (HP.out.below hw).b.q.row, HZ.out.2⟩
    ·obtain rfl := List.mem_singleton.1 hs
     exact ⟨rfl, (HP.out.below hw).o.row, HO.out⟩)
  rwa [HSl.out] at h
 have CI : Hid (∀ W : World, Calls Tryz.prog 62 #[.slice e.oa e.os.length e.oc] W fun ex w' => ex = .returned (.agg #[.slice e.oa e.os.length e.oc, .func (.func 105) #[] #[]]) ∧ Below W.heap.size W w') := fun W => by42 e.oa e.oc e.os.length W
 have HS : Hid (∀ W : World, Below w3.heap.size w3 W → W.cell? ⟨w.heap.size, 1, none⟩ = some (.slice e.b.pa e.b.ps.length e.b.pc) ∧ W.cell? ⟨w.heap.size, 2, none⟩ = some (.slice e.b.qa e.b.qs.length e.b.qc) ∧ W.cell? ⟨w.heap.size, 5, none⟩ = some (.slice e.oa e.os.length e.oc)) := fun W h => ⟨(BA3.out.below h).c1, (BA3.out.below h).c2, (BA3.out.below h).c5⟩
 obtain ⟨zs, hzs⟩ : ∃ zs, zs = e.b.ps ++ e.b.qs ++ e.os := ⟨_, rfl⟩
 rw [← hzs] at CC C6
 clear hzs HSl hlen HM
 go_cut [3, 4] from 24 to 37 (fun u3 u4 wx => ∃ (q3 q4 : Nat) (a1 : Option Addr) (c1 n1 : Nat), u3 = .pointer (some ⟨q3, 0, none⟩) ∧ u4 = .pointer (some ⟨q4, 0, none⟩) ∧ Hid (Bx wx q3 [.slice e.oa e.os.length e.oc, .func (.func 105) #[] #[]]) ∧ Hid (Bx wx q4 [.slice a1 n1 c1, .func (.func 105) #[] #[]]) ∧ Hid (n1 = zs.length) ∧ Hid (GRow encT wx a1 zs) ∧ Hid (Below w3.heap.size w3 wx))
 case first =>
  refine wp_region_held_drew (S := fun w' => w'.cell? ⟨w.heap.size, 1, none⟩ = some (.slice e.b.pa e.b.ps.length e.b.pc) ∧ w'.cell? ⟨w.heap.size, 2, none⟩ = some (.slice e.b.qa e.b.qs.length e.b.qc) ∧ w'.cell? ⟨w.heap.size, 5, none⟩ = some (.slice e.oa e.os.length e.oc)) (by kernel_rfl) ⟨BA3.out.c1, BA3.out.c2, BA3.out.c5⟩ (fun hHeld => ?_)
  (refine tk 0 ?_ rfl (Or.inl ⟨by rfl, ?_⟩) ?_; rotate_left; (focus (intro w h; (try dsimp only at h); go_simp; (try with_reducible rfl))); simp only [Act.put, tA, tB, tD, tE, tF])
  (refine tk 1 ?_ rfl (Or.inl ⟨by rfl, ?_⟩) ?_; rotate_left; (focus (intro w h; (try dsimp only at h); go_simp; (try with_reducible rfl))); simp only [Act.put, tA, tB, tC, tD, tE, tF])
  (refine tk 3 ?_ rfl (Or.inl ⟨by rfl, ?_⟩) ?_; rotate_left; (focus (intro w h; (try dsimp only at h); go_simp; (try with_reducible rfl))); simp only [Act.put, tA, tB, tC, tD, tE, tF])
  (refine tk 4 ?_ rfl (Or.inl ⟨by rfl, ?_⟩) ?_; rotate_left; (focus (intro w h; (try dsimp only at h); go_simp; (try with_reducible rfl))); simp only [Act.put, tA, tB, tC, tD, tE, tF])
  (refine tk 5 ?_ rfl (Or.inl ⟨by rfl, ?_⟩) ?_; rotate_left; (focus (intro w h; (try dsimp only at h); go_simp; (try with_reducible rfl))); simp only [Act.put, tA, tB, tC, tD, tE, tF])
  (refine tk 6 ?_ rfl (Or.inl ⟨by rfl, ?_⟩) ?_; rotate_left; (focus (intro w h; (try dsimp only at h); go_simp; (try with_reducible rfl))); simp only [Act.put, tA, tB, tC, tD, tE, tF])
  (refine tk 7 ?_ rfl (Or.inl ⟨by rfl, ?_⟩) ?_; rotate_left; (focus (intro w h; (try dsimp only at h); go_simp; (try with_reducible rfl))); simp only [Act.put, tA, tB, tC, tD, tE, tF])
  (refine tk 8 ?_ rfl (Or.inl ⟨by rfl, ?_⟩) ?_; rotate_left; (focus (intro w h; (try dsimp only at h); go_simp; (try with_reducible rfl))); simp only [Act.put, tA, tB, tC, tD, tE, tF])
  (refine tk 9 ?_ rfl (Or.inl ⟨by rfl, ?_⟩) ?_; rotate_left; (focus (intro w h; (try dsimp only at h); go_simp; (try with_reducible rfl))); simp only [Act.put, tA, tB, tC, tD, tE, tF])
  (refine tk 10 ?_ rfl (Or.inl ⟨by rfl, ?_⟩) ?_; rotate_left; (focus (intro w h; (try dsimp only at h); go_simp; (try with_reducible rfl))); simp only [Act.put, tA, tB, tC, tD, tE, tF])
  have HB : Hid (Below w3.heap.size w3 w3.drew) := (belowRefl w3).drew
  generalize w3.drew = vd at *
  refine wpAnyH_ready (rs := [2, 11, 14, 15]) (by kernel_rfl) (by simp) ?_
  refine (AllReadyH.cons rfl (fun K hK => ?_) (AllReadyH.cons rfl (fun K hK => ?_) (AllReadyH.cons rfl (fun K hK => ?_) (AllReadyH.cons rfl (fun K hK => ?_) AllReadyH.nil))))
  ·go_simp; go_wp2_with fail
   refine (CI.out _).mono ?_
   rintro ex v0 ⟨rfl, hb⟩
   replace HB := hide (btr HB.out hb); clear hb
   go_wp2_with fail
   refine hK.out _ _ (HS.out _ HB.out) (fun _ => ?_); clear hK K
   refine wpAnyH_ready (rs := [11, 14, 15]) (by kernel_rfl) (by simp) ?_
   refine (AllReadyH.cons rfl (fun K hK => ?_) (AllReadyH.cons rfl (fun K hK => ?_) (AllReadyH.cons rfl (fun K hK => ?_) AllReadyH.nil)))
   ·as_aux_lemma =>
    go_simp
    obtain ⟨hb, RS⟩ := al11 e HB.out; replace RS := hide RS
    replace HB := hide (btr HB.out hb); clear hb
    generalize (v0.alloc (.cells #[.slice e.b.pa e.b.ps.length e.b.pc, .slice e.b.qa e.b.qs.length e.b.qc, .slice e.oa e.os.length e.oc] 31)) = v1 at *
    refine hK.out _ _ (HS.out _ HB.out) (fun _ => ?_); clear hK K
    refine wpAnyH_ready (rs := [12, 14, 15]) (by kernel_rfl) (by simp) ?_
    refine (AllReadyH.cons rfl (fun K hK => ?_) (AllReadyH.cons rfl (fun K hK => ?_) (AllReadyH.cons rfl (fun K hK => ?_) AllReadyH.nil)))
    ·go_simp; go_wp2_with fail
     refine (CC.out _ _ HB.out RS.out).mono ?_
     rintro ex v2 ⟨a1, c1, n1, rfl, hn, ho, hb⟩
     have HN := hide hn; have RZ := hide (Lies.of ho); have UZ := hide (Nat.le_refl v2.heap.size); clear ho hn
     replace HB := hide (btr HB.out hb)
     replace RS := hide (RS.out.below hb); clear hb
     go_wp2_with fail
     refine hK.out _ _ (HS.out _ HB.out) (fun _ => ?_); clear hK K
     refine wpAnyH_ready (rs := [13, 14, 15]) (by kernel_rfl) (by simp) ?_
     refine (AllReadyH.cons rfl (fun K hK => ?_) (AllReadyH.cons rfl (fun K hK => ?_) (AllReadyH.cons rfl (fun K hK => ?_) AllReadyH.nil)))
     ·go_simp; go_wp2_with fail
      refine (by42 a1 c1 n1 _).mono ?_
      rintro ex v3 ⟨rfl, hb⟩
      replace HB := hide (btr HB.out hb)
      replace RZ := hide (RZ.out.below hb)
      replace UZ := hide (Nat.le_trans UZ.out hb.size); clear hb
      go_wp2_with fail
      refine hK.out _ _ (HS.out _ HB.out) (fun _ => ?_); clear hK K
      refine wpAnyH_ready (rs := [14, 15]) (by kernel_rfl) (by simp) ?_
      refine (AllReadyH.cons rfl (fun K hK => ?_) (AllReadyH.cons rfl (fun K hK => ?_) AllReadyH.nil))
      ·go_simp
       obtain ⟨hb, B3, L3⟩ := alK HB.out
       have D3 := hide (djr RZ.out UZ.out)
       replace HB := hide (btr HB.out hb)
       replace RZ := hide (RZ.out.below hb)
       replace UZ := hide (Nat.le_trans UZ.out hb.size); clear hb
       generalize (v3.alloc (.cells #[.slice none 0 0, .nilFunc] 102)) = v4 at *
       refine hK.out _ _ (HS.out _ HB.out) (fun _ => ?_); clear hK K
       refine wpAnyH_ready (rs := [15]) (by kernel_rfl) (by simp) ?_
       refine (AllReadyH.cons rfl (fun K hK => ?_) AllReadyH.nil)
       ·go_simp
        obtain ⟨hb, B4, L4⟩ := alK HB.out
        have D4 := hide (djr RZ.out UZ.out)
        have N34 := hide (Nat.ne_of_lt B3.out.lt)
        replace HB := hide (btr HB.out hb)
        replace RZ := hide (RZ.out.below hb)
        replace UZ := hide (Nat.le_trans UZ.out hb.size)
        replace B3 := hide (B3.out.below hb); clear hb
        generalize (v4.alloc (.cells #[.slice none 0 0, .nilFunc] 102)) = v5 at *
        refine hK.out _ _ (HS.out _ HB.out) (fun _ => ?_); clear hK K
        refine wpAnyH_ready (rs := [16]) (by kernel_rfl) (by simp) ?_
        refine (AllReadyH.cons rfl (fun K hK => ?_) AllReadyH.nil)
        have o0 := B3.out.c0; have p0 := B3.out.fz 0; have o1 := B3.out.c1; have p1 := B3.out.fz 1
        go_simp; clear o0 p0 o1 p1
        obtain ⟨B3, B4, RZ, HB⟩ := stK B3.out B4.out RZ.out HB.out N34.out D3.out L3.out (.slice e.oa e.os.length e.oc) (.func (.func 105) #[] #[])
        refine hK.out _ _ (HS.out _ HB.out) (fun _ => ?_); clear hK K
        refine wpAnyH_ready (rs := [17]) (by kernel_rfl) (by simp) ?_
        refine (AllReadyH.cons rfl (fun K hK => ?_) AllReadyH.nil)
        have o0 := B4.out.c0; have p0 := B4.out.fz 0; have o1 := B4.out.c1; have p1 := B4.out.fz 1
        go_simp; clear o0 p0 o1 p1
        obtain ⟨B4, B3, RZ, HB⟩ := stK B4.out B3.out RZ.out HB.out N34.out.symm D4.out L4.out (.slice a1 n1 c1) (.func (.func 105) #[] #[])
        refine hK.out _ _ (HS.out _ HB.out) (fun _ => ?_); clear hK K
        refine wpAnyH_done (by kernel_rfl) ?_ _
        go_wp2; go_meet
        exact ⟨_, _, a1, c1, n1, rfl, rfl, B3, B4, HN, GRow.row2 RZ.out HN.out, HB⟩
      ·go_simp
       obtain ⟨hb, B4, L4⟩ := alK HB.out
       have D4 := hide (djr RZ.out UZ.out)
       replace HB := hide (btr HB.out hb)
       replace RZ := hide (RZ.out.below hb)
       replace UZ := hide (Nat.le_trans UZ.out hb.size); clear hb
       generalize (v3.alloc (.cells #[.slice none 0 0, .nilFunc] 102)) = v4 at *
       refine hK.out _ _ (HS.out _ HB.out) (fun _ => ?_); clear hK K
       refine wpAnyH_ready (rs := [14]) (by kernel_rfl) (by simp) ?_
       refine (AllReadyH.cons rfl (fun K hK => ?_) AllReadyH.nil)
       ·go_simp
        obtain ⟨hb, B3, L3⟩ := alK HB.out
        have D3 := hide (djr RZ.out UZ.out)
        have N34 := hide (Nat.ne_of_gt B4.out.lt)
        replace HB := hide (btr HB.out hb)
        replace RZ := hide (RZ.out.below hb)
        replace UZ := hide (Nat.le_trans UZ.out hb.size)
        replace B4 := hide (B4.out.below hb); clear hb
        generalize (v4.alloc (.cells #[.slice none 0 0, .nilFunc] 102)) = v5 at *
        refine hK.out _ _ (HS.out _ HB.out) (fun _ => ?_); clear hK K
        refine wpAnyH_ready (rs := [16]) (by kernel_rfl) (by simp) ?_
        refine (AllReadyH.cons rfl (fun K hK => ?_) AllReadyH.nil)
        have o0 := B3.out.c0; have p0 := B3.out.fz 0; have o1 := B3.out.c1; have p1 := B3.out.fz 1
        go_simp; clear o0 p0 o1 p1
        obtain ⟨B3, B4, RZ, HB⟩ := stK B3.out B4.out RZ.out HB.out N34.out D3.out L3.out (.slice e.oa e.os.length e.oc) (.func (.func 105) #[] #[])
        refine hK.out _ _ (HS.out _ HB.out) (fun _ => ?_); clear hK K
        refine wpAnyH_ready (rs := [17]) (by kernel_rfl) (by simp) ?_
        refine (AllReadyH.cons rfl (fun K hK => ?_) AllReadyH.nil)
        have o0 := B4.out.c0; have p0 := B4.out.fz 0; have o1 := B4.out.c1; have p1 := B4.out.fz 1
        go_simp; clear o0 p0 o1 p1
        obtain ⟨B4, B3, RZ, HB⟩ := stK B4.out B3.out RZ.out HB.out N34.out.symm D4.out L4.out (.slice a1 n1 c1) (.func (.func 105) #[] #[])
        refine hK.out _ _ (HS.out _ HB.out) (fun _ => ?_); clear hK K
        refine wpAnyH_done (by kernel_rfl) ?_ _
        go_wp2; go_meet
        exact ⟨_, _, a1, c1, n1, rfl, rfl, B3, B4, HN, GRow.row2 RZ.out HN.out, HB⟩
     ·go_simp
      obtain ⟨hb, B3, L3⟩ := alK HB.out
      have D3 := hide (djr RZ.out UZ.out)
      replace HB := hide (btr HB.out hb)
      replace RZ := hide (RZ.out.below hb)
      replace UZ := hide (Nat.le_trans UZ.out hb.size); clear hb
      generalize (v2.alloc (.cells #[.slice none 0 0, .nilFunc] 102)) = v3 at *
      refine hK.out _ _ (HS.out _ HB.out) (fun _ => ?_); clear hK K
      refine wpAnyH_ready (rs := [13, 15]) (by kernel_rfl) (by simp) ?_
      refine (AllReadyH.cons rfl (fun K hK => ?_) (AllReadyH.cons rfl (fun K hK => ?_) AllReadyH.nil))
      ·go_simp; go_wp2_with fail
       refine (by42 a1 c1 n1 _).mono ?_
       rintro ex v4 ⟨rfl, hb⟩
       replace HB := hide (btr HB.out hb)
       replace RZ := hide (RZ.out.below hb)
       replace UZ := hide (Nat.le_trans UZ.out hb.size)
       replace B3 := hide (B3.out.below hb); clear hb
       go_wp2_with fail
       refine hK.out _ _ (HS.out _ HB.out) (fun _ => ?_); clear hK K
       refine wpAnyH_ready (rs := [15]) (by kernel_rfl) (by simp) ?_
       refine (AllReadyH.cons rfl (fun K hK => ?_) AllReadyH.nil)
       ·go_simp
        obtain ⟨hb, B4, L4⟩ := alK HB.out
        have D4 := hide (djr RZ.out UZ.out)
        have N34 := hide (Nat.ne_of_lt B3.out.lt)
        replace HB := hide (btr HB.out hb)
        replace RZ := hide (RZ.out.below hb)
        replace UZ := hide (Nat.le_trans UZ.out hb.size)
        replace B3 := hide (B3.out.below hb); clear hb
        generalize (v4.alloc (.cells #[.slice none 0 0, .nilFunc] 102)) = v5 at *
        refine hK.out _ _ (HS.out _ HB.out) (fun _ => ?_); clear hK K
        refine wpAnyH_ready (rs := [16]) (by kernel_rfl) (by simp) ?_
        refine (AllReadyH.cons rfl (fun K hK => ?_) AllReadyH.nil)
        have o0 := B3.out.c0; have p0 := B3.out.fz 0; have o1 := B3.out.c1; have p1 := B3.out.fz 1
        go_simp; clear o0 p0 o1 p1
        obtain ⟨B3, B4, RZ, HB⟩ := stK B3.out B4.out RZ.out HB.out N34.out D3.out L3.out (.slice e.oa e.os.length e.oc) (.func (.func 105) #[] #[])
        refine hK.out _ _ (HS.out _ HB.out) (fun _ => ?_); clear hK K
        refine wpAnyH_ready (rs := [17]) (by kernel_rfl) (by simp) ?_
        refine (AllReadyH.cons rfl (fun K hK => ?_) AllReadyH.nil)
        have o0 := B4.out.c0; have p0 := B4.out.fz 0; have o1 := B4.out.c1; have p1 := B4.out.fz 1
        go_simp; clear o0 p0 o1 p1
        obtain ⟨B4, B3, RZ, HB⟩ := stK B4.out B3.out RZ.out HB.out N34.out.symm D4.out L4.out (.slice a1 n1 c1) (.func (.func 105) #[] #[])
        refine hK.out _ _ (HS.out _ HB.out) (fun _ => ?_); clear hK K
        refine wpAnyH_done (by kernel_rfl) ?_ _
        go_wp2; go_meet
        exact ⟨_, _, a1, c1, n1, rfl, rfl, B3, B4, HN, GRow.row2 RZ.out HN.out, HB⟩
      ·go_simp
       obtain ⟨hb, B4, L4⟩ := alK HB.out
       have D4 := hide (djr RZ.out UZ.out)
       have N34 := hide (Nat.ne_of_lt B3.out.lt)
       replace HB := hide (btr HB.out hb)
       replace RZ := hide (RZ.out.below hb)
       replace UZ := hide (Nat.le_trans UZ.out hb.size)
       replace B3 := hide (B3.out.below hb); clear hb
       generalize (v3.alloc (.cells #[.slice none 0 0, .nilFunc] 102)) = v4 at *
       refine hK.out _ _ (HS.out _ HB.out) (fun _ => ?_); clear hK K
       refine wpAnyH_ready (rs := [13]) (by kernel_rfl) (by simp) ?_
       refine (AllReadyH.cons rfl (fun K hK => ?_) AllReadyH.nil)
       ·go_simp; go_wp2_with fail
        refine (by42 a1 c1 n1 _).mono ?_
        rintro ex v5 ⟨rfl, hb⟩
        replace HB := hide (btr HB.out hb)
        replace RZ := hide (RZ.out.below hb)
        replace UZ := hide (Nat.le_trans UZ.out hb.size)
        replace B3 := hide (B3.out.below hb)
        replace B4 := hide (B4.out.below hb); clear hb
        go_wp2_with fail
        refine hK.out _ _ (HS.out _ HB.out) (fun _ => ?_); clear hK K
        refine wpAnyH_ready (rs := [16]) (by kernel_rfl) (by simp) ?_
        refine (AllReadyH.cons rfl (fun K hK => ?_) AllReadyH.nil)
        have o0 := B3.out.c0; have p0 := B3.out.fz 0; have o1 := B3.out.c1; have p1 := B3.out.fz 1
        go_simp; clear o0 p0 o1 p1
        obtain ⟨B3, B4, RZ, HB⟩ := stK B3.out B4.out RZ.out HB.out N34.out D3.out L3.out (.slice e.oa e.os.length e.oc) (.func (.func 105) #[] #[])
        refine hK.out _ _ (HS.out _ HB.out) (fun _ => ?_); clear hK K
        refine wpAnyH_ready (rs := [17]) (by kernel_rfl) (by simp) ?_
        refine (AllReadyH.cons rfl (fun K hK => ?_) AllReadyH.nil)
        have o0 := B4.out.c0; have p0 := B4.out.fz 0; have o1 := B4.out.c1; have p1 := B4.out.fz 1
        go_simp; clear o0 p0 o1 p1
        obtain ⟨B4, B3, RZ, HB⟩ := stK B4.out B3.out RZ.out HB.out N34.out.symm D4.out L4.out (.slice a1 n1 c1) (.func (.func 105) #[] #[])
        refine hK.out _ _ (HS.out _ HB.out) (fun _ => ?_); clear hK K
        refine wpAnyH_done (by kernel_rfl) ?_ _
        go_wp2; go_meet
        exact ⟨_, _, a1, c1, n1, rfl, rfl, B3, B4, HN, GRow.row2 RZ.out HN.out, HB⟩
     ·go_simp
      obtain ⟨hb, B4, L4⟩ := alK HB.out
      have D4 := hide (djr RZ.out UZ.out)
      replace HB := hide (btr HB.out hb)
      replace RZ := hide (RZ.out.below hb)
      replace UZ := hide (Nat.le_trans UZ.out hb.size); clear hb
      generalize (v2.alloc (.cells #[.slice none 0 0, .nilFunc] 102)) = v3 at *
      refine hK.out _ _ (HS.out _ HB.out) (fun _ => ?_); clear hK K
      refine wpAnyH_ready (rs := [13, 14]) (by kernel_rfl) (by simp) ?_
      refine (AllReadyH.cons rfl (fun K hK => ?_) (AllReadyH.cons rfl (fun K hK => ?_) AllReadyH.nil))
      ·go_simp; go_wp2_with fail
       refine (by42 a1 c1 n1 _).mono ?_
       rintro ex v4 ⟨rfl, hb⟩
       replace HB := hide (btr HB.out hb)
       replace RZ := hide (RZ.out.below hb)
       replace UZ := hide (Nat.le_trans UZ.out hb.size)
       replace B4 := hide (B4.out.below hb); clear hb
       go_wp2_with fail
       refine hK.out _ _ (HS.out _ HB.out) (fun _ => ?_); clear hK K
       refine wpAnyH_ready (rs := [14]) (by kernel_rfl) (by simp) ?_
       refine (AllReadyH.cons rfl (fun K hK => ?_) AllReadyH.nil)
       ·go_simp
        obtain ⟨hb, B3, L3⟩ := alK HB.out
        have D3 := hide (djr RZ.out UZ.out)
        have N34 := hide (Nat.ne_of_gt B4.out.lt)
        replace HB := hide (btr HB.out hb)
        replace RZ := hide (RZ.out.below hb)
        replace UZ := hide (Nat.le_trans UZ.out hb.size)
        replace B4 := hide (B4.out.below hb); clear hb
        generalize (v4.alloc (.cells #[.slice none 0 0, .nilFunc] 102)) = v5 at *
        refine hK.out _ _ (HS.out _ HB.out) (fun _ => ?_); clear hK K
        refine wpAnyH_ready (rs := [16]) (by kernel_rfl) (by simp) ?_
        refine (AllReadyH.cons rfl (fun K hK => ?_) AllReadyH.nil)
        have o0 := B3.out.c0; have p0 := B3.out.fz 0; have o1 := B3.out.c1; have p1 := B3.out.fz 1
        go_simp; clear o0 p0 o1 p1
        obtain ⟨B3, B4, RZ, HB⟩ := stK B3.out B4.out RZ.out HB.out N34.out D3.out L3.out (.slice e.oa e.os.length e.oc) (.func (.func 105) #[] #[])
        refine hK.out _ _ (HS.out _ HB.out) (fun _ => ?_); clear hK K
        refine wpAnyH_ready (rs := [17]) (by kernel_rfl) (by simp) ?_
        refine (AllReadyH.cons rfl (fun K hK => ?_) AllReadyH.nil)
        have o0 := B4.out.c0; have p0 := B4.out.fz 0; have o1 := B4.out.c1; have p1 := B4.out.fz 1
        go_simp; clear o0 p0 o1 p1
        obtain ⟨B4, B3, RZ, HB⟩ := stK B4.out B3.out RZ.out HB.out N34.out.symm D4.out L4.out (.slice a1 n1 c1) (.func (.func 105) #[] #[])
        refine hK.out _ _ (HS.out _ HB.out) (fun _ => ?_); clear hK K
        refine wpAnyH_done (by kernel_rfl) ?_ _
        go_wp2; go_meet
        exact ⟨_, _, a1, c1, n1, rfl, rfl, B3, B4, HN, GRow.row2 RZ.out HN.out, HB⟩
      ·go_simp
       obtain ⟨hb, B3, L3⟩ := alK HB.out
       have D3 := hide (djr RZ.out UZ.out)
       have N34 := hide (Nat.ne_of_gt B4.out.lt)
       replace HB := hide (btr HB.out hb)
       replace RZ := hide (RZ.out.below hb)
       replace UZ := hide (Nat.le_trans UZ.out hb.size)
       replace B4 := hide (B4.out.below hb); clear hb
       generalize (v3.alloc (.cells #[.slice none 0 0, .nilFunc] 102)) = v4 at *
       refine hK.out _ _ (HS.out _ HB.out) (fun _ => ?_); clear hK K
       refine wpAnyH_ready (rs := [13]) (by kernel_rfl) (by simp) ?_
       refine (AllReadyH.cons rfl (fun K hK => ?_) AllReadyH.nil)
       ·go_simp; go_wp2_with fail
        refine (by42 a1 c1 n1 _).mono ?_
        rintro ex v5 ⟨rfl, hb⟩
        replace HB := hide (btr HB.out hb)
        replace RZ := hide (RZ.out.below hb)
        replace UZ := hide (Nat.le_trans UZ.out hb.size)
        replace B3 := hide (B3.out.below hb)
        replace B4 := hide (B4.out.below hb); clear hb
        go_wp2_with fail
        refine hK.out _ _ (HS.out _ HB.out) (fun _ => ?_); clear hK K
        refine wpAnyH_ready (rs := [16]) (by kernel_rfl) (by simp) ?_
        refine (AllReadyH.cons rfl (fun K hK => ?_) AllReadyH.nil)
        have o0 := B3.out.c0; have p0 := B3.out.fz 0; have o1 := B3.out.c1; have p1 := B3.out.fz 1
        go_simp; clear o0 p0 o1 p1
        obtain ⟨B3, B4, RZ, HB⟩ := stK B3.out B4.out RZ.out HB.out N34.out D3.out L3.out (.slice e.oa e.os.length e.oc) (.func (.func 105) #[] #[])
        refine hK.out _ _ (HS.out _ HB.out) (fun _ => ?_); clear hK K
        refine wpAnyH_ready (rs := [17]) (by kernel_rfl) (by simp) ?_
        refine (AllReadyH.cons rfl (fun K hK => ?_) AllReadyH.nil)
        have o0 := B4.out.c0; have p0 := B4.out.fz 0; have o1 := B4.out.c1; have p1 := B4.out.fz 1
        go_simp; clear o0 p0 o1 p1
        obtain ⟨B4, B3, RZ, HB⟩ := stK B4.out B3.out RZ.out HB.out N34.out.symm D4.out L4.out (.slice a1 n1 c1) (.func (.func 105) #[] #[])
        refine hK.out _ _ (HS.out _ HB.out) (fun _ => ?_); clear hK K
        refine wpAnyH_done (by kernel_rfl) ?_ _
        go_wp2; go_meet
        exact ⟨_, _, a1, c1, n1, rfl, rfl, B3, B4, HN, GRow.row2 RZ.out HN.out, HB⟩
    ·go_simp
     obtain ⟨hb, B3, L3⟩ := alK HB.out
     replace HB := hide (btr HB.out hb)
     replace RS := hide (RS.out.below hb); clear hb
     generalize (v1.alloc (.cells #[.slice none 0 0, .nilFunc] 102)) = v2 at *
     refine hK.out _ _ (HS.out _ HB.out) (fun _ => ?_); clear hK K
     refine wpAnyH_ready (rs := [12, 15]) (by kernel_rfl) (by simp) ?_
     refine (AllReadyH.cons rfl (fun K hK => ?_) (AllReadyH.cons rfl (fun K hK => ?_) AllReadyH.nil))
     ·go_simp; go_wp2_with fail
      refine (CC.out _ _ HB.out RS.out).mono ?_
      rintro ex v3 ⟨a1, c1, n1, rfl, hn, ho, hb⟩
      have HN := hide hn; have RZ := hide (Lies.of ho); have UZ := hide (Nat.le_refl v3.heap.size)
      have D3 := hide (djb B3.out RZ.out); clear ho hn
      replace HB := hide (btr HB.out hb)
      replace RS := hide (RS.out.below hb)
      replace B3 := hide (B3.out.below hb); clear hb
      go_wp2_with fail
      refine hK.out _ _ (HS.out _ HB.out) (fun _ => ?_); clear hK K
      refine wpAnyH_ready (rs := [13, 15]) (by kernel_rfl) (by simp) ?_
      refine (AllReadyH.cons rfl (fun K hK => ?_) (AllReadyH.cons rfl (fun K hK => ?_) AllReadyH.nil))
      ·go_simp; go_wp2_with fail
       refine (by42 a1 c1 n1 _).mono ?_
       rintro ex v4 ⟨rfl, hb⟩
       replace HB := hide (btr HB.out hb)
       replace RZ := hide (RZ.out.below hb)
       replace UZ := hide (Nat.le_trans UZ.out hb.size)
       replace B3 := hide (B3.out.below hb); clear hb
       go_wp2_with fail
       refine hK.out _ _ (HS.out _ HB.out) (fun _ => ?_); clear hK K
       refine wpAnyH_ready (rs := [15]) (by kernel_rfl) (by simp) ?_
       refine (AllReadyH.cons rfl (fun K hK => ?_) AllReadyH.nil)
       ·go_simp
        obtain ⟨hb, B4, L4⟩ := alK HB.out
        have D4 := hide (djr RZ.out UZ.out)
        have N34 := hide (Nat.ne_of_lt B3.out.lt)
        replace HB := hide (btr HB.out hb)
        replace RZ := hide (RZ.out.below hb)
        replace UZ := hide (Nat.le_trans UZ.out hb.size)
        replace B3 := hide (B3.out.below hb); clear hb
        generalize (v4.alloc (.cells #[.slice none 0 0, .nilFunc] 102)) = v5 at *
        refine hK.out _ _ (HS.out _ HB.out) (fun _ => ?_); clear hK K
        refine wpAnyH_ready (rs := [16]) (by kernel_rfl) (by simp) ?_
        refine (AllReadyH.cons rfl (fun K hK => ?_) AllReadyH.nil)
        have o0 := B3.out.c0; have p0 := B3.out.fz 0; have o1 := B3.out.c1; have p1 := B3.out.fz 1
        go_simp; clear o0 p0 o1 p1
        obtain ⟨B3, B4, RZ, HB⟩ := stK B3.out B4.out RZ.out HB.out N34.out D3.out L3.out (.slice e.oa e.os.length e.oc) (.func (.func 105) #[] #[])
        refine hK.out _ _ (HS.out _ HB.out) (fun _ => ?_); clear hK K
        refine wpAnyH_ready (rs := [17]) (by kernel_rfl) (by simp) ?_
        refine (AllReadyH.cons rfl (fun K hK => ?_) AllReadyH.nil)
        have o0 := B4.out.c0; have p0 := B4.out.fz 0; have o1 := B4.out.c1; have p1 := B4.out.fz 1
        go_simp; clear o0 p0 o1 p1
        obtain ⟨B4, B3, RZ, HB⟩ := stK B4.out B3.out RZ.out HB.out N34.out.symm D4.out L4.out (.slice a1 n1 c1) (.func (.func 105) #[] #[])
        refine hK.out _ _ (HS.out _ HB.out) (fun _ => ?_); clear hK K
        refine wpAnyH_done (by kernel_rfl) ?_ _
        go_wp2; go_meet
        exact ⟨_, _, a1, c1, n1, rfl, rfl, B3, B4, HN, GRow.row2 RZ.out HN.out, HB⟩
      ·go_simp
       obtain ⟨hb, B4, L4⟩ := alK HB.out
       have D4 := hide (djr RZ.out UZ.out)
       have N34 := hide (Nat.ne_of_lt B3.out.lt)
       replace HB := hide (btr HB.out hb)
       replace RZ := hide (RZ.out.below hb)
       replace UZ := hide (Nat.le_trans UZ.out hb.size)
       replace B3 := hide (B3.out.below hb); clear hb
       generalize (v3.alloc (.cells #[.slice none 0 0, .nilFunc] 102)) = v4 at *
       refine hK.out _ _ (HS.out _ HB.out) (fun _ => ?_); clear hK K
       refine wpAnyH_ready (rs := [13]) (by kernel_rfl) (by simp) ?_
       refine (AllReadyH.cons rfl (fun K hK => ?_) AllReadyH.nil)
       ·go_simp; go_wp2_with fail
        refine (by42 a1 c1 n1 _).mono ?_
        rintro ex v5 ⟨rfl, hb⟩
        replace HB := hide (btr HB.out hb)
        replace RZ := hide (RZ.out.below hb)
        replace UZ := hide (Nat.le_trans UZ.out hb.size)
        replace B3 := hide (B3.out.below hb)
        replace B4 := hide (B4.out.below hb); clear hb
        go_wp2_with fail
        refine hK.out _ _ (HS.out _ HB.out) (fun _ => ?_); clear hK K
        refine wpAnyH_ready (rs := [16]) (by kernel_rfl) (by simp) ?_
        refine (AllReadyH.cons rfl (fun K hK => ?_) AllReadyH.nil)
        have o0 := B3.out.c0; have p0 := B3.out.fz 0; have o1 := B3.out.c1; have p1 := B3.out.fz 1
        go_simp; clear o0 p0 o1 p1
        obtain ⟨B3, B4, RZ, HB⟩ := stK B3.out B4.out RZ.out HB.out N34.out D3.out L3.out (.slice e.oa e.os.length e.oc) (.func (.func 105) #[] #[])
        refine hK.out _ _ (HS.out _ HB.out) (fun _ => ?_); clear hK K
        refine wpAnyH_ready (rs := [17]) (by kernel_rfl) (by simp) ?_
        refine (AllReadyH.cons rfl (fun K hK => ?_) AllReadyH.nil)
        have o0 := B4.out.c0; have p0 := B4.out.fz 0; have o1 := B4.out.c1; have p1 := B4.out.fz 1
        go_simp; clear o0 p0 o1 p1
        obtain ⟨B4, B3, RZ, HB⟩ := stK B4.out B3.out RZ.out HB.out N34.out.symm D4.out L4.out (.slice a1 n1 c1) (.func (.func 105) #[] #[])
        refine hK.out _ _ (HS.out _ HB.out) (fun _ => ?_); clear hK K
        refine wpAnyH_done (by kernel_rfl) ?_ _
        go_wp2; go_meet
        exact ⟨_, _, a1, c1, n1, rfl, rfl, B3, B4, HN, GRow.row2 RZ.out HN.out, HB⟩
     ·go_simp
      obtain ⟨hb, B4, L4⟩ := alK HB.out
      have N34 := hide (Nat.ne_of_lt B3.out.lt)
      replace HB := hide (btr HB.out hb)
      replace RS := hide (RS.out.below hb)
      replace B3 := hide (B3.out.below hb); clear hb
      generalize (v2.alloc (.cells #[.slice none 0 0, .nilFunc] 102)) = v3 at *
      refine hK.out _ _ (HS.out _ HB.out) (fun _ => ?_); clear hK K
      refine wpAnyH_ready (rs := [12]) (by kernel_rfl) (by simp) ?_
      refine (AllReadyH.cons rfl (fun K hK => ?_) AllReadyH.nil)
      ·go_simp; go_wp2_with fail
       refine (CC.out _ _ HB.out RS.out).mono ?_
       rintro ex v4 ⟨a1, c1, n1, rfl, hn, ho, hb⟩
       have HN := hide hn; have RZ := hide (Lies.of ho); have UZ := hide (Nat.le_refl v4.heap.size)
       have D3 := hide (djb B3.out RZ.out)
       have D4 := hide (djb B4.out RZ.out); clear ho hn
       replace HB := hide (btr HB.out hb)
       replace RS := hide (RS.out.below hb)
       replace B3 := hide (B3.out.below hb)
       replace B4 := hide (B4.out.below hb); clear hb
       go_wp2_with fail
       refine hK.out _ _ (HS.out _ HB.out) (fun _ => ?_); clear hK K
       refine wpAnyH_ready (rs := [13]) (by kernel_rfl) (by simp) ?_
       refine (AllReadyH.cons rfl (fun K hK => ?_) AllReadyH.nil)
       ·go_simp; go_wp2_with fail
        refine (by42 a1 c1 n1 _).mono ?_
        rintro ex v5 ⟨rfl, hb⟩
        replace HB := hide (btr HB.out hb)
        replace RZ := hide (RZ.out.below hb)
        replace UZ := hide (Nat.le_trans UZ.out hb.size)
        replace B3 := hide (B3.out.below hb)
        replace B4 := hide (B4.out.below hb); clear hb
        go_wp2_with fail
        refine hK.out _ _ (HS.out _ HB.out) (fun _ => ?_); clear hK K
        refine wpAnyH_ready (rs := [16]) (by kernel_rfl) (by simp) ?_
        refine (AllReadyH.cons rfl (fun K hK => ?_) AllReadyH.nil)
        have o0 := B3.out.c0; have p0 := B3.out.fz 0; have o1 := B3.out.c1; have p1 := B3.out.fz 1
        go_simp; clear o0 p0 o1 p1
        obtain ⟨B3, B4, RZ, HB⟩ := stK B3.out B4.out RZ.out HB.out N34.out D3.out L3.out (.slice e.oa e.os.length e.oc) (.func (.func 105) #[] #[])
        refine hK.out _ _ (HS.out _ HB.out) (fun _ => ?_); clear hK K
        refine wpAnyH_ready (rs := [17]) (by kernel_rfl) (by simp) ?_
        refine (AllReadyH.cons rfl (fun K hK => ?_) AllReadyH.nil)
        have o0 := B4.out.c0; have p0 := B4.out.fz 0; have o1 := B4.out.c1; have p1 := B4.out.fz 1
        go_simp; clear o0 p0 o1 p1
        obtain ⟨B4, B3, RZ, HB⟩ := stK B4.out B3.out RZ.out HB.out N34.out.symm D4.out L4.out (.slice a1 n1 c1) (.func (.func 105) #[] #[])
        refine hK.out _ _ (HS.out _ HB.out) (fun _ => ?_); clear hK K
        refine wpAnyH_done (by kernel_rfl) ?_ _
        go_wp2; go_meet
        exact ⟨_, _, a1, c1, n1, rfl, rfl, B3, B4, HN, GRow.row2 RZ.out HN.out, HB⟩
    ·go_simp
     obtain ⟨hb, B4, L4⟩ := alK HB.out
     replace HB := hide (btr HB.out hb)
     replace RS := hide (RS.out.below hb); clear hb
     generalize (v1.alloc (.cells #[.slice none 0 0, .nilFunc] 102)) = v2 at *
     refine hK.out _ _ (HS.out _ HB.out) (fun _ => ?_); clear hK K
     refine wpAnyH_ready (rs := [12, 14]) (by kernel_rfl) (by simp) ?_
     refine (AllReadyH.cons rfl (fun K hK => ?_) (AllReadyH.cons rfl (fun K hK => ?_) AllReadyH.nil))
     ·go_simp; go_wp2_with fail
      refine (CC.out _ _ HB.out RS.out).mono ?_
      rintro ex v3 ⟨a1, c1, n1, rfl, hn, ho, hb⟩
      have HN := hide hn; have RZ := hide (Lies.of ho); have UZ := hide (Nat.le_refl v3.heap.size)
      have D4 := hide (djb B4.out RZ.out); clear ho hn
      replace HB := hide (btr HB.out hb)
      replace RS := hide (RS.out.below hb)
      replace B4 := hide (B4.out.below hb); clear hb
      go_wp2_with fail
      refine hK.out _ _ (HS.out _ HB.out) (fun _ => ?_); clear hK K
      refine wpAnyH_ready (rs := [13, 14]) (by kernel_rfl) (by simp) ?_
      refine (AllReadyH.cons rfl (fun K hK => ?_) (AllReadyH.cons rfl (fun K hK => ?_) AllReadyH.nil))
      ·go_simp; go_wp2_with fail
       refine (by42 a1 c1 n1 _).mono ?_
       rintro ex v4 ⟨rfl, hb⟩
       replace HB := hide (btr HB.out hb)
       replace RZ := hide (RZ.out.below hb)
       replace UZ := hide (Nat.le_trans UZ.out hb.size)
       replace B4 := hide (B4.out.below hb); clear hb
       go_wp2_with fail
       refine hK.out _ _ (HS.out _ HB.out) (fun _ => ?_); clear hK K
       refine wpAnyH_ready (rs := [14]) (by kernel_rfl) (by simp) ?_
       refine (AllReadyH.cons rfl (fun K hK => ?_) AllReadyH.nil)
       ·go_simp
        obtain ⟨hb, B3, L3⟩ := alK HB.out
        have D3 := hide (djr RZ.out UZ.out)
        have N34 := hide (Nat.ne_of_gt B4.out.lt)
        replace HB := hide (btr HB.out hb)
        replace RZ := hide (RZ.out.below hb)
        replace UZ := hide (Nat.le_trans UZ.out hb.size)
        replace B4 := hide (B4.out.below hb); clear hb
        generalize (v4.alloc (.cells #[.slice none 0 0, .nilFunc] 102)) = v5 at *
        refine hK.out _ _ (HS.out _ HB.out) (fun _ => ?_); clear hK K
        refine wpAnyH_ready (rs := [16]) (by kernel_rfl) (by simp) ?_
        refine (AllReadyH.cons rfl (fun K hK => ?_) AllReadyH.nil)
        have o0 := B3.out.c0; have p0 := B3.out.fz 0; have o1 := B3.out.c1; have p1 := B3.out.fz 1
        go_simp; clear o0 p0 o1 p1
        obtain ⟨B3, B4, RZ, HB⟩ := stK B3.out B4.out RZ.out HB.out N34.out D3.out L3.out (.slice e.oa e.os.length e.oc) (.func (.func 105) #[] #[])
        refine hK.out _ _ (HS.out _ HB.out) (fun _ => ?_); clear hK K
        refine wpAnyH_ready (rs := [17]) (by kernel_rfl) (by simp) ?_
        refine (AllReadyH.cons rfl (fun K hK => ?_) AllReadyH.nil)
        have o0 := B4.out.c0; have p0 := B4.out.fz 0; have o1 := B4.out.c1; have p1 := B4.out.fz 1
        go_simp; clear o0 p0 o1 p1
        obtain ⟨B4, B3, RZ, HB⟩ := stK B4.out B3.out RZ.out HB.out N34.out.symm D4.out L4.out (.slice a1 n1 c1) (.func (.func 105) #[] #[])
        refine hK.out _ _ (HS.out _ HB.out) (fun _ => ?_); clear hK K
        refine wpAnyH_done (by kernel_rfl) ?_ _
        go_wp2; go_meet
        exact ⟨_, _, a1, c1, n1, rfl, rfl, B3, B4, HN, GRow.row2 RZ.out HN.out, HB⟩
      ·go_simp
       obtain ⟨hb, B3, L3⟩ := alK HB.out
       have D3 := hide (djr RZ.out UZ.out)
       have N34 := hide (Nat.ne_of_gt B4.out.lt)
       replace HB := hide (btr HB.out hb)
       replace RZ := hide (RZ.out.below hb)
       replace UZ := hide (Nat.le_trans UZ.out hb.size)
       replace B4 := hide (B4.out.below hb); clear hb
       generalize (v3.alloc (.cells #[.slice none 0 0, .nilFunc] 102)) = v4 at *
       refine hK.out _ _ (HS.out _ HB.out) (fun _ => ?_); clear hK K
       refine wpAnyH_ready (rs := [13]) (by kernel_rfl) (by simp) ?_
       refine (AllReadyH.cons rfl (fun K hK => ?_) AllReadyH.nil)
       ·go_simp; go_wp2_with fail
        refine (by42 a1 c1 n1 _).mono ?_
        rintro ex v5 ⟨rfl, hb⟩
        replace HB := hide (btr HB.out hb)
        replace RZ := hide (RZ.out.below hb)
        replace UZ := hide (Nat.le_trans UZ.out hb.size)
        replace B3 := hide (B3.out.below hb)
        replace B4 := hide (B4.out.below hb); clear hb
        go_wp2_with fail
        refine hK.out _ _ (HS.out _ HB.out) (fun _ => ?_); clear hK K
        refine wpAnyH_ready (rs := [16]) (by kernel_rfl) (by simp) ?_
        refine (AllReadyH.cons rfl (fun K hK => ?_) AllReadyH.nil)
        have o0 := B3.out.c0; have p0 := B3.out.fz 0; have o1 := B3.out.c1; have p1 := B3.out.fz 1
        go_simp; clear o0 p0 o1 p1
        obtain ⟨B3, B4, RZ, HB⟩ := stK B3.out B4.out RZ.out HB.out N34.out D3.out L3.out (.slice e.oa e.os.length e.oc) (.func (.func 105) #[] #[])
        refine hK.out _ _ (HS.out _ HB.out) (fun _ => ?_); clear hK K
        refine wpAnyH_ready (rs := [17]) (by kernel_rfl) (by simp) ?_
        refine (AllReadyH.cons rfl (fun K hK => ?_) AllReadyH.nil)
        have o0 := B4.out.c0; have p0 := B4.out.fz 0; have o1 := B4.out.c1; have p1 := B4.out.fz 1
        go_simp; clear o0 p0 o1 p1
        obtain ⟨B4, B3, RZ, HB⟩ := stK B4.out B3.out RZ.out HB.out N34.out.symm D4.out L4.out (.slice a1 n1 c1) (.func (.func 105) #[] #[])
        refine hK.out _ _ (HS.out _ HB.out) (fun _ => ?_); clear hK K
        refine wpAnyH_done (by kernel_rfl) ?_ _
        go_wp2; go_meet
        exact ⟨_, _, a1, c1, n1, rfl, rfl, B3, B4, HN, GRow.row2 RZ.out HN.out, HB⟩
     ·go_simp
      obtain ⟨hb, B3, L3⟩ := alK HB.out
      have N34 := hide (Nat.ne_of_gt B4.out.lt)
      replace HB := hide (btr HB.out hb)
      replace RS := hide (RS.out.below hb)
      replace B4 := hide (B4.out.below hb); clear hb
      generalize (v2.alloc (.cells #[.slice none 0 0, .nilFunc] 102)) = v3 at *
      refine hK.out _ _ (HS.out _ HB.out) (fun _ => ?_); clear hK K
      refine wpAnyH_ready (rs := [12]) (by kernel_rfl) (by simp) ?_
      refine (AllReadyH.cons rfl (fun K hK => ?_) AllReadyH.nil)
      ·go_simp; go_wp2_with fail
       refine (CC.out _ _ HB.out RS.out).mono ?_
       rintro ex v4 ⟨a1, c1, n1, rfl, hn, ho, hb⟩
       have HN := hide hn; have RZ := hide (Lies.of ho); have UZ := hide (Nat.le_refl v4.heap.size)
       have D3 := hide (djb B3.out RZ.out)
       have D4 := hide (djb B4.out RZ.out); clear ho hn
       replace HB := hide (btr HB.out hb)
       replace RS := hide (RS.out.below hb)
       replace B3 := hide (B3.out.below hb)
       replace B4 := hide (B4.out.below hb); clear hb
       go_wp2_with fail
       refine hK.out _ _ (HS.out _ HB.out) (fun _ => ?_); clear hK K
       refine wpAnyH_ready (rs := [13]) (by kernel_rfl) (by simp) ?_
       refine (AllReadyH.cons rfl (fun K hK => ?_) AllReadyH.nil)
       ·go_simp; go_wp2_with fail
        refine (by42 a1 c1 n1 _).mono ?_
        rintro ex v5 ⟨rfl, hb⟩
        replace HB := hide (btr HB.out hb)
        replace RZ := hide (RZ.out.below hb)
        replace UZ := hide (Nat.le_trans UZ.out hb.size)
        replace B3 := hide (B3.out.below hb)
        replace B4 := hide (B4.out.below hb); clear hb
        go_wp2_with fail
        refine hK.out _ _ (HS.out _ HB.out) (fun _ => ?_); clear hK K
        refine wpAnyH_ready (rs := [16]) (by kernel_rfl) (by simp) ?_
        refine (AllReadyH.cons rfl (fun K hK => ?_) AllReadyH.nil)
        have o0 := B3.out.c0; have p0 := B3.out.fz 0; have o1 := B3.out.c1; have p1 := B3.out.fz 1
        go_simp; clear o0 p0 o1 p1
        obtain ⟨B3, B4, RZ, HB⟩ := stK B3.out B4.out RZ.out HB.out N34.out D3.out L3.out (.slice e.oa e.os.length e.oc) (.func (.func 105) #[] #[])
        refine hK.out _ _ (HS.out _ HB.out) (fun _ => ?_); clear hK K
        refine wpAnyH_ready (rs := [17]) (by kernel_rfl) (by simp) ?_
        refine (AllReadyH.cons rfl (fun K hK => ?_) AllReadyH.nil)
        have o0 := B4.out.c0; have p0 := B4.out.fz 0; have o1 := B4.out.c1; have p1 := B4.out.fz 1
        go_simp; clear o0 p0 o1 p1
        obtain ⟨B4, B3, RZ, HB⟩ := stK B4.out B3.out RZ.out HB.out N34.out.symm D4.out L4.out (.slice a1 n1 c1) (.func (.func 105) #[] #[])
        refine hK.out _ _ (HS.out _ HB.out) (fun _ => ?_); clear hK K
        refine wpAnyH_done (by kernel_rfl) ?_ _
        go_wp2; go_meet
        exact ⟨_, _, a1, c1, n1, rfl, rfl, B3, B4, HN, GRow.row2 RZ.out HN.out, HB⟩
   ·as_aux_lemma =>
    go_simp
    obtain ⟨hb, B3, L3⟩ := alK HB.out
    replace HB := hide (btr HB.out hb); clear hb
    generalize (v0.alloc (.cells #[.slice none 0 0, .nilFunc] 102)) = v1 at *
    refine hK.out _ _ (HS.out _ HB.out) (fun _ => ?_); clear hK K
    refine wpAnyH_ready (rs := [11, 15]) (by kernel_rfl) (by simp) ?_
    refine (AllReadyH.cons rfl (fun K hK => ?_) (AllReadyH.cons rfl (fun K hK => ?_) AllReadyH.nil))
    ·go_simp
     obtain ⟨hb, RS⟩ := al11 e HB.out; replace RS := hide RS
     replace HB := hide (btr HB.out hb)
     replace B3 := hide (B3.out.below hb); clear hb
     generalize (v1.alloc (.cells #[.slice e.b.pa e.b.ps.length e.b.pc, .slice e.b.qa e.b.qs.length e.b.qc, .slice e.oa e.os.length e.oc] 31)) = v2 at *
     refine hK.out _ _ (HS.out _ HB.out) (fun _ => ?_); clear hK K
     refine wpAnyH_ready (rs := [12, 15]) (by kernel_rfl) (by simp) ?_
     refine (AllReadyH.cons rfl (fun K hK => ?_) (AllReadyH.cons rfl (fun K hK => ?_) AllReadyH.nil))
     ·go_simp; go_wp2_with fail
      refine (CC.out _ _ HB.out RS.out).mono ?_
      rintro ex v3 ⟨a1, c1, n1, rfl, hn, ho, hb⟩
      have HN := hide hn; have RZ := hide (Lies.of ho); have UZ := hide (Nat.le_refl v3.heap.size)
      have D3 := hide (djb B3.out RZ.out); clear ho hn
      replace HB := hide (btr HB.out hb)
      replace RS := hide (RS.out.below hb)
      replace B3 := hide (B3.out.below hb); clear hb
      go_wp2_with fail
      refine hK.out _ _ (HS.out _ HB.out) (fun _ => ?_); clear hK K
      refine wpAnyH_ready (rs := [13, 15]) (by kernel_rfl) (by simp) ?_
      refine (AllReadyH.cons rfl (fun K hK => ?_) (AllReadyH.cons rfl (fun K hK => ?_) AllReadyH.nil))
      ·go_simp; go_wp2_with fail
       refine (by42 a1 c1 n1 _).mono ?_
       rintro ex v4 ⟨rfl, hb⟩
       replace HB := hide (btr HB.out hb)
       replace RZ := hide (RZ.out.below hb)
       replace UZ := hide (Nat.le_trans UZ.out hb.size)
       replace B3 := hide (B3.out.below hb); clear hb
       go_wp2_with fail
       refine hK.out _ _ (HS.out _ HB.out) (fun _ => ?_); clear hK K
       refine wpAnyH_ready (rs := [15]) (by kernel_rfl) (by simp) ?_
       refine (AllReadyH.cons rfl (fun K hK => ?_) AllReadyH.nil)
       ·go_simp
        obtain ⟨hb, B4, L4⟩ := alK HB.out
        have D4 := hide (djr RZ.out UZ.out)
        have N34 := hide (Nat.ne_of_lt B3.out.lt)
        replace HB := hide (btr HB.out hb)
        replace RZ := hide (RZ.out.below hb)
        replace UZ := hide (Nat.le_trans UZ.out hb.size)
        replace B3 := hide (B3.out.below hb); clear hb
        generalize (v4.alloc (.cells #[.slice none 0 0, .nilFunc] 102)) = v5 at *
        refine hK.out _ _ (HS.out _ HB.out) (fun _ => ?_); clear hK K
        refine wpAnyH_ready (rs := [16]) (by kernel_rfl) (by simp) ?_
        refine (AllReadyH.cons rfl (fun K hK => ?_) AllReadyH.nil)
        have o0 := B3.out.c0; have p0 := B3.out.fz 0; have o1 := B3.out.c1; have p1 := B3.out.fz 1
        go_simp; clear o0 p0 o1 p1
        obtain ⟨B3, B4, RZ, HB⟩ := stK B3.out B4.out RZ.out HB.out N34.out D3.out L3.out (.slice e.oa e.os.length e.oc) (.func (.func 105) #[] #[])
        refine hK.out _ _ (HS.out _ HB.out) (fun _ => ?_); clear hK K
        refine wpAnyH_ready (rs := [17]) (by kernel_rfl) (by simp) ?_
        refine (AllReadyH.cons rfl (fun K hK => ?_) AllReadyH.nil)
        have o0 := B4.out.c0; have p0 := B4.out.fz 0; have o1 := B4.out.c1; have p1 := B4.out.fz 1
        go_simp; clear o0 p0 o1 p1
        obtain ⟨B4, B3, RZ, HB⟩ := stK B4.out B3.out RZ.out HB.out N34.out.symm D4.out L4.out (.slice a1 n1 c1) (.func (.func 105) #[] #[])
        refine hK.out _ _ (HS.out _ HB.out) (fun _ => ?_); clear hK K
        refine wpAnyH_done (by kernel_rfl) ?_ _
        go_wp2; go_meet
        exact ⟨_, _, a1, c1, n1, rfl, rfl, B3, B4, HN, GRow.row2 RZ.out HN.out, HB⟩
      ·go_simp
       obtain ⟨hb, B4, L4⟩ := alK HB.out
       have D4 := hide (djr RZ.out UZ.out)
       have N34 := hide (Nat.ne_of_lt B3.out.lt)
       replace HB := hide (btr HB.out hb)
       replace RZ := hide (RZ.out.below hb)
       replace UZ := hide (Nat.le_trans UZ.out hb.size)
       replace B3 := hide (B3.out.below hb); clear hb
       generalize (v3.alloc (.cells #[.slice none 0 0, .nilFunc] 102)) = v4 at *
       refine hK.out _ _ (HS.out _ HB.out) (fun _ => ?_); clear hK K
       refine wpAnyH_ready (rs := [13]) (by kernel_rfl) (by simp) ?_
       refine (AllReadyH.cons rfl (fun K hK => ?_) AllReadyH.nil)
       ·go_simp; go_wp2_with fail
        refine (by42 a1 c1 n1 _).mono ?_
        rintro ex v5 ⟨rfl, hb⟩
        replace HB := hide (btr HB.out hb)
        replace RZ := hide (RZ.out.below hb)
        replace UZ := hide (Nat.le_trans UZ.out hb.size)
        replace B3 := hide (B3.out.below hb)
        replace B4 := hide (B4.out.below hb); clear hb
        go_wp2_with fail
        refine hK.out _ _ (HS.out _ HB.out) (fun _ => ?_); clear hK K
        refine wpAnyH_ready (rs := [16]) (by kernel_rfl) (by simp) ?_
        refine (AllReadyH.cons rfl (fun K hK => ?_) AllReadyH.nil)
        have o0 := B3.out.c0; have p0 := B3.out.fz 0; have o1 := B3.out.c1; have p1 := B3.out.fz 1
        go_simp; clear o0 p0 o1 p1
        obtain ⟨B3, B4, RZ, HB⟩ := stK B3.out B4.out RZ.out HB.out N34.out D3.out L3.out (.slice e.oa e.os.length e.oc) (.func (.func 105) #[] #[])
        refine hK.out _ _ (HS.out _ HB.out) (fun _ => ?_); clear hK K
        refine wpAnyH_ready (rs := [17]) (by kernel_rfl) (by simp) ?_
        refine (AllReadyH.cons rfl (fun K hK => ?_) AllReadyH.nil)
        have o0 := B4.out.c0; have p0 := B4.out.fz 0; have o1 := B4.out.c1; have p1 := B4.out.fz 1
        go_simp; clear o0 p0 o1 p1
        obtain ⟨B4, B3, RZ, HB⟩ := stK B4.out B3.out RZ.out HB.out N34.out.symm D4.out L4.out (.slice a1 n1 c1) (.func (.func 105) #[] #[])
        refine hK.out _ _ (HS.out _ HB.out) (fun _ => ?_); clear hK K
        refine wpAnyH_done (by kernel_rfl) ?_ _
        go_wp2; go_meet
        exact ⟨_, _, a1, c1, n1, rfl, rfl, B3, B4, HN, GRow.row2 RZ.out HN.out, HB⟩
     ·go_simp
      obtain ⟨hb, B4, L4⟩ := alK HB.out
      have N34 := hide (Nat.ne_of_lt B3.out.lt)
      replace HB := hide (btr HB.out hb)
      replace RS := hide (RS.out.below hb)
      replace B3 := hide (B3.out.below hb); clear hb
      generalize (v2.alloc (.cells #[.slice none 0 0, .nilFunc] 102)) = v3 at *
      refine hK.out _ _ (HS.out _ HB.out) (fun _ => ?_); clear hK K
      refine wpAnyH_ready (rs := [12]) (by kernel_rfl) (by simp) ?_
      refine (AllReadyH.cons rfl (fun K hK => ?_) AllReadyH.nil)
      ·go_simp; go_wp2_with fail
       refine (CC.out _ _ HB.out RS.out).mono ?_
       rintro ex v4 ⟨a1, c1, n1, rfl, hn, ho, hb⟩
       have HN := hide hn; have RZ := hide (Lies.of ho); have UZ := hide (Nat.le_refl v4.heap.size)
       have D3 := hide (djb B3.out RZ.out)
       have D4 := hide (djb B4.out RZ.out); clear ho hn
       replace HB := hide (btr HB.out hb)
       replace RS := hide (RS.out.below hb)
       replace B3 := hide (B3.out.below hb)
       replace B4 := hide (B4.out.below hb); clear hb
       go_wp2_with fail
       refine hK.out _ _ (HS.out _ HB.out) (fun _ => ?_); clear hK K
       refine wpAnyH_ready (rs := [13]) (by kernel_rfl) (by simp) ?_
       refine (AllReadyH.cons rfl (fun K hK => ?_) AllReadyH.nil)
       ·go_simp; go_wp2_with fail
        refine (by42 a1 c1 n1 _).mono ?_
        rintro ex v5 ⟨rfl, hb⟩
        replace HB := hide (btr HB.out hb)
        replace RZ := hide (RZ.out.below hb)
        replace UZ := hide (Nat.le_trans UZ.out hb.size)
        replace B3 := hide (B3.out.below hb)
        replace B4 := hide (B4.out.below hb); clear hb
        go_wp2_with fail
        refine hK.out _ _ (HS.out _ HB.out) (fun _ => ?_); clear hK K
        refine wpAnyH_ready (rs := [16]) (by kernel_rfl) (by simp) ?_
        refine (AllReadyH.cons rfl (fun K hK => ?_) AllReadyH.nil)
        have o0 := B3.out.c0; have p0 := B3.out.fz 0; have o1 := B3.out.c1; have p1 := B3.out.fz 1
        go_simp; clear o0 p0 o1 p1
        obtain ⟨B3, B4, RZ, HB⟩ := stK B3.out B4.out RZ.out HB.out N34.out D3.out L3.out (.slice e.oa e.os.length e.oc) (.func (.func 105) #[] #[])
        refine hK.out _ _ (HS.out _ HB.out) (fun _ => ?_); clear hK K
        refine wpAnyH_ready (rs := [17]) (by kernel_rfl) (by simp) ?_
        refine (AllReadyH.cons rfl (fun K hK => ?_) AllReadyH.nil)
        have o0 := B4.out.c0; have p0 := B4.out.fz 0; have o1 := B4.out.c1; have p1 := B4.out.fz 1
        go_simp; clear o0 p0 o1 p1
        obtain ⟨B4, B3, RZ, HB⟩ := stK B4.out B3.out RZ.out HB.out N34.out.symm D4.out L4.out (.slice a1 n1 c1) (.func (.func 105) #[] #[])
        refine hK.out _ _ (HS.out _ HB.out) (fun _ => ?_); clear hK K
        refine wpAnyH_done (by kernel_rfl) ?_ _
        go_wp2; go_meet
        exact ⟨_, _, a1, c1, n1, rfl, rfl, B3, B4, HN, GRow.row2 RZ.out HN.out, HB⟩
    ·go_simp
     obtain ⟨hb, B4, L4⟩ := alK HB.out
     have N34 := hide (Nat.ne_of_lt B3.out.lt)
     replace HB := hide (btr HB.out hb)
     replace B3 := hide (B3.out.below hb); clear hb
     generalize (v1.alloc (.cells #[.slice none 0 0, .nilFunc] 102)) = v2 at *
     refine hK.out _ _ (HS.out _ HB.out) (fun _ => ?_); clear hK K
     refine wpAnyH_ready (rs := [11]) (by kernel_rfl) (by simp) ?_
     refine (AllReadyH.cons rfl (fun K hK => ?_) AllReadyH.nil)
     ·go_simp
      obtain ⟨hb, RS⟩ := al11 e HB.out; replace RS := hide RS
      replace HB := hide (btr HB.out hb)
      replace B3 := hide (B3.out.below hb)
      replace B4 := hide (B4.out.below hb); clear hb
      generalize (v2.alloc (.cells #[.slice e.b.pa e.b.ps.length e.b.pc, .slice e.b.qa e.b.qs.length e.b.qc, .slice e.oa e.os.length e.oc] 31)) = v3 at *
      refine hK.out _ _ (HS.out _ HB.out) (fun _ => ?_); clear hK K
      refine wpAnyH_ready (rs := [12]) (by kernel_rfl) (by simp) ?_
      refine (AllReadyH.cons rfl (fun K hK => ?_) AllReadyH.nil)
      ·go_simp; go_wp2_with fail
       refine (CC.out _ _ HB.out RS.out).mono ?_
       rintro ex v4 ⟨a1, c1, n1, rfl, hn, ho, hb⟩
       have HN := hide hn; have RZ := hide (Lies.of ho); have UZ := hide (Nat.le_refl v4.heap.size)
       have D3 := hide (djb B3.out RZ.out)
       have D4 := hide (djb B4.out RZ.out); clear ho hn
       replace HB := hide (btr HB.out hb)
       replace RS := hide (RS.out.below hb)
       replace B3 := hide (B3.out.below hb)
       replace B4 := hide (B4.out.below hb); clear hb
       go_wp2_with fail
       refine hK.out _ _ (HS.out _ HB.out) (fun _ => ?_); clear hK K
       refine wpAnyH_ready (rs := [13]) (by kernel_rfl) (by simp) ?_
       refine (AllReadyH.cons rfl (fun K hK => ?_) AllReadyH.nil)
       ·go_simp; go_wp2_with fail
        refine (by42 a1 c1 n1 _).mono ?_
        rintro ex v5 ⟨rfl, hb⟩
        replace HB := hide (btr HB.out hb)
        replace RZ := hide (RZ.out.below hb)
        replace UZ := hide (Nat.le_trans UZ.out hb.size)
        replace B3 := hide (B3.out.below hb)
        replace B4 := hide (B4.out.below hb); clear hb
        go_wp2_with fail
        refine hK.out _ _ (HS.out _ HB.out) (fun _ => ?_); clear hK K
        refine wpAnyH_ready (rs := [16]) (by kernel_rfl) (by simp) ?_
        refine (AllReadyH.cons rfl (fun K hK => ?_) AllReadyH.nil)
        have o0 := B3.out.c0; have p0 := B3.out.fz 0; have o1 := B3.out.c1; have p1 := B3.out.fz 1
        go_simp; clear o0 p0 o1 p1
        obtain ⟨B3, B4, RZ, HB⟩ := stK B3.out B4.out RZ.out HB.out N34.out D3.out L3.out (.slice e.oa e.os.length e.oc) (.func (.func 105) #[] #[])
        refine hK.out _ _ (HS.out _ HB.out) (fun _ => ?_); clear hK K
        refine wpAnyH_ready (rs := [17]) (by kernel_rfl) (by simp) ?_
        refine (AllReadyH.cons rfl (fun K hK => ?_) AllReadyH.nil)
        have o0 := B4.out.c0; have p0 := B4.out.fz 0; have o1 := B4.out.c1; have p1 := B4.out.fz 1
        go_simp; clear o0 p0 o1 p1
        obtain ⟨B4, B3, RZ, HB⟩ := stK B4.out B3.out RZ.out HB.out N34.out.symm D4.out L4.out (.slice a1 n1 c1) (.func (.func 105) #[] #[])
        refine hK.out _ _ (HS.out _ HB.out) (fun _ => ?_); clear hK K
        refine wpAnyH_done (by kernel_rfl) ?_ _
        go_wp2; go_meet
        exact ⟨_, _, a1, c1, n1, rfl, rfl, B3, B4, HN, GRow.row2 RZ.out HN.out, HB⟩
   ·as_aux_lemma =>
    go_simp
    obtain ⟨hb, B4, L4⟩ := alK HB.out
    replace HB := hide (btr HB.out hb); clear hb
    generalize (v0.alloc (.cells #[.slice none 0 0, .nilFunc] 102)) = v1 at *
    refine hK.out _ _ (HS.out _ HB.out) (fun _ => ?_); clear hK K
    refine wpAnyH_ready (rs := [11, 14]) (by kernel_rfl) (by simp) ?_
    refine (AllReadyH.cons rfl (fun K hK => ?_) (AllReadyH.cons rfl (fun K hK => ?_) AllReadyH.nil))
    ·go_simp
     obtain ⟨hb, RS⟩ := al11 e HB.out; replace RS := hide RS
     replace HB := hide (btr HB.out hb)
     replace B4 := hide (B4.out.below hb); clear hb
     generalize (v1.alloc (.cells #[.slice e.b.pa e.b.ps.length e.b.pc, .slice e.b.qa e.b.qs.length e.b.qc, .slice e.oa e.os.length e.oc] 31)) = v2 at *
     refine hK.out _ _ (HS.out _ HB.out) (fun _ => ?_); clear hK K
     refine wpAnyH_ready (rs := [12, 14]) (by kernel_rfl) (by simp) ?_
     refine (AllReadyH.cons rfl (fun K hK => ?_) (AllReadyH.cons rfl (fun K hK => ?_) AllReadyH.nil))
     ·go_simp; go_wp2_with fail
      refine (CC.out _ _ HB.out RS.out).mono ?_
      rintro ex v3 ⟨a1, c1, n1, rfl, hn, ho, hb⟩
      have HN := hide hn; have RZ := hide (Lies.of ho); have UZ := hide (Nat.le_refl v3.heap.size)
      have D4 := hide (djb B4.out RZ.out); clear ho hn
      replace HB := hide (btr HB.out hb)
      replace RS := hide (RS.out.below hb)
      replace B4 := hide (B4.out.below hb); clear hb
      go_wp2_with fail
      refine hK.out _ _ (HS.out _ HB.out) (fun _ => ?_); clear hK K
      refine wpAnyH_ready (rs := [13, 14]) (by kernel_rfl) (by simp) ?_
      refine (AllReadyH.cons rfl (fun K hK => ?_) (AllReadyH.cons rfl (fun K hK => ?_) AllReadyH.nil))
      ·go_simp; go_wp2_with fail
       refine (by42 a1 c1 n1 _).mono ?_
       rintro ex v4 ⟨rfl, hb⟩
       replace HB := hide (btr HB.out hb)
       replace RZ := hide (RZ.out.below hb)
       replace UZ := hide (Nat.le_trans UZ.out hb.size)
       replace B4 := hide (B4.out.below hb); clear hb
       go_wp2_with fail
       refine hK.out _ _ (HS.out _ HB.out) (fun _ => ?_); clear hK K
       refine wpAnyH_ready (rs := [14]) (by kernel_rfl) (by simp) ?_
       refine (AllReadyH.cons rfl (fun K hK => ?_) AllReadyH.nil)
       ·go_simp
        obtain ⟨hb, B3, L3⟩ := alK HB.out
        have D3 := hide (djr RZ.out UZ.out)
        have N34 := hide (Nat.ne_of_gt B4.out.lt)
        replace HB := hide (btr HB.out hb)
        replace RZ := hide (RZ.out.below hb)
        replace UZ := hide (Nat.le_trans UZ.out hb.size)
        replace B4 := hide (B4.out.below hb); clear hb
        generalize (v4.alloc (.cells #[.slice none 0 0, .nilFunc] 102)) = v5 at *
        refine hK.out _ _ (HS.out _ HB.out) (fun _ => ?_); clear hK K
        refine wpAnyH_ready (rs := [16]) (by kernel_rfl) (by simp) ?_
        refine (AllReadyH.cons rfl (fun K hK => ?_) AllReadyH.nil)
        have o0 := B3.out.c0; have p0 := B3.out.fz 0; have o1 := B3.out.c1; have p1 := B3.out.fz 1
        go_simp; clear o0 p0 o1 p1
        obtain ⟨B3, B4, RZ, HB⟩ := stK B3.out B4.out RZ.out HB.out N34.out D3.out L3.out (.slice e.oa e.os.length e.oc) (.func (.func 105) #[] #[])
        refine hK.out _ _ (HS.out _ HB.out) (fun _ => ?_); clear hK K
        refine wpAnyH_ready (rs := [17]) (by kernel_rfl) (by simp) ?_
        refine (AllReadyH.cons rfl (fun K hK => ?_) AllReadyH.nil)
        have o0 := B4.out.c0; have p0 := B4.out.fz 0; have o1 := B4.out.c1; have p1 := B4.out.fz 1
        go_simp; clear o0 p0 o1 p1
        obtain ⟨B4, B3, RZ, HB⟩ := stK B4.out B3.out RZ.out HB.out N34.out.symm D4.out L4.out (.slice a1 n1 c1) (.func (.func 105) #[] #[])
        refine hK.out _ _ (HS.out _ HB.out) (fun _ => ?_); clear hK K
        refine wpAnyH_done (by kernel_rfl) ?_ _
        go_wp2; go_meet
        exact ⟨_, _, a1, c1, n1, rfl, rfl, B3, B4, HN, GRow.row2 RZ.out HN.out, HB⟩
      ·go_simp
       obtain ⟨hb, B3, L3⟩ := alK HB.out
       have D3 := hide (djr RZ.out UZ.out)
       have N34 := hide (Nat.ne_of_gt B4.out.lt)
       replace HB := hide (btr HB.out hb)
       replace RZ := hide (RZ.out.below hb)
       replace UZ := hide (Nat.le_trans UZ.out hb.size)
       replace B4 := hide (B4.out.below hb); clear hb
       generalize (v3.alloc (.cells #[.slice none 0 0, .nilFunc] 102)) = v4 at *
       refine hK.out _ _ (HS.out _ HB.out) (fun _ => ?_); clear hK K
       refine wpAnyH_ready (rs := [13]) (by kernel_rfl) (by simp) ?_
       refine (AllReadyH.cons rfl (fun K hK => ?_) AllReadyH.nil)
       ·go_simp; go_wp2_with fail
        refine (by42 a1 c1 n1 _).mono ?_
        rintro ex v5 ⟨rfl, hb⟩
        replace HB := hide (btr HB.out hb)
        replace RZ := hide (RZ.out.below hb)
        replace UZ := hide (Nat.le_trans UZ.out hb.size)
        replace B3 := hide (B3.out.below hb)
        replace B4 := hide (B4.out.below hb); clear hb
        go_wp2_with fail
        refine hK.out _ _ (HS.out _ HB.out) (fun _ => ?_); clear hK K
        refine wpAnyH_ready (rs := [16]) (by kernel_rfl) (by simp) ?_
        refine (AllReadyH.cons rfl (fun K hK => ?_) AllReadyH.nil)
        have o0 := B3.out.c0; have p0 := B3.out.fz 0; have o1 := B3.out.c1; have p1 := B3.out.fz 1
        go_simp; clear o0 p0 o1 p1
        obtain ⟨B3, B4, RZ, HB⟩ := stK B3.out B4.out RZ.out HB.out N34.out D3.out L3.out (.slice e.oa e.os.length e.oc) (.func (.func 105) #[] #[])
        refine hK.out _ _ (HS.out _ HB.out) (fun _ => ?_); clear hK K
        refine wpAnyH_ready (rs := [17]) (by kernel_rfl) (by simp) ?_
        refine (AllReadyH.cons rfl (fun K hK => ?_) AllReadyH.nil)
        have o0 := B4.out.c0; have p0 := B4.out.fz 0; have o1 := B4.out.c1; have p1 := B4.out.fz 1
        go_simp; clear o0 p0 o1 p1
        obtain ⟨B4, B3, RZ, HB⟩ := stK B4.out B3.out RZ.out HB.out N34.out.symm D4.out L4.out (.slice a1 n1 c1) (.func (.func 105) #[] #[])
        refine hK.out _ _ (HS.out _ HB.out) (fun _ => ?_); clear hK K
        refine wpAnyH_done (by kernel_rfl) ?_ _
        go_wp2; go_meet
        exact ⟨_, _, a1, c1, n1, rfl, rfl, B3, B4, HN, GRow.row2 RZ.out HN.out, HB⟩
     ·go_simp
      obtain ⟨hb, B3, L3⟩ := alK HB.out
      have N34 := hide (Nat.ne_of_gt B4.out.lt)
      replace HB := hide (btr HB.out hb)
      replace RS := hide (RS.out.below hb)
      replace B4 := hide (B4.out.below hb); clear hb
      generalize (v2.alloc (.cells #[.slice none 0 0, .nilFunc] 102)) = v3 at *
      refine hK.out _ _ (HS.out _ HB.out) (fun _ => ?_); clear hK K
      refine wpAnyH_ready (rs := [12]) (by kernel_rfl) (by simp) ?_
      refine (AllReadyH.cons rfl (fun K hK => ?_) AllReadyH.nil)
      ·go_simp; go_wp2_with fail
       refine (CC.out _ _ HB.out RS.out).mono ?_
       rintro ex v4 ⟨a1, c1, n1, rfl, hn, ho, hb⟩
       have HN := hide hn; have RZ := hide (Lies.of ho); have UZ := hide (Nat.le_refl v4.heap.size)
       have D3 := hide (djb B3.out RZ.out)
       have D4 := hide (djb B4.out RZ.out); clear ho hn
       replace HB := hide (btr HB.out hb)
       replace RS := hide (RS.out.below hb)
       replace B3 := hide (B3.out.below hb)
       replace B4 := hide (B4.out.below hb); clear hb
       go_wp2_with fail
       refine hK.out _ _ (HS.out _ HB.out) (fun _ => ?_); clear hK K
       refine wpAnyH_ready (rs := [13]) (by kernel_rfl) (by simp) ?_
       refine (AllReadyH.cons rfl (fun K hK => ?_) AllReadyH.nil)
       ·go_simp; go_wp2_with fail
        refine (by42 a1 c1 n1 _).mono ?_
        rintro ex v5 ⟨rfl, hb⟩
        replace HB := hide (btr HB.out hb)
        replace RZ := hide (RZ.out.below hb)
        replace UZ := hide (Nat.le_trans UZ.out hb.size)
        replace B3 := hide (B3.out.below hb)
        replace B4 := hide (B4.out.below hb); clear hb
        go_wp2_with fail
        refine hK.out _ _ (HS.out _ HB.out) (fun _ => ?_); clear hK K
        refine wpAnyH_ready (rs := [16]) (by kernel_rfl) (by simp) ?_
        refine (AllReadyH.cons rfl (fun K hK => ?_) AllReadyH.nil)
        have o0 := B3.out.c0; have p0 := B3.out.fz 0; have o1 := B3.out.c1; have p1 := B3.out.fz 1
        go_simp; clear o0 p0 o1 p1
        obtain ⟨B3, B4, RZ, HB⟩ := stK B3.out B4.out RZ.out HB.out N34.out D3.out L3.out (.slice e.oa e.os.length e.oc) (.func (.func 105) #[] #[])
        refine hK.out _ _ (HS.out _ HB.out) (fun _ => ?_); clear hK K
        refine wpAnyH_ready (rs := [17]) (by kernel_rfl) (by simp) ?_
        refine (AllReadyH.cons rfl (fun K hK => ?_) AllReadyH.nil)
        have o0 := B4.out.c0; have p0 := B4.out.fz 0; have o1 := B4.out.c1; have p1 := B4.out.fz 1
        go_simp; clear o0 p0 o1 p1
        obtain ⟨B4, B3, RZ, HB⟩ := stK B4.out B3.out RZ.out HB.out N34.out.symm D4.out L4.out (.slice a1 n1 c1) (.func (.func 105) #[] #[])
        refine hK.out _ _ (HS.out _ HB.out) (fun _ => ?_); clear hK K
        refine wpAnyH_done (by kernel_rfl) ?_ _
        go_wp2; go_meet
        exact ⟨_, _, a1, c1, n1, rfl, rfl, B3, B4, HN, GRow.row2 RZ.out HN.out, HB⟩
    ·go_simp
     obtain ⟨hb, B3, L3⟩ := alK HB.out
     have N34 := hide (Nat.ne_of_gt B4.out.lt)
     replace HB := hide (btr HB.out hb)
     replace B4 := hide (B4.out.below hb); clear hb
     generalize (v1.alloc (.cells #[.slice none 0 0, .nilFunc] 102)) = v2 at *
     refine hK.out _ _ (HS.out _ HB.out) (fun _ => ?_); clear hK K
     refine wpAnyH_ready (rs := [11]) (by kernel_rfl) (by simp) ?_
     refine (AllReadyH.cons rfl (fun K hK => ?_) AllReadyH.nil)
     ·go_simp
      obtain ⟨hb, RS⟩ := al11 e HB.out; replace RS := hide RS
      replace HB := hide (btr HB.out hb)
      replace B3 := hide (B3.out.below hb)
      replace B4 := hide (B4.out.below hb); clear hb
      generalize (v2.alloc (.cells #[.slice e.b.pa e.b.ps.length e.b.pc, .slice e.b.qa e.b.qs.length e.b.qc, .slice e.oa e.os.length e.oc] 31)) = v3 at *
      refine hK.out _ _ (HS.out _ HB.out) (fun _ => ?_); clear hK K
      refine wpAnyH_ready (rs := [12]) (by kernel_rfl) (by simp) ?_
      refine (AllReadyH.cons rfl (fun K hK => ?_) AllReadyH.nil)
      ·go_simp; go_wp2_with fail
       refine (CC.out _ _ HB.out RS.out).mono ?_
       rintro ex v4 ⟨a1, c1, n1, rfl, hn, ho, hb⟩
       have HN := hide hn; have RZ := hide (Lies.of ho); have UZ := hide (Nat.le_refl v4.heap.size)
       have D3 := hide (djb B3.out RZ.out)
       have D4 := hide (djb B4.out RZ.out); clear ho hn
       replace HB := hide (btr HB.out hb)
       replace RS := hide (RS.out.below hb)
       replace B3 := hide (B3.out.below hb)
       replace B4 := hide (B4.out.below hb); clear hb
       go_wp2_with fail
       refine hK.out _ _ (HS.out _ HB.out) (fun _ => ?_); clear hK K
       refine wpAnyH_ready (rs := [13]) (by kernel_rfl) (by simp) ?_
       refine (AllReadyH.cons rfl (fun K hK => ?_) AllReadyH.nil)
       ·go_simp; go_wp2_with fail
        refine (by42 a1 c1 n1 _).mono ?_
        rintro ex v5 ⟨rfl, hb⟩
        replace HB := hide (btr HB.out hb)
        replace RZ := hide (RZ.out.below hb)
        replace UZ := hide (Nat.le_trans UZ.out hb.size)
        replace B3 := hide (B3.out.below hb)
        replace B4 := hide (B4.out.below hb); clear hb
        go_wp2_with fail
        refine hK.out _ _ (HS.out _ HB.out) (fun _ => ?_); clear hK K
        refine wpAnyH_ready (rs := [16]) (by kernel_rfl) (by simp) ?_
        refine (AllReadyH.cons rfl (fun K hK => ?_) AllReadyH.nil)
        have o0 := B3.out.c0; have p0 := B3.out.fz 0; have o1 := B3.out.c1; have p1 := B3.out.fz 1
        go_simp; clear o0 p0 o1 p1
        obtain ⟨B3, B4, RZ, HB⟩ := stK B3.out B4.out RZ.out HB.out N34.out D3.out L3.out (.slice e.oa e.os.length e.oc) (.func (.func 105) #[] #[])
        refine hK.out _ _ (HS.out _ HB.out) (fun _ => ?_); clear hK K
        refine wpAnyH_ready (rs := [17]) (by kernel_rfl) (by simp) ?_
        refine (AllReadyH.cons rfl (fun K hK => ?_) AllReadyH.nil)
        have o0 := B4.out.c0; have p0 := B4.out.fz 0; have o1 := B4.out.c1; have p1 := B4.out.fz 1
        go_simp; clear o0 p0 o1 p1
        obtain ⟨B4, B3, RZ, HB⟩ := stK B4.out B3.out RZ.out HB.out N34.out.symm D4.out L4.out (.slice a1 n1 c1) (.func (.func 105) #[] #[])
        refine hK.out _ _ (HS.out _ HB.out) (fun _ => ?_); clear hK K
        refine wpAnyH_done (by kernel_rfl) ?_ _
        go_wp2; go_meet
        exact ⟨_, _, a1, c1, n1, rfl, rfl, B3, B4, HN, GRow.row2 RZ.out HN.out, HB⟩
  ·go_simp
   obtain ⟨hb, RS⟩ := al11 e HB.out; replace RS := hide RS
   replace HB := hide (btr HB.out hb); clear hb
   generalize (vd.alloc (.cells #[.slice e.b.pa e.b.ps.length e.b.pc, .slice e.b.qa e.b.qs.length e.b.qc, .slice e.oa e.os.length e.oc] 31)) = v0 at *
   refine hK.out _ _ (HS.out _ HB.out) (fun _ => ?_); clear hK K
   refine wpAnyH_ready (rs := [2, 14, 15]) (by kernel_rfl) (by simp) ?_
   refine (AllReadyH.cons rfl (fun K hK => ?_) (AllReadyH.cons rfl (fun K hK => ?_) (AllReadyH.cons rfl (fun K hK => ?_) AllReadyH.nil)))
   ·as_aux_lemma =>
    go_simp; go_wp2_with fail
    refine (CI.out _).mono ?_
    rintro ex v1 ⟨rfl, hb⟩
    replace HB := hide (btr HB.out hb)
    replace RS := hide (RS.out.below hb); clear hb
    go_wp2_with fail
    refine hK.out _ _ (HS.out _ HB.out) (fun _ => ?_); clear hK K
    refine wpAnyH_ready (rs := [12, 14, 15]) (by kernel_rfl) (by simp) ?_
    refine (AllReadyH.cons rfl (fun K hK => ?_) (AllReadyH.cons rfl (fun K hK => ?_) (AllReadyH.cons rfl (fun K hK => ?_) AllReadyH.nil)))
    ·go_simp; go_wp2_with fail
     refine (CC.out _ _ HB.out RS.out).mono ?_
     rintro ex v2 ⟨a1, c1, n1, rfl, hn, ho, hb⟩
     have HN := hide hn; have RZ := hide (Lies.of ho); have UZ := hide (Nat.le_refl v2.heap.size); clear ho hn
     replace HB := hide (btr HB.out hb)
     replace RS := hide (RS.out.below hb); clear hb
     go_wp2_with fail
     refine hK.out _ _ (HS.out _ HB.out) (fun _ => ?_); clear hK K
     refine wpAnyH_ready (rs := [13, 14, 15]) (by kernel_rfl) (by simp) ?_
     refine (AllReadyH.cons rfl (fun K hK => ?_) (AllReadyH.cons rfl (fun K hK => ?_) (AllReadyH.cons rfl (fun K hK => ?_) AllReadyH.nil)))
     ·go_simp; go_wp2_with fail
      refine (by42 a1 c1 n1 _).mono ?_
      rintro ex v3 ⟨rfl, hb⟩
      replace HB := hide (btr HB.out hb)
      replace RZ := hide (RZ.out.below hb)
      replace UZ := hide (Nat.le_trans UZ.out hb.size); clear hb
      go_wp2_with fail
      refine hK.out _ _ (HS.out _ HB.out) (fun _ => ?_); clear hK K
      refine wpAnyH_ready (rs := [14, 15]) (by kernel_rfl) (by simp) ?_
      refine (AllReadyH.cons rfl (fun K hK => ?_) (AllReadyH.cons rfl (fun K hK => ?_) AllReadyH.nil))
      ·go_simp
       obtain ⟨hb, B3, L3⟩ := alK HB.out
       have D3 := hide (djr RZ.out UZ.out)
       replace HB := hide (btr HB.out hb)
       replace RZ := hide (RZ.out.below hb)
       replace UZ := hide (Nat.le_trans UZ.out hb.size); clear hb
       generalize (v3.alloc (.cells #[.slice none 0 0, .nilFunc] 102)) = v4 at *
       refine hK.out _ _ (HS.out _ HB.out) (fun _ => ?_); clear hK K
       refine wpAnyH_ready (rs := [15]) (by kernel_rfl) (by simp) ?_
       refine (AllReadyH.cons rfl (fun K hK => ?_) AllReadyH.nil)
       ·go_simp
        obtain ⟨hb, B4, L4⟩ := alK HB.out
        have D4 := hide (djr RZ.out UZ.out)
        have N34 := hide (Nat.ne_of_lt B3.out.lt)
        replace HB := hide (btr HB.out hb)
        replace RZ := hide (RZ.out.below hb)
        replace UZ := hide (Nat.le_trans UZ.out hb.size)
        replace B3 := hide (B3.out.below hb); clear hb
        generalize (v4.alloc (.cells #[.slice none 0 0, .nilFunc] 102)) = v5 at *
        refine hK.out _ _ (HS.out _ HB.out) (fun _ => ?_); clear hK K
        refine wpAnyH_ready (rs := [16]) (by kernel_rfl) (by simp) ?_
        refine (AllReadyH.cons rfl (fun K hK => ?_) AllReadyH.nil)
        have o0 := B3.out.c0; have p0 := B3.out.fz 0; have o1 := B3.out.c1; have p1 := B3.out.fz 1
        go_simp; clear o0 p0 o1 p1
        obtain ⟨B3, B4, RZ, HB⟩ := stK B3.out B4.out RZ.out HB.out N34.out D3.out L3.out (.slice e.oa e.os.length e.oc) (.func (.func 105) #[] #[])
        refine hK.out _ _ (HS.out _ HB.out) (fun _ => ?_); clear hK K
        refine wpAnyH_ready (rs := [17]) (by kernel_rfl) (by simp) ?_
        refine (AllReadyH.cons rfl (fun K hK => ?_) AllReadyH.nil)
        have o0 := B4.out.c0; have p0 := B4.out.fz 0; have o1 := B4.out.c1; have p1 := B4.out.fz 1
        go_simp; clear o0 p0 o1 p1
        obtain ⟨B4, B3, RZ, HB⟩ := stK B4.out B3.out RZ.out HB.out N34.out.symm D4.out L4.out (.slice a1 n1 c1) (.func (.func 105) #[] #[])
        refine hK.out _ _ (HS.out _ HB.out) (fun _ => ?_); clear hK K
        refine wpAnyH_done (by kernel_rfl) ?_ _
        go_wp2; go_meet
        exact ⟨_, _, a1, c1, n1, rfl, rfl, B3, B4, HN, GRow.row2 RZ.out HN.out, HB⟩
      ·go_simp
       obtain ⟨hb, B4, L4⟩ := alK HB.out
       have D4 := hide (djr RZ.out UZ.out)
       replace HB := hide (btr HB.out hb)
       replace RZ := hide (RZ.out.below hb)
       replace UZ := hide (Nat.le_trans UZ.out hb.size); clear hb
       generalize (v3.alloc (.cells #[.slice none 0 0, .nilFunc] 102)) = v4 at *
       refine hK.out _ _ (HS.out _ HB.out) (fun _ => ?_); clear hK K
       refine wpAnyH_ready (rs := [14]) (by kernel_rfl) (by simp) ?_
       refine (AllReadyH.cons rfl (fun K hK => ?_) AllReadyH.nil)
       ·go_simp
        obtain ⟨hb, B3, L3⟩ := alK HB.out
        have D3 := hide (djr RZ.out UZ.out)
        have N34 := hide (Nat.ne_of_gt B4.out.lt)
        replace HB := hide (btr HB.out hb)
        replace RZ := hide (RZ.out.below hb)
        replace UZ := hide (Nat.le_trans UZ.out hb.size)
        replace B4 := hide (B4.out.below hb); clear hb
        generalize (v4.alloc (.cells #[.slice none 0 0, .nilFunc] 102)) = v5 at *
        refine hK.out _ _ (HS.out _ HB.out) (fun _ => ?_); clear hK K
        refine wpAnyH_ready (rs := [16]) (by kernel_rfl) (by simp) ?_
        refine (AllReadyH.cons rfl (fun K hK => ?_) AllReadyH.nil)
        have o0 := B3.out.c0; have p0 := B3.out.fz 0; have o1 := B3.out.c1; have p1 := B3.out.fz 1
        go_simp; clear o0 p0 o1 p1
        obtain ⟨B3, B4, RZ, HB⟩ := stK B3.out B4.out RZ.out HB.out N34.out D3.out L3.out (.slice e.oa e.os.length e.oc) (.func (.func 105) #[] #[])
        refine hK.out _ _ (HS.out _ HB.out) (fun _ => ?_); clear hK K
        refine wpAnyH_ready (rs := [17]) (by kernel_rfl) (by simp) ?_
        refine (AllReadyH.cons rfl (fun K hK => ?_) AllReadyH.nil)
        have o0 := B4.out.c0; have p0 := B4.out.fz 0; have o1 := B4.out.c1; have p1 := B4.out.fz 1
        go_simp; clear o0 p0 o1 p1
        obtain ⟨B4, B3, RZ, HB⟩ := stK B4.out B3.out RZ.out HB.out N34.out.symm D4.out L4.out (.slice a1 n1 c1) (.func (.func 105) #[] #[])
        refine hK.out _ _ (HS.out _ HB.out) (fun _ => ?_); clear hK K
        refine wpAnyH_done (by kernel_rfl) ?_ _
        go_wp2; go_meet
        exact ⟨_, _, a1, c1, n1, rfl, rfl, B3, B4, HN, GRow.row2 RZ.out HN.out, HB⟩
     ·go_simp
      obtain ⟨hb, B3, L3⟩ := alK HB.out
      have D3 := hide (djr RZ.out UZ.out)
      replace HB := hide (btr HB.out hb)
      replace RZ := hide (RZ.out.below hb)
      replace UZ := hide (Nat.le_trans UZ.out hb.size); clear hb
      generalize (v2.alloc (.cells #[.slice none 0 0, .nilFunc] 102)) = v3 at *
      refine hK.out _ _ (HS.out _ HB.out) (fun _ => ?_); clear hK K
      refine wpAnyH_ready (rs := [13, 15]) (by kernel_rfl) (by simp) ?_
      refine (AllReadyH.cons rfl (fun K hK => ?_) (AllReadyH.cons rfl (fun K hK => ?_) AllReadyH.nil))
      ·go_simp; go_wp2_with fail
       refine (by42 a1 c1 n1 _).mono ?_
       rintro ex v4 ⟨rfl, hb⟩
       replace HB := hide (btr HB.out hb)
       replace RZ := hide (RZ.out.below hb)
       replace UZ := hide (Nat.le_trans UZ.out hb.size)
       replace B3 := hide (B3.out.below hb); clear hb
       go_wp2_with fail
       refine hK.out _ _ (HS.out _ HB.out) (fun _ => ?_); clear hK K
       refine wpAnyH_ready (rs := [15]) (by kernel_rfl) (by simp) ?_
       refine (AllReadyH.cons rfl (fun K hK => ?_) AllReadyH.nil)
       ·go_simp
        obtain ⟨hb, B4, L4⟩ := alK HB.out
        have D4 := hide (djr RZ.out UZ.out)
        have N34 := hide (Nat.ne_of_lt B3.out.lt)
        replace HB := hide (btr HB.out hb)
        replace RZ := hide (RZ.out.below hb)
        replace UZ := hide (Nat.le_trans UZ.out hb.size)
        replace B3 := hide (B3.out.below hb); clear hb
        generalize (v4.alloc (.cells #[.slice none 0 0, .nilFunc] 102)) = v5 at *
        refine hK.out _ _ (HS.out _ HB.out) (fun _ => ?_); clear hK K
        refine wpAnyH_ready (rs := [16]) (by kernel_rfl) (by simp) ?_
        refine (AllReadyH.cons rfl (fun K hK => ?_) AllReadyH.nil)
        have o0 := B3.out.c0; have p0 := B3.out.fz 0; have o1 := B3.out.c1; have p1 := B3.out.fz 1
        go_simp; clear o0 p0 o1 p1
        obtain ⟨B3, B4, RZ, HB⟩ := stK B3.out B4.out RZ.out HB.out N34.out D3.out L3.out (.slice e.oa e.os.length e.oc) (.func (.func 105) #[] #[])
        refine hK.out _ _ (HS.out _ HB.out) (fun _ => ?_); clear hK K
        refine wpAnyH_ready (rs := [17]) (by kernel_rfl) (by simp) ?_
        refine (AllReadyH.cons rfl (fun K hK => ?_) AllReadyH.nil)
        have o0 := B4.out.c0; have p0 := B4.out.fz 0; have o1 := B4.out.c1; have p1 := B4.out.fz 1
        go_simp; clear o0 p0 o1 p1
        obtain ⟨B4, B3, RZ, HB⟩ := stK B4.out B3.out RZ.out HB.out N34.out.symm D4.out L4.out (.slice a1 n1 c1) (.func (.func 105) #[] #[])
        refine hK.out _ _ (HS.out _ HB.out) (fun _ => ?_); clear hK K
        refine wpAnyH_done (by kernel_rfl) ?_ _
        go_wp2; go_meet
        exact ⟨_, _, a1, c1, n1, rfl, rfl, B3, B4, HN, GRow.row2 RZ.out HN.out, HB⟩
      ·go_simp
       obtain ⟨hb, B4, L4⟩ := alK HB.out
       have D4 := hide (djr RZ.out UZ.out)
       have N34 := hide (Nat.ne_of_lt B3.out.lt)
       replace HB := hide (btr HB.out hb)
       replace RZ := hide (RZ.out.below hb)
       replace UZ := hide (Nat.le_trans UZ.out hb.size)
       replace B3 := hide (B3.out.below hb); clear hb
       generalize (v3.alloc (.cells #[.slice none 0 0, .nilFunc] 102)) = v4 at *
       refine hK.out _ _ (HS.out _ HB.out) (fun _ => ?_); clear hK K
       refine wpAnyH_ready (rs := [13]) (by kernel_rfl) (by simp) ?_
       refine (AllReadyH.cons rfl (fun K hK => ?_) AllReadyH.nil)
       ·go_simp; go_wp2_with fail
        refine (by42 a1 c1 n1 _).mono ?_
        rintro ex v5 ⟨rfl, hb⟩
        replace HB := hide (btr HB.out hb)
        replace RZ := hide (RZ.out.below hb)
        replace UZ := hide (Nat.le_trans UZ.out hb.size)
        replace B3 := hide (B3.out.below hb)
        replace B4 := hide (B4.out.below hb); clear hb
        go_wp2_with fail
        refine hK.out _ _ (HS.out _ HB.out) (fun _ => ?_); clear hK K
        refine wpAnyH_ready (rs := [16]) (by kernel_rfl) (by simp) ?_
        refine (AllReadyH.cons rfl (fun K hK => ?_) AllReadyH.nil)
        have o0 := B3.out.c0; have p0 := B3.out.fz 0; have o1 := B3.out.c1; have p1 := B3.out.fz 1
        go_simp; clear o0 p0 o1 p1
        obtain ⟨B3, B4, RZ, HB⟩ := stK B3.out B4.out RZ.out HB.out N34.out D3.out L3.out (.slice e.oa e.os.length e.oc) (.func (.func 105) #[] #[])
        refine hK.out _ _ (HS.out _ HB.out) (fun _ => ?_); clear hK K
        refine wpAnyH_ready (rs := [17]) (by kernel_rfl) (by simp) ?_
        refine (AllReadyH.cons rfl (fun K hK => ?_) AllReadyH.nil)
        have o0 := B4.out.c0; have p0 := B4.out.fz 0; have o1 := B4.out.c1; have p1 := B4.out.fz 1
        go_simp; clear o0 p0 o1 p1
        obtain ⟨B4, B3, RZ, HB⟩ := stK B4.out B3.out RZ.out HB.out N34.out.symm D4.out L4.out (.slice a1 n1 c1) (.func (.func 105) #[] #[])
        refine hK.out _ _ (HS.out _ HB.out) (fun _ => ?_); clear hK K
        refine wpAnyH_done (by kernel_rfl) ?_ _
        go_wp2; go_meet
        exact ⟨_, _, a1, c1, n1, rfl, rfl, B3, B4, HN, GRow.row2 RZ.out HN.out, HB⟩
     ·go_simp
      obtain ⟨hb, B4, L4⟩ := alK HB.out
      have D4 := hide (djr RZ.out UZ.out)
      replace HB := hide (btr HB.out hb)
      replace RZ := hide (RZ.out.below hb)
      replace UZ := hide (Nat.le_trans UZ.out hb.size); clear hb
      generalize (v2.alloc (.cells #[.slice none 0 0, .nilFunc] 102)) = v3 at *
      refine hK.out _ _ (HS.out _ HB.out) (fun _ => ?_); clear hK K
      refine wpAnyH_ready (rs := [13, 14]) (by kernel_rfl) (by simp) ?_
      refine (AllReadyH.cons rfl (fun K hK => ?_) (AllReadyH.cons rfl (fun K hK => ?_) AllReadyH.nil))
      ·go_simp; go_wp2_with fail
       refine (by42 a1 c1 n1 _).mono ?_
       rintro ex v4 ⟨rfl, hb⟩
       replace HB := hide (btr HB.out hb)
       replace RZ := hide (RZ.out.below hb)
       replace UZ := hide (Nat.le_trans UZ.out hb.size)
       replace B4 := hide (B4.out.below hb); clear hb
       go_wp2_with fail
       refine hK.out _ _ (HS.out _ HB.out) (fun _ => ?_); clear hK K
       refine wpAnyH_ready (rs := [14]) (by kernel_rfl) (by simp) ?_
       refine (AllReadyH.cons rfl (fun K hK => ?_) AllReadyH.nil)
       ·go_simp
        obtain ⟨hb, B3, L3⟩ := alK HB.out
        have D3 := hide (djr RZ.out UZ.out)
        have N34 := hide (Nat.ne_of_gt B4.out.lt)
        replace HB := hide (btr HB.out hb)
        replace RZ := hide (RZ.out.below hb)
        replace UZ := hide (Nat.le_trans UZ.out hb.size)
        replace B4 := hide (B4.out.below hb); clear hb
        generalize (v4.alloc (.cells #[.slice none 0 0, .nilFunc] 102)) = v5 at *
        refine hK.out _ _ (HS.out _ HB.out) (fun _ => ?_); clear hK K
        refine wpAnyH_ready (rs := [16]) (by kernel_rfl) (by simp) ?_
        refine (AllReadyH.cons rfl (fun K hK => ?_) AllReadyH.nil)
        have o0 := B3.out.c0; have p0 := B3.out.fz 0; have o1 := B3.out.c1; have p1 := B3.out.fz 1
        go_simp; clear o0 p0 o1 p1
        obtain ⟨B3, B4, RZ, HB⟩ := stK B3.out B4.out RZ.out HB.out N34.out D3.out L3.out (.slice e.oa e.os.length e.oc) (.func (.func 105) #[] #[])
        refine hK.out _ _ (HS.out _ HB.out) (fun _ => ?_); clear hK K
        refine wpAnyH_ready (rs := [17]) (by kernel_rfl) (by simp) ?_
        refine (AllReadyH.cons rfl (fun K hK => ?_) AllReadyH.nil)
        have o0 := B4.out.c0; have p0 := B4.out.fz 0; have o1 := B4.out.c1; have p1 := B4.out.fz 1
        go_simp; clear o0 p0 o1 p1
        obtain ⟨B4, B3, RZ, HB⟩ := stK B4.out B3.out RZ.out HB.out N34.out.symm D4.out L4.out (.slice a1 n1 c1) (.func (.func 105) #[] #[])
        refine hK.out _ _ (HS.out _ HB.out) (fun _ => ?_); clear hK K
        refine wpAnyH_done (by kernel_rfl) ?_ _
        go_wp2; go_meet
        exact ⟨_, _, a1, c1, n1, rfl, rfl, B3, B4, HN, GRow.row2 RZ.out HN.out, HB⟩
      ·go_simp
       obtain ⟨hb, B3, L3⟩ := alK HB.out
       have D3 := hide (djr RZ.out UZ.out)
       have N34 := hide (Nat.ne_of_gt B4.out.lt)
       replace HB := hide (btr HB.out hb)
       replace RZ := hide (RZ.out.below hb)
       replace UZ := hide (Nat.le_trans UZ.out hb.size)
       replace B4 := hide (B4.out.below hb); clear hb
       generalize (v3.alloc (.cells #[.slice none 0 0, .nilFunc] 102)) = v4 at *
       refine hK.out _ _ (HS.out _ HB.out) (fun _ => ?_); clear hK K
       refine wpAnyH_ready (rs := [13]) (by kernel_rfl) (by simp) ?_
       refine (AllReadyH.cons rfl (fun K hK => ?_) AllReadyH.nil)
       ·go_simp; go_wp2_with fail
        refine (by42 a1 c1 n1 _).mono ?_
        rintro ex v5 ⟨rfl, hb⟩
        replace HB := hide (btr HB.out hb)
        replace RZ := hide (RZ.out.below hb)
        replace UZ := hide (Nat.le_trans UZ.out hb.size)
        replace B3 := hide (B3.out.below hb)
        replace B4 := hide (B4.out.below hb); clear hb
        go_wp2_with fail
        refine hK.out _ _ (HS.out _ HB.out) (fun _ => ?_); clear hK K
        refine wpAnyH_ready (rs := [16]) (by kernel_rfl) (by simp) ?_
        refine (AllReadyH.cons rfl (fun K hK => ?_) AllReadyH.nil)
        have o0 := B3.out.c0; have p0 := B3.out.fz 0; have o1 := B3.out.c1; have p1 := B3.out.fz 1
        go_simp; clear o0 p0 o1 p1
        obtain ⟨B3, B4, RZ, HB⟩ := stK B3.out B4.out RZ.out HB.out N34.out D3.out L3.out (.slice e.oa e.os.length e.oc) (.func (.func 105) #[] #[])
        refine hK.out _ _ (HS.out _ HB.out) (fun _ => ?_); clear hK K
        refine wpAnyH_ready (rs := [17]) (by kernel_rfl) (by simp) ?_
        refine (AllReadyH.cons rfl (fun K hK => ?_) AllReadyH.nil)
        have o0 := B4.out.c0; have p0 := B4.out.fz 0; have o1 := B4.out.c1; have p1 := B4.out.fz 1
        go_simp; clear o0 p0 o1 p1
        obtain ⟨B4, B3, RZ, HB⟩ := stK B4.out B3.out RZ.out HB.out N34.out.symm D4.out L4.out (.slice a1 n1 c1) (.func (.func 105) #[] #[])
        refine hK.out _ _ (HS.out _ HB.out) (fun _ => ?_); clear hK K
        refine wpAnyH_done (by kernel_rfl) ?_ _
        go_wp2; go_meet
        exact ⟨_, _, a1, c1, n1, rfl, rfl, B3, B4, HN, GRow.row2 RZ.out HN.out, HB⟩
    ·go_simp
     obtain ⟨hb, B3, L3⟩ := alK HB.out
     replace HB := hide (btr HB.out hb)
     replace RS := hide (RS.out.below hb); clear hb
     generalize (v1.alloc (.cells #[.slice none 0 0, .nilFunc] 102)) = v2 at *
     refine hK.out _ _ (HS.out _ HB.out) (fun _ => ?_); clear hK K
     refine wpAnyH_ready (rs := [12, 15]) (by kernel_rfl) (by simp) ?_
     refine (AllReadyH.cons rfl (fun K hK => ?_) (AllReadyH.cons rfl (fun K hK => ?_) AllReadyH.nil))
     ·go_simp; go_wp2_with fail
      refine (CC.out _ _ HB.out RS.out).mono ?_
      rintro ex v3 ⟨a1, c1, n1, rfl, hn, ho, hb⟩
      have HN := hide hn; have RZ := hide (Lies.of ho); have UZ := hide (Nat.le_refl v3.heap.size)
      have D3 := hide (djb B3.out RZ.out); clear ho hn
      replace HB := hide (btr HB.out hb)
      replace RS := hide (RS.out.below hb)
      replace B3 := hide (B3.out.below hb); clear hb
      go_wp2_with fail
      refine hK.out _ _ (HS.out _ HB.out) (fun _ => ?_); clear hK K
      refine wpAnyH_ready (rs := [13, 15]) (by kernel_rfl) (by simp) ?_
      refine (AllReadyH.cons rfl (fun K hK => ?_) (AllReadyH.cons rfl (fun K hK => ?_) AllReadyH.nil))
      ·go_simp; go_wp2_with fail
       refine (by42 a1 c1 n1 _).mono ?_
       rintro ex v4 ⟨rfl, hb⟩
       replace HB := hide (btr HB.out hb)
       replace RZ := hide (RZ.out.below hb)
       replace UZ := hide (Nat.le_trans UZ.out hb.size)
       replace B3 := hide (B3.out.below hb); clear hb
       go_wp2_with fail
       refine hK.out _ _ (HS.out _ HB.out) (fun _ => ?_); clear hK K
       refine wpAnyH_ready (rs := [15]) (by kernel_rfl) (by simp) ?_
       refine (AllReadyH.cons rfl (fun K hK => ?_) AllReadyH.nil)
       ·go_simp
        obtain ⟨hb, B4, L4⟩ := alK HB.out
        have D4 := hide (djr RZ.out UZ.out)
        have N34 := hide (Nat.ne_of_lt B3.out.lt)
        replace HB := hide (btr HB.out hb)
        replace RZ := hide (RZ.out.below hb)
        replace UZ := hide (Nat.le_trans UZ.out hb.size)
        replace B3 := hide (B3.out.below hb); clear hb
        generalize (v4.alloc (.cells #[.slice none 0 0, .nilFunc] 102)) = v5 at *
        refine hK.out _ _ (HS.out _ HB.out) (fun _ => ?_); clear hK K
        refine wpAnyH_ready (rs := [16]) (by kernel_rfl) (by simp) ?_
        refine (AllReadyH.cons rfl (fun K hK => ?_) AllReadyH.nil)
        have o0 := B3.out.c0; have p0 := B3.out.fz 0; have o1 := B3.out.c1; have p1 := B3.out.fz 1
        go_simp; clear o0 p0 o1 p1
        obtain ⟨B3, B4, RZ, HB⟩ := stK B3.out B4.out RZ.out HB.out N34.out D3.out L3.out (.slice e.oa e.os.length e.oc) (.func (.func 105) #[] #[])
        refine hK.out _ _ (HS.out _ HB.out) (fun _ => ?_); clear hK K
        refine wpAnyH_ready (rs := [17]) (by kernel_rfl) (by simp) ?_
        refine (AllReadyH.cons rfl (fun K hK => ?_) AllReadyH.nil)
        have o0 := B4.out.c0; have p0 := B4.out.fz 0; have o1 := B4.out.c1; have p1 := B4.out.fz 1
        go_simp; clear o0 p0 o1 p1
        obtain ⟨B4, B3, RZ, HB⟩ := stK B4.out B3.out RZ.out HB.out N34.out.symm D4.out L4.out (.slice a1 n1 c1) (.func (.func 105) #[] #[])
        refine hK.out _ _ (HS.out _ HB.out) (fun _ => ?_); clear hK K
        refine wpAnyH_done (by kernel_rfl) ?_ _
        go_wp2; go_meet
        exact ⟨_, _, a1, c1, n1, rfl, rfl, B3, B4, HN, GRow.row2 RZ.out HN.out, HB⟩
      ·go_simp
       obtain ⟨hb, B4, L4⟩ := alK HB.out
       have D4 := hide (djr RZ.out UZ.out)
       have N34 := hide (Nat.ne_of_lt B3.out.lt)
       replace HB := hide (btr HB.out hb)
       replace RZ := hide (RZ.out.below hb)
       replace UZ := hide (Nat.le_trans UZ.out hb.size)
       replace B3 := hide (B3.out.below hb); clear hb
       generalize (v3.alloc (.cells #[.slice none 0 0, .nilFunc] 102)) = v4 at *
       refine hK.out _ _ (HS.out _ HB.out) (fun _ => ?_); clear hK K
       refine wpAnyH_ready (rs := [13]) (by kernel_rfl) (by simp) ?_
       refine (AllReadyH.cons rfl (fun K hK => ?_) AllReadyH.nil)
       ·go_simp; go_wp2_with fail
        refine (by42 a1 c1 n1 _).mono ?_
        rintro ex v5 ⟨rfl, hb⟩
        replace HB := hide (btr HB.out hb)
        replace RZ := hide (RZ.out.below hb)
        replace UZ := hide (Nat.le_trans UZ.out hb.size)
        replace B3 := hide (B3.out.below hb)
        replace B4 := hide (B4.out.below hb); clear hb
        go_wp2_with fail
        refine hK.out _ _ (HS.out _ HB.out) (fun _ => ?_); clear hK K
        refine wpAnyH_ready (rs := [16]) (by kernel_rfl) (by simp) ?_
        refine (AllReadyH.cons rfl (fun K hK => ?_) AllReadyH.nil)
        have o0 := B3.out.c0; have p0 := B3.out.fz 0; have o1 := B3.out.c1; have p1 := B3.out.fz 1
        go_simp; clear o0 p0 o1 p1
        obtain ⟨B3, B4, RZ, HB⟩ := stK B3.out B4.out RZ.out HB.out N34.out D3.out L3.out (.slice e.oa e.os.length e.oc) (.func (.func 105) #[] #[])
        refine hK.out _ _ (HS.out _ HB.out) (fun _ => ?_); clear hK K
        refine wpAnyH_ready (rs := [17]) (by kernel_rfl) (by simp) ?_
        refine (AllReadyH.cons rfl (fun K hK => ?_) AllReadyH.nil)
        have o0 := B4.out.c0; have p0 := B4.out.fz 0; have o1 := B4.out.c1; have p1 := B4.out.fz 1
        go_simp; clear o0 p0 o1 p1
        obtain ⟨B4, B3, RZ, HB⟩ := stK B4.out B3.out RZ.out HB.out N34.out.symm D4.out L4.out (.slice a1 n1 c1) (.func (.func 105) #[] #[])
        refine hK.out _ _ (HS.out _ HB.out) (fun _ => ?_); clear hK K
        refine wpAnyH_done (by kernel_rfl) ?_ _
        go_wp2; go_meet
        exact ⟨_, _, a1, c1, n1, rfl, rfl, B3, B4, HN, GRow.row2 RZ.out HN.out, HB⟩
     ·go_simp
      obtain ⟨hb, B4, L4⟩ := alK HB.out
      have N34 := hide (Nat.ne_of_lt B3.out.lt)
      replace HB := hide (btr HB.out hb)
      replace RS := hide (RS.out.below hb)
      replace B3 := hide (B3.out.below hb); clear hb
      generalize (v2.alloc (.cells #[.slice none 0 0, .nilFunc] 102)) = v3 at *
      refine hK.out _ _ (HS.out _ HB.out) (fun _ => ?_); clear hK K
      refine wpAnyH_ready (rs := [12]) (by kernel_rfl) (by simp) ?_
      refine (AllReadyH.cons rfl (fun K hK => ?_) AllReadyH.nil)
      ·go_simp; go_wp2_with fail
       refine (CC.out _ _ HB.out RS.out).mono ?_
       rintro ex v4 ⟨a1, c1, n1, rfl, hn, ho, hb⟩
       have HN := hide hn; have RZ := hide (Lies.of ho); have UZ := hide (Nat.le_refl v4.heap.size)
       have D3 := hide (djb B3.out RZ.out)
       have D4 := hide (djb B4.out RZ.out); clear ho hn
       replace HB := hide (btr HB.out hb)
       replace RS := hide (RS.out.below hb)
       replace B3 := hide (B3.out.below hb)
       replace B4 := hide (B4.out.below hb); clear hb
       go_wp2_with fail
       refine hK.out _ _ (HS.out _ HB.out) (fun _ => ?_); clear hK K
       refine wpAnyH_ready (rs := [13]) (by kernel_rfl) (by simp) ?_
       refine (AllReadyH.cons rfl (fun K hK => ?_) AllReadyH.nil)
       ·go_simp; go_wp2_with fail
        refine (by42 a1 c1 n1 _).mono ?_
        rintro ex v5 ⟨rfl, hb⟩
        replace HB := hide (btr HB.out hb)
        replace RZ := hide (RZ.out.below hb)
        replace UZ := hide (Nat.le_trans UZ.out hb.size)
        replace B3 := hide (B3.out.below hb)
        replace B4 := hide (B4.out.below hb); clear hb
        go_wp2_with fail
        refine hK.out _ _ (HS.out _ HB.out) (fun _ => ?_); clear hK K
        refine wpAnyH_ready (rs := [16]) (by kernel_rfl) (by simp) ?_
        refine (AllReadyH.cons rfl (fun K hK => ?_) AllReadyH.nil)
        have o0 := B3.out.c0; have p0 := B3.out.fz 0; have o1 := B3.out.c1; have p1 := B3.out.fz 1
        go_simp; clear o0 p0 o1 p1
        obtain ⟨B3, B4, RZ, HB⟩ := stK B3.out B4.out RZ.out HB.out N34.out D3.out L3.out (.slice e.oa e.os.length e.oc) (.func (.func 105) #[] #[])
        refine hK.out _ _ (HS.out _ HB.out) (fun _ => ?_); clear hK K
        refine wpAnyH_ready (rs := [17]) (by kernel_rfl) (by simp) ?_
        refine (AllReadyH.cons rfl (fun K hK => ?_) AllReadyH.nil)
        have o0 := B4.out.c0; have p0 := B4.out.fz 0; have o1 := B4.out.c1; have p1 := B4.out.fz 1
        go_simp; clear o0 p0 o1 p1
        obtain ⟨B4, B3, RZ, HB⟩ := stK B4.out B3.out RZ.out HB.out N34.out.symm D4.out L4.out (.slice a1 n1 c1) (.func (.func 105) #[] #[])
        refine hK.out _ _ (HS.out _ HB.out) (fun _ => ?_); clear hK K
        refine wpAnyH_done (by kernel_rfl) ?_ _
        go_wp2; go_meet
        exact ⟨_, _, a1, c1, n1, rfl, rfl, B3, B4, HN, GRow.row2 RZ.out HN.out, HB⟩
    ·go_simp
     obtain ⟨hb, B4, L4⟩ := alK HB.out
     replace HB := hide (btr HB.out hb)
     replace RS := hide (RS.out.below hb); clear hb
     generalize (v1.alloc (.cells #[.slice none 0 0, .nilFunc] 102)) = v2 at *
     refine hK.out _ _ (HS.out _ HB.out) (fun _ => ?_); clear hK K
     refine wpAnyH_ready (rs := [12, 14]) (by kernel_rfl) (by simp) ?_
     refine (AllReadyH.cons rfl (fun K hK => ?_) (AllReadyH.cons rfl (fun K hK => ?_) AllReadyH.nil))
     ·go_simp; go_wp2_with fail
      refine (CC.out _ _ HB.out RS.out).mono ?_
      rintro ex v3 ⟨a1, c1, n1, rfl, hn, ho, hb⟩
      have HN := hide hn; have RZ := hide (Lies.of ho); have UZ := hide (Nat.le_refl v3.heap.size)
      have D4 := hide (djb B4.out RZ.out); clear ho hn
      replace HB := hide (btr HB.out hb)
      replace RS := hide (RS.out.below hb)
      replace B4 := hide (B4.out.below hb); clear hb
      go_wp2_with fail
      refine hK.out _ _ (HS.out _ HB.out) (fun _ => ?_); clear hK K
      refine wpAnyH_ready (rs := [13, 14]) (by kernel_rfl) (by simp) ?_
      refine (AllReadyH.cons rfl (fun K hK => ?_) (AllReadyH.cons rfl (fun K hK => ?_) AllReadyH.nil))
      ·go_simp; go_wp2_with fail
       refine (by42 a1 c1 n1 _).mono ?_
       rintro ex v4 ⟨rfl, hb⟩
       replace HB := hide (btr HB.out hb)
       replace RZ := hide (RZ.out.below hb)
       replace UZ := hide (Nat.le_trans UZ.out hb.size)
       replace B4 := hide (B4.out.below hb); clear hb
       go_wp2_with fail
       refine hK.out _ _ (HS.out _ HB.out) (fun _ => ?_); clear hK K
       refine wpAnyH_ready (rs := [14]) (by kernel_rfl) (by simp) ?_
       refine (AllReadyH.cons rfl (fun K hK => ?_) AllReadyH.nil)
       ·go_simp
        obtain ⟨hb, B3, L3⟩ := alK HB.out
        have D3 := hide (djr RZ.out UZ.out)
        have N34 := hide (Nat.ne_of_gt B4.out.lt)
        replace HB := hide (btr HB.out hb)
        replace RZ := hide (RZ.out.below hb)
        replace UZ := hide (Nat.le_trans UZ.out hb.size)
        replace B4 := hide (B4.out.below hb); clear hb
        generalize (v4.alloc (.cells #[.slice none 0 0, .nilFunc] 102)) = v5 at *
        refine hK.out _ _ (HS.out _ HB.out) (fun _ => ?_); clear hK K
        refine wpAnyH_ready (rs := [16]) (by kernel_rfl) (by simp) ?_
        refine (AllReadyH.cons rfl (fun K hK => ?_) AllReadyH.nil)
        have o0 := B3.out.c0; have p0 := B3.out.fz 0; have o1 := B3.out.c1; have p1 := B3.out.fz 1
        go_simp; clear o0 p0 o1 p1
        obtain ⟨B3, B4, RZ, HB⟩ := stK B3.out B4.out RZ.out HB.out N34.out D3.out L3.out (.slice e.oa e.os.length e.oc) (.func (.func 105) #[] #[])
        refine hK.out _ _ (HS.out _ HB.out) (fun _ => ?_); clear hK K
        refine wpAnyH_ready (rs := [17]) (by kernel_rfl) (by simp) ?_
        refine (AllReadyH.cons rfl (fun K hK => ?_) AllReadyH.nil)
        have o0 := B4.out.c0; have p0 := B4.out.fz 0; have o1 := B4.out.c1; have p1 := B4.out.fz 1
        go_simp; clear o0 p0 o1 p1
        obtain ⟨B4, B3, RZ, HB⟩ := stK B4.out B3.out RZ.out HB.out N34.out.symm D4.out L4.out (.slice a1 n1 c1) (.func (.func 105) #[] #[])
        refine hK.out _ _ (HS.out _ HB.out) (fun _ => ?_); clear hK K
        refine wpAnyH_done (by kernel_rfl) ?_ _
        go_wp2; go_meet
        exact ⟨_, _, a1, c1, n1, rfl, rfl, B3, B4, HN, GRow.row2 RZ.out HN.out, HB⟩
      ·go_simp
       obtain ⟨hb, B3, L3⟩ := alK HB.out
       have D3 := hide (djr RZ.out UZ.out)
       have N34 := hide (Nat.ne_of_gt B4.out.lt)
       replace HB := hide (btr HB.out hb)
       replace RZ := hide (RZ.out.below hb)
       replace UZ := hide (Nat.le_trans UZ.out hb.size)
       replace B4 := hide (B4.out.below hb); clear hb
       generalize (v3.alloc (.cells #[.slice none 0 0, .nilFunc] 102)) = v4 at *
       refine hK.out _ _ (HS.out _ HB.out) (fun _ => ?_); clear hK K
       refine wpAnyH_ready (rs := [13]) (by kernel_rfl) (by simp) ?_
       refine (AllReadyH.cons rfl (fun K hK => ?_) AllReadyH.nil)
       ·go_simp; go_wp2_with fail
        refine (by42 a1 c1 n1 _).mono ?_
        rintro ex v5 ⟨rfl, hb⟩
        replace HB := hide (btr HB.out hb)
        replace RZ := hide (RZ.out.below hb)
        replace UZ := hide (Nat.le_trans UZ.out hb.size)
        replace B3 := hide (B3.out.below hb)
        replace B4 := hide (B4.out.below hb); clear hb
        go_wp2_with fail
        refine hK.out _ _ (HS.out _ HB.out) (fun _ => ?_); clear hK K
        refine wpAnyH_ready (rs := [16]) (by kernel_rfl) (by simp) ?_
        refine (AllReadyH.cons rfl (fun K hK => ?_) AllReadyH.nil)
        have o0 := B3.out.c0; have p0 := B3.out.fz 0; have o1 := B3.out.c1; have p1 := B3.out.fz 1
        go_simp; clear o0 p0 o1 p1
        obtain ⟨B3, B4, RZ, HB⟩ := stK B3.out B4.out RZ.out HB.out N34.out D3.out L3.out (.slice e.oa e.os.length e.oc) (.func (.func 105) #[] #[])
        refine hK.out _ _ (HS.out _ HB.out) (fun _ => ?_); clear hK K
        refine wpAnyH_ready (rs := [17]) (by kernel_rfl) (by simp) ?_
        refine (AllReadyH.cons rfl (fun K hK => ?_) AllReadyH.nil)
        have o0 := B4.out.c0; have p0 := B4.out.fz 0; have o1 := B4.out.c1; have p1 := B4.out.fz 1
        go_simp; clear o0 p0 o1 p1
        obtain ⟨B4, B3, RZ, HB⟩ := stK B4.out B3.out RZ.out HB.out N34.out.symm D4.out L4.out (.slice a1 n1 c1) (.func (.func 105) #[] #[])
        refine hK.out _ _ (HS.out _ HB.out) (fun _ => ?_); clear hK K
        refine wpAnyH_done (by kernel_rfl) ?_ _
        go_wp2; go_meet
        exact ⟨_, _, a1, c1, n1, rfl, rfl, B3, B4, HN, GRow.row2 RZ.out HN.out, HB⟩
     ·go_simp
      obtain ⟨hb, B3, L3⟩ := alK HB.out
      have N34 := hide (Nat.ne_of_gt B4.out.lt)
      replace HB := hide (btr HB.out hb)
      replace RS := hide (RS.out.below hb)
      replace B4 := hide (B4.out.below hb); clear hb
      generalize (v2.alloc (.cells #[.slice none 0 0, .nilFunc] 102)) = v3 at *
      refine hK.out _ _ (HS.out _ HB.out) (fun _ => ?_); clear hK K
      refine wpAnyH_ready (rs := [12]) (by kernel_rfl) (by simp) ?_
      refine (AllReadyH.cons rfl (fun K hK => ?_) AllReadyH.nil)
      ·go_simp; go_wp2_with fail
       refine (CC.out _ _ HB.out RS.out).mono ?_
       rintro ex v4 ⟨a1, c1, n1, rfl, hn, ho, hb⟩
       have HN := hide hn; have RZ := hide (Lies.of ho); have UZ := hide (Nat.le_refl v4.heap.size)
       have D3 := hide (djb B3.out RZ.out)
       have D4 := hide (djb B4.out RZ.out); clear ho hn
       replace HB := hide (btr HB.out hb)
       replace RS := hide (RS.out.below hb)
       replace B3 := hide (B3.out.below hb)
       replace B4 := hide (B4.out.below hb); clear hb
       go_wp2_with fail
       refine hK.out _ _ (HS.out _ HB.out) (fun _ => ?_); clear hK K
       refine wpAnyH_ready (rs := [13]) (by kernel_rfl) (by simp) ?_
       refine (AllReadyH.cons rfl (fun K hK => ?_) AllReadyH.nil)
       ·go_simp; go_wp2_with fail
        refine (by42 a1 c1 n1 _).mono ?_
        rintro ex v5 ⟨rfl, hb⟩
        replace HB := hide (btr HB.out hb)
        replace RZ := hide (RZ.out.below hb)
        replace UZ := hide (Nat.le_trans UZ.out hb.size)
        replace B3 := hide (B3.out.below hb)
        replace B4 := hide (B4.out.below hb); clear hb
        go_wp2_with fail
        refine hK.out _ _ (HS.out _ HB.out) (fun _ => ?_); clear hK K
        refine wpAnyH_ready (rs := [16]) (by kernel_rfl) (by simp) ?_
        refine (AllReadyH.cons rfl (fun K hK => ?_) AllReadyH.nil)
        have o0 := B3.out.c0; have p0 := B3.out.fz 0; have o1 := B3.out.c1; have p1 := B3.out.fz 1
        go_simp; clear o0 p0 o1 p1
        obtain ⟨B3, B4, RZ, HB⟩ := stK B3.out B4.out RZ.out HB.out N34.out D3.out L3.out (.slice e.oa e.os.length e.oc) (.func (.func 105) #[] #[])
        refine hK.out _ _ (HS.out _ HB.out) (fun _ => ?_); clear hK K
        refine wpAnyH_ready (rs := [17]) (by kernel_rfl) (by simp) ?_
        refine (AllReadyH.cons rfl (fun K hK => ?_) AllReadyH.nil)
        have o0 := B4.out.c0; have p0 := B4.out.fz 0; have o1 := B4.out.c1; have p1 := B4.out.fz 1
        go_simp; clear o0 p0 o1 p1
        obtain ⟨B4, B3, RZ, HB⟩ := stK B4.out B3.out RZ.out HB.out N34.out.symm D4.out L4.out (.slice a1 n1 c1) (.func (.func 105) #[] #[])
        refine hK.out _ _ (HS.out _ HB.out) (fun _ => ?_); clear hK K
        refine wpAnyH_done (by kernel_rfl) ?_ _
        go_wp2; go_meet
        exact ⟨_, _, a1, c1, n1, rfl, rfl, B3, B4, HN, GRow.row2 RZ.out HN.out, HB⟩
   ·as_aux_lemma =>
    go_simp
    obtain ⟨hb, B3, L3⟩ := alK HB.out
    replace HB := hide (btr HB.out hb)
    replace RS := hide (RS.out.below hb); clear hb
    generalize (v0.alloc (.cells #[.slice none 0 0, .nilFunc] 102)) = v1 at *
    refine hK.out _ _ (HS.out _ HB.out) (fun _ => ?_); clear hK K
    refine wpAnyH_ready (rs := [2, 15]) (by kernel_rfl) (by simp) ?_
    refine (AllReadyH.cons rfl (fun K hK => ?_) (AllReadyH.cons rfl (fun K hK => ?_) AllReadyH.nil))
    ·go_simp; go_wp2_with fail
     refine (CI.out _).mono ?_
     rintro ex v2 ⟨rfl, hb⟩
     replace HB := hide (btr HB.out hb)
     replace RS := hide (RS.out.below hb)
     replace B3 := hide (B3.out.below hb); clear hb
     go_wp2_with fail
     refine hK.out _ _ (HS.out _ HB.out) (fun _ => ?_); clear hK K
     refine wpAnyH_ready (rs := [12, 15]) (by kernel_rfl) (by simp) ?_
     refine (AllReadyH.cons rfl (fun K hK => ?_) (AllReadyH.cons rfl (fun K hK => ?_) AllReadyH.nil))
     ·go_simp; go_wp2_with fail
      refine (CC.out _ _ HB.out RS.out).mono ?_
      rintro ex v3 ⟨a1, c1, n1, rfl, hn, ho, hb⟩
      have HN := hide hn; have RZ := hide (Lies.of ho); have UZ := hide (Nat.le_refl v3.heap.size)
      have D3 := hide (djb B3.out RZ.out); clear ho hn
      replace HB := hide (btr HB.out hb)
      replace RS := hide (RS.out.below hb)
      replace B3 := hide (B3.out.below hb); clear hb
      go_wp2_with fail
      refine hK.out _ _ (HS.out _ HB.out) (fun _ => ?_); clear hK K
      refine wpAnyH_ready (rs := [13, 15]) (by kernel_rfl) (by simp) ?_
      refine (AllReadyH.cons rfl (fun K hK => ?_) (AllReadyH.cons rfl (fun K hK => ?_) AllReadyH.nil))
      ·go_simp; go_wp2_with fail
       refine (by42 a1 c1 n1 _).mono ?_
       rintro ex v4 ⟨rfl, hb⟩
       replace HB := hide (btr HB.out hb)
       replace RZ := hide (RZ.out.below hb)
       replace UZ := hide (Nat.le_trans UZ.out hb.size)
       replace B3 := hide (B3.out.below hb); clear hb
       go_wp2_with fail
       refine hK.out _ _ (HS.out _ HB.out) (fun _ => ?_); clear hK K
       refine wpAnyH_ready (rs := [15]) (by kernel_rfl) (by simp) ?_
       refine (AllReadyH.cons rfl (fun K hK => ?_) AllReadyH.nil)
       ·go_simp
        obtain ⟨hb, B4, L4⟩ := alK HB.out
        have D4 := hide (djr RZ.out UZ.out)
        have N34 := hide (Nat.ne_of_lt B3.out.lt)
        replace HB := hide (btr HB.out hb)
        replace RZ := hide (RZ.out.below hb)
        replace UZ := hide (Nat.le_trans UZ.out hb.size)
        replace B3 := hide (B3.out.below hb); clear hb
        generalize (v4.alloc (.cells #[.slice none 0 0, .nilFunc] 102)) = v5 at *
        refine hK.out _ _ (HS.out _ HB.out) (fun _ => ?_); clear hK K
        refine wpAnyH_ready (rs := [16]) (by kernel_rfl) (by simp) ?_
        refine (AllReadyH.cons rfl (fun K hK => ?_) AllReadyH.nil)
        have o0 := B3.out.c0; have p0 := B3.out.fz 0; have o1 := B3.out.c1; have p1 := B3.out.fz 1
        go_simp; clear o0 p0 o1 p1
        obtain ⟨B3, B4, RZ, HB⟩ := stK B3.out B4.out RZ.out HB.out N34.out D3.out L3.out (.slice e.oa e.os.length e.oc) (.func (.func 105) #[] #[])
        refine hK.out _ _ (HS.out _ HB.out) (fun _ => ?_); clear hK K
        refine wpAnyH_ready (rs := [17]) (by kernel_rfl) (by simp) ?_
        refine (AllReadyH.cons rfl (fun K hK => ?_) AllReadyH.nil)
        have o0 := B4.out.c0; have p0 := B4.out.fz 0; have o1 := B4.out.c1; have p1 := B4.out.fz 1
        go_simp; clear o0 p0 o1 p1
        obtain ⟨B4, B3, RZ, HB⟩ := stK B4.out B3.out RZ.out HB.out N34.out.symm D4.out L4.out (.slice a1 n1 c1) (.func (.func 105) #[] #[])
        refine hK.out _ _ (HS.out _ HB.out) (fun _ => ?_); clear hK K
        refine wpAnyH_done (by kernel_rfl) ?_ _
        go_wp2; go_meet
        exact ⟨_, _, a1, c1, n1, rfl, rfl, B3, B4, HN, GRow.row2 RZ.out HN.out, HB⟩
      ·go_simp
       obtain ⟨hb, B4, L4⟩ := alK HB.out
       have D4 := hide (djr RZ.out UZ.out)
       have N34 := hide (Nat.ne_of_lt B3.out.lt)
       replace HB := hide (btr HB.out hb)
       replace RZ := hide (RZ.out.below hb)
       replace UZ := hide (Nat.le_trans UZ.out hb.size)
       replace B3 := hide (B3.out.below hb); clear hb
       generalize (v3.alloc (.cells #[.slice none 0 0, .nilFunc] 102)) = v4 at *
       refine hK.out _ _ (HS.out _ HB.out) (fun _ => ?_); clear hK K
       refine wpAnyH_ready (rs := [13]) (by kernel_rfl) (by simp) ?_
       refine (AllReadyH.cons rfl (fun K hK => ?_) AllReadyH.nil)
       ·go_simp; go_wp2_with fail
        refine (by42 a1 c1 n1 _).mono ?_
        rintro ex v5 ⟨rfl, hb⟩
        replace HB := hide (btr HB.out hb)
        replace RZ := hide (RZ.out.below hb)
        replace UZ := hide (Nat.le_trans UZ.out hb.size)
        replace B3 := hide (B3.out.below hb)
        replace B4 := hide (B4.out.below hb); clear hb
        go_wp2_with fail
        refine hK.out _ _ (HS.out _ HB.out) (fun _ => ?_); clear hK K
        refine wpAnyH_ready (rs := [16]) (by kernel_rfl) (by simp) ?_
        refine (AllReadyH.cons rfl (fun K hK => ?_) AllReadyH.nil)
        have o0 := B3.out.c0; have p0 := B3.out.fz 0; have o1 := B3.out.c1; have p1 := B3.out.fz 1
        go_simp; clear o0 p0 o1 p1
        obtain ⟨B3, B4, RZ, HB⟩ := stK B3.out B4.out RZ.out HB.out N34.out D3.out L3.out (.slice e.oa e.os.length e.oc) (.func (.func 105) #[] #[])
        refine hK.out _ _ (HS.out _ HB.out) (fun _ => ?_); clear hK K
        refine wpAnyH_ready (rs := [17]) (by kernel_rfl) (by simp) ?_
        refine (AllReadyH.cons rfl (fun K hK => ?_) AllReadyH.nil)
        have o0 := B4.out.c0; have p0 := B4.out.fz 0; have o1 := B4.out.c1; have p1 := B4.out.fz 1
        go_simp; clear o0 p0 o1 p1
        obtain ⟨B4, B3, RZ, HB⟩ := stK B4.out B3.out RZ.out HB.out N34.out.symm D4.out L4.out (.slice a1 n1 c1) (.func (.func 105) #[] #[])
        refine hK.out _ _ (HS.out _ HB.out) (fun _ => ?_); clear hK K
        refine wpAnyH_done (by kernel_rfl) ?_ _
        go_wp2; go_meet
        exact ⟨_, _, a1, c1, n1, rfl, rfl, B3, B4, HN, GRow.row2 RZ.out HN.out, HB⟩
     ·go_simp
      obtain ⟨hb, B4, L4⟩ := alK HB.out
      have N34 := hide (Nat.ne_of_lt B3.out.lt)
      replace HB := hide (btr HB.out hb)
      replace RS := hide (RS.out.below hb)
      replace B3 := hide (B3.out.below hb); clear hb
      generalize (v2.alloc (.cells #[.slice none 0 0, .nilFunc] 102)) = v3 at *
      refine hK.out _ _ (HS.out _ HB.out) (fun _ => ?_); clear hK K
      refine wpAnyH_ready (rs := [12]) (by kernel_rfl) (by simp) ?_
      refine (AllReadyH.cons rfl (fun K hK => ?_) AllReadyH.nil)
      ·go_simp; go_wp2_with fail
       refine (CC.out _ _ HB.out RS.out).mono ?_
       rintro ex v4 ⟨a1, c1, n1, rfl, hn, ho, hb⟩
       have HN := hide hn; have RZ := hide (Lies.of ho); have UZ := hide (Nat.le_refl v4.heap.size)
       have D3 := hide (djb B3.out RZ.out)
       have D4 := hide (djb B4.out RZ.out); clear ho hn
       replace HB := hide (btr HB.out hb)
       replace RS := hide (RS.out.below hb)
       replace B3 := hide (B3.out.below hb)
       replace B4 := hide (B4.out.below hb); clear hb
       go_wp2_with fail
       refine hK.out _ _ (HS.out _ HB.out) (fun _ => ?_); clear hK K
       refine wpAnyH_ready (rs := [13]) (by kernel_rfl) (by simp) ?_
       refine (AllReadyH.cons rfl (fun K hK => ?_) AllReadyH.nil)
       ·go_simp; go_wp2_with fail
        refine (by42 a1 c1 n1 _).mono ?_
        rintro ex v5 ⟨rfl, hb⟩
        replace HB := hide (btr HB.out hb)
        replace RZ := hide (RZ.out.below hb)
        replace UZ := hide (Nat.le_trans UZ.out hb.size)
        replace B3 := hide (B3.out.below hb)
        replace B4 := hide (B4.out.below hb); clear hb
        go_wp2_with fail
        refine hK.out _ _ (HS.out _ HB.out) (fun _ => ?_); clear hK K
        refine wpAnyH_ready (rs := [16]) (by kernel_rfl) (by simp) ?_
        refine (AllReadyH.cons rfl (fun K hK => ?_) AllReadyH.nil)
        have o0 := B3.out.c0; have p0 := B3.out.fz 0; have o1 := B3.out.c1; have p1 := B3.out.fz 1
        go_simp; clear o0 p0 o1 p1
        obtain ⟨B3, B4, RZ, HB⟩ := stK B3.out B4.out RZ.out HB.out N34.out D3.out L3.out (.slice e.oa e.os.length e.oc) (.func (.func 105) #[] #[])
        refine hK.out _ _ (HS.out _ HB.out) (fun _ => ?_); clear hK K
        refine wpAnyH_ready (rs := [17]) (by kernel_rfl) (by simp) ?_
        refine (AllReadyH.cons rfl (fun K hK => ?_) AllReadyH.nil)
        have o0 := B4.out.c0; have p0 := B4.out.fz 0; have o1 := B4.out.c1; have p1 := B4.out.fz 1
        go_simp; clear o0 p0 o1 p1
        obtain ⟨B4, B3, RZ, HB⟩ := stK B4.out B3.out RZ.out HB.out N34.out.symm D4.out L4.out (.slice a1 n1 c1) (.func (.func 105) #[] #[])
        refine hK.out _ _ (HS.out _ HB.out) (fun _ => ?_); clear hK K
        refine wpAnyH_done (by kernel_rfl) ?_ _
        go_wp2; go_meet
        exact ⟨_, _, a1, c1, n1, rfl, rfl, B3, B4, HN, GRow.row2 RZ.out HN.out, HB⟩
    ·go_simp
     obtain ⟨hb, B4, L4⟩ := alK HB.out
     have N34 := hide (Nat.ne_of_lt B3.out.lt)
     replace HB := hide (btr HB.out hb)
     replace RS := hide (RS.out.below hb)
     replace B3 := hide (B3.out.below hb); clear hb
     generalize (v1.alloc (.cells #[.slice none 0 0, .nilFunc] 102)) = v2 at *
     refine hK.out _ _ (HS.out _ HB.out) (fun _ => ?_); clear hK K
     refine wpAnyH_ready (rs := [2]) (by kernel_rfl) (by simp) ?_
     refine (AllReadyH.cons rfl (fun K hK => ?_) AllReadyH.nil)
     ·go_simp; go_wp2_with fail
      refine (CI.out _).mono ?_
      rintro ex v3 ⟨rfl, hb⟩
      replace HB := hide (btr HB.out hb)
      replace RS := hide (RS.out.below hb)
      replace B3 := hide (B3.out.below hb)
      replace B4 := hide (B4.out.below hb); clear hb
      go_wp2_with fail
      refine hK.out _ _ (HS.out _ HB.out) (fun _ => ?_); clear hK K
      refine wpAnyH_ready (rs := [12]) (by kernel_rfl) (by simp) ?_
      refine (AllReadyH.cons rfl (fun K hK => ?_) AllReadyH.nil)
      ·go_simp; go_wp2_with fail
       refine (CC.out _ _ HB.out RS.out).mono ?_
       rintro ex v4 ⟨a1, c1, n1, rfl, hn, ho, hb⟩
       have HN := hide hn; have RZ := hide (Lies.of ho); have UZ := hide (Nat.le_refl v4.heap.size)
       have D3 := hide (djb B3.out RZ.out)
       have D4 := hide (djb B4.out RZ.out); clear ho hn
       replace HB := hide (btr HB.out hb)
       replace RS := hide (RS.out.below hb)
       replace B3 := hide (B3.out.below hb)
       replace B4 := hide (B4.out.below hb); clear hb
       go_wp2_with fail
       refine hK.out _ _ (HS.out _ HB.out) (fun _ => ?_); clear hK K
       refine wpAnyH_ready (rs := [13]) (by kernel_rfl) (by simp) ?_
       refine (AllReadyH.cons rfl (fun K hK => ?_) AllReadyH.nil)
       ·go_simp; go_wp2_with fail
        refine (by42 a1 c1 n1 _).mono ?_
        rintro ex v5 ⟨rfl, hb⟩
        replace HB := hide (btr HB.out hb)
        replace RZ := hide (RZ.out.below hb)
        replace UZ := hide (Nat.le_trans UZ.out hb.size)
        replace B3 := hide (B3.out.below hb)
        replace B4 := hide (B4.out.below hb); clear hb
        go_wp2_with fail
        refine hK.out _ _ (HS.out _ HB.out) (fun _ => ?_); clear hK K
        refine wpAnyH_ready (rs := [16]) (by kernel_rfl) (by simp) ?_
        refine (AllReadyH.cons rfl (fun K hK => ?_) AllReadyH.nil)
        have o0 := B3.out.c0; have p0 := B3.out.fz 0; have o1 := B3.out.c1; have p1 := B3.out.fz 1
        go_simp; clear o0 p0 o1 p1
        obtain ⟨B3, B4, RZ, HB⟩ := stK B3.out B4.out RZ.out HB.out N34.out D3.out L3.out (.slice e.oa e.os.length e.oc) (.func (.func 105) #[] #[])
        refine hK.out _ _ (HS.out _ HB.out) (fun _ => ?_); clear hK K
        refine wpAnyH_ready (rs := [17]) (by kernel_rfl) (by simp) ?_
        refine (AllReadyH.cons rfl (fun K hK => ?_) AllReadyH.nil)
        have o0 := B4.out.c0; have p0 := B4.out.fz 0; have o1 := B4.out.c1; have p1 := B4.out.fz 1
        go_simp; clear o0 p0 o1 p1
        obtain ⟨B4, B3, RZ, HB⟩ := stK B4.out B3.out RZ.out HB.out N34.out.symm D4.out L4.out (.slice a1 n1 c1) (.func (.func 105) #[] #[])
        refine hK.out _ _ (HS.out _ HB.out) (fun _ => ?_); clear hK K
        refine wpAnyH_done (by kernel_rfl) ?_ _
        go_wp2; go_meet
        exact ⟨_, _, a1, c1, n1, rfl, rfl, B3, B4, HN, GRow.row2 RZ.out HN.out, HB⟩
   ·as_aux_lemma =>
    go_simp
    obtain ⟨hb, B4, L4⟩ := alK HB.out
    replace HB := hide (btr HB.out hb)
    replace RS := hide (RS.out.below hb); clear hb
    generalize (v0.alloc (.cells #[.slice none 0 0, .nilFunc] 102)) = v1 at *
    refine hK.out _ _ (HS.out _ HB.out) (fun _ => ?_); clear hK K
    refine wpAnyH_ready (rs := [2, 14]) (by kernel_rfl) (by simp) ?_
    refine (AllReadyH.cons rfl (fun K hK => ?_) (AllReadyH.cons rfl (fun K hK => ?_) AllReadyH.nil))
    ·go_simp; go_wp2_with fail
     refine (CI.out _).mono ?_
     rintro ex v2 ⟨rfl, hb⟩
     replace HB := hide (btr HB.out hb)
     replace RS := hide (RS.out.below hb)
     replace B4 := hide (B4.out.below hb); clear hb
     go_wp2_with fail
     refine hK.out _ _ (HS.out _ HB.out) (fun _ => ?_); clear hK K
     refine wpAnyH_ready (rs := [12, 14]) (by kernel_rfl) (by simp) ?_
     refine (AllReadyH.cons rfl (fun K hK => ?_) (AllReadyH.cons rfl (fun K hK => ?_) AllReadyH.nil))
     ·go_simp; go_wp2_with fail
      refine (CC.out _ _ HB.out RS.out).mono ?_
      rintro ex v3 ⟨a1, c1, n1, rfl, hn, ho, hb⟩
      have HN := hide hn; have RZ := hide (Lies.of ho); have UZ := hide (Nat.le_refl v3.heap.size)
      have D4 := hide (djb B4.out RZ.out); clear ho hn
      replace HB := hide (btr HB.out hb)
      replace RS := hide (RS.out.below hb)
      replace B4 := hide (B4.out.below hb); clear hb
      go_wp2_with fail
      refine hK.out _ _ (HS.out _ HB.out) (fun _ => ?_); clear hK K
      refine wpAnyH_ready (rs := [13, 14]) (by kernel_rfl) (by simp) ?_
      refine (AllReadyH.cons rfl (fun K hK => ?_) (AllReadyH.cons rfl (fun K hK => ?_) AllReadyH.nil))
      ·go_simp; go_wp2_with fail
       refine (by42 a1 c1 n1 _).mono ?_
       rintro ex v4 ⟨rfl, hb⟩
       replace HB := hide (btr HB.out hb)
       replace RZ := hide (RZ.out.below hb)
       replace UZ := hide (Nat.le_trans UZ.out hb.size)
       replace B4 := hide (B4.out.below hb); clear hb
       go_wp2_with fail
       refine hK.out _ _ (HS.out _ HB.out) (fun _ => ?_); clear hK K
       refine wpAnyH_ready (rs := [14]) (by kernel_rfl) (by simp) ?_
       refine (AllReadyH.cons rfl (fun K hK => ?_) AllReadyH.nil)
       ·go_simp
        obtain ⟨hb, B3, L3⟩ := alK HB.out
        have D3 := hide (djr RZ.out UZ.out)
        have N34 := hide (Nat.ne_of_gt B4.out.lt)
        replace HB := hide (btr HB.out hb)
        replace RZ := hide (RZ.out.below hb)
        replace UZ := hide (Nat.le_trans UZ.out hb.size)
        replace B4 := hide (B4.out.below hb); clear hb
        generalize (v4.alloc (.cells #[.slice none 0 0, .nilFunc] 102)) = v5 at *
        refine hK.out _ _ (HS.out _ HB.out) (fun _ => ?_); clear hK K
        refine wpAnyH_ready (rs := [16]) (by kernel_rfl) (by simp) ?_
        refine (AllReadyH.cons rfl (fun K hK => ?_) AllReadyH.nil)
        have o0 := B3.out.c0; have p0 := B3.out.fz 0; have o1 := B3.out.c1; have p1 := B3.out.fz 1
        go_simp; clear o0 p0 o1 p1
        obtain ⟨B3, B4, RZ, HB⟩ := stK B3.out B4.out RZ.out HB.out N34.out D3.out L3.out (.slice e.oa e.os.length e.oc) (.func (.func 105) #[] #[])
        refine hK.out _ _ (HS.out _ HB.out) (fun _ => ?_); clear hK K
        refine wpAnyH_ready (rs := [17]) (by kernel_rfl) (by simp) ?_
        refine (AllReadyH.cons rfl (fun K hK => ?_) AllReadyH.nil)
        have o0 := B4.out.c0; have p0 := B4.out.fz 0; have o1 := B4.out.c1; have p1 := B4.out.fz 1
        go_simp; clear o0 p0 o1 p1
        obtain ⟨B4, B3, RZ, HB⟩ := stK B4.out B3.out RZ.out HB.out N34.out.symm D4.out L4.out (.slice a1 n1 c1) (.func (.func 105) #[] #[])
        refine hK.out _ _ (HS.out _ HB.out) (fun _ => ?_); clear hK K
        refine wpAnyH_done (by kernel_rfl) ?_ _
        go_wp2; go_meet
        exact ⟨_, _, a1, c1, n1, rfl, rfl, B3, B4, HN, GRow.row2 RZ.out HN.out, HB⟩
      ·go_simp
       obtain ⟨hb, B3, L3⟩ := alK HB.out
       have D3 := hide (djr RZ.out UZ.out)
       have N34 := hide (Nat.ne_of_gt B4.out.lt)
       replace HB := hide (btr HB.out hb)
       replace RZ := hide (RZ.out.below hb)
       replace UZ := hide (Nat.le_trans UZ.out hb.size)
       replace B4 := hide (B4.out.below hb); clear hb
       generalize (v3.alloc (.cells #[.slice none 0 0, .nilFunc] 102)) = v4 at *
       refine hK.out _ _ (HS.out _ HB.out) (fun _ => ?_); clear hK K
       refine wpAnyH_ready (rs := [13]) (by kernel_rfl) (by simp) ?_
       refine (AllReadyH.cons rfl (fun K hK => ?_) AllReadyH.nil)
       ·go_simp; go_wp2_with fail
        refine (by42 a1 c1 n1 _).mono ?_
        rintro ex v5 ⟨rfl, hb⟩
        replace HB := hide (btr HB.out hb)
        replace RZ := hide (RZ.out.below hb)
        replace UZ := hide (Nat.le_trans UZ.out hb.size)
        replace B3 := hide (B3.out.below hb)
        replace B4 := hide (B4.out.below hb); clear hb
        go_wp2_with fail
        refine hK.out _ _ (HS.out _ HB.out) (fun _ => ?_); clear hK K
        refine wpAnyH_ready (rs := [16]) (by kernel_rfl) (by simp) ?_
        refine (AllReadyH.cons rfl (fun K hK => ?_) AllReadyH.nil)
        have o0 := B3.out.c0; have p0 := B3.out.fz 0; have o1 := B3.out.c1; have p1 := B3.out.fz 1
        go_simp; clear o0 p0 o1 p1
        obtain ⟨B3, B4, RZ, HB⟩ := stK B3.out B4.out RZ.out HB.out N34.out D3.out L3.out (.slice e.oa e.os.length e.oc) (.func (.func 105) #[] #[])
        refine hK.out _ _ (HS.out _ HB.out) (fun _ => ?_); clear hK K
        refine wpAnyH_ready (rs := [17]) (by kernel_rfl) (by simp) ?_
        refine (AllReadyH.cons rfl (fun K hK => ?_) AllReadyH.nil)
        have o0 := B4.out.c0; have p0 := B4.out.fz 0; have o1 := B4.out.c1; have p1 := B4.out.fz 1
        go_simp; clear o0 p0 o1 p1
        obtain ⟨B4, B3, RZ, HB⟩ := stK B4.out B3.out RZ.out HB.out N34.out.symm D4.out L4.out (.slice a1 n1 c1) (.func (.func 105) #[] #[])
        refine hK.out _ _ (HS.out _ HB.out) (fun _ => ?_); clear hK K
        refine wpAnyH_done (by kernel_rfl) ?_ _
        go_wp2; go_meet
        exact ⟨_, _, a1, c1, n1, rfl, rfl, B3, B4, HN, GRow.row2 RZ.out HN.out, HB⟩
     ·go_simp
      obtain ⟨hb, B3, L3⟩ := alK HB.out
      have N34 := hide (Nat.ne_of_gt B4.out.lt)
      replace HB := hide (btr HB.out hb)
      replace RS := hide (RS.out.below hb)
      replace B4 := hide (B4.out.below hb); clear hb
      generalize (v2.alloc (.cells #[.slice none 0 0, .nilFunc] 102)) = v3 at *
      refine hK.out _ _ (HS.out _ HB.out) (fun _ => ?_); clear hK K
      refine wpAnyH_ready (rs := [12]) (by kernel_rfl) (by simp) ?_
      refine (AllReadyH.cons rfl (fun K hK => ?_) AllReadyH.nil)
      ·go_simp; go_wp2_with fail
       refine (CC.out _ _ HB.out RS.out).mono ?_
       rintro ex v4 ⟨a1, c1, n1, rfl, hn, ho, hb⟩
       have HN := hide hn; have RZ := hide (Lies.of ho); have UZ := hide (Nat.le_refl v4.heap.size)
       have D3 := hide (djb B3.out RZ.out)
       have D4 := hide (djb B4.out RZ.out); clear ho hn
       replace HB := hide (btr HB.out hb)
       replace RS := hide (RS.out.below hb)
       replace B3 := hide (B3.out.below hb)
       replace B4 := hide (B4.out.below hb); clear hb
       go_wp2_with fail
       refine hK.out _ _ (HS.out _ HB.out) (fun _ => ?_); clear hK K
       refine wpAnyH_ready (rs := [13]) (by kernel_rfl) (by simp) ?_
       refine (AllReadyH.cons rfl (fun K hK => ?_) AllReadyH.nil)
       ·go_simp; go_wp2_with fail
        refine (by42 a1 c1 n1 _).mono ?_
        rintro ex v5 ⟨rfl, hb⟩
        replace HB := hide (btr HB.out hb)
        replace RZ := hide (RZ.out.below hb)
        replace UZ := hide (Nat.le_trans UZ.out hb.size)
        replace B3 := hide (B3.out.below hb)
        replace B4 := hide (B4.out.below hb); clear hb
        go_wp2_with fail
        refine hK.out _ _ (HS.out _ HB.out) (fun _ => ?_); clear hK K
        refine wpAnyH_ready (rs := [16]) (by kernel_rfl) (by simp) ?_
        refine (AllReadyH.cons rfl (fun K hK => ?_) AllReadyH.nil)
        have o0 := B3.out.c0; have p0 := B3.out.fz 0; have o1 := B3.out.c1; have p1 := B3.out.fz 1
        go_simp; clear o0 p0 o1 p1
        obtain ⟨B3, B4, RZ, HB⟩ := stK B3.out B4.out RZ.out HB.out N34.out D3.out L3.out (.slice e.oa e.os.length e.oc) (.func (.func 105) #[] #[])
        refine hK.out _ _ (HS.out _ HB.out) (fun _ => ?_); clear hK K
        refine wpAnyH_ready (rs := [17]) (by kernel_rfl) (by simp) ?_
        refine (AllReadyH.cons rfl (fun K hK => ?_) AllReadyH.nil)
        have o0 := B4.out.c0; have p0 := B4.out.fz 0; have o1 := B4.out.c1; have p1 := B4.out.fz 1
        go_simp; clear o0 p0 o1 p1
        obtain ⟨B4, B3, RZ, HB⟩ := stK B4.out B3.out RZ.out HB.out N34.out.symm D4.out L4.out (.slice a1 n1 c1) (.func (.func 105) #[] #[])
        refine hK.out _ _ (HS.out _ HB.out) (fun _ => ?_); clear hK K
        refine wpAnyH_done (by kernel_rfl) ?_ _
        go_wp2; go_meet
        exact ⟨_, _, a1, c1, n1, rfl, rfl, B3, B4, HN, GRow.row2 RZ.out HN.out, HB⟩
    ·go_simp
     obtain ⟨hb, B3, L3⟩ := alK HB.out
     have N34 := hide (Nat.ne_of_gt B4.out.lt)
     replace HB := hide (btr HB.out hb)
     replace RS := hide (RS.out.below hb)
     replace B4 := hide (B4.out.below hb); clear hb
     generalize (v1.alloc (.cells #[.slice none 0 0, .nilFunc] 102)) = v2 at *
     refine hK.out _ _ (HS.out _ HB.out) (fun _ => ?_); clear hK K
     refine wpAnyH_ready (rs := [2]) (by kernel_rfl) (by simp) ?_
     refine (AllReadyH.cons rfl (fun K hK => ?_) AllReadyH.nil)
     ·go_simp; go_wp2_with fail
      refine (CI.out _).mono ?_
      rintro ex v3 ⟨rfl, hb⟩
      replace HB := hide (btr HB.out hb)
      replace RS := hide (RS.out.below hb)
      replace B3 := hide (B3.out.below hb)
      replace B4 := hide (B4.out.below hb); clear hb
      go_wp2_with fail
      refine hK.out _ _ (HS.out _ HB.out) (fun _ => ?_); clear hK K
      refine wpAnyH_ready (rs := [12]) (by kernel_rfl) (by simp) ?_
      refine (AllReadyH.cons rfl (fun K hK => ?_) AllReadyH.nil)
      ·go_simp; go_wp2_with fail
       refine (CC.out _ _ HB.out RS.out).mono ?_
       rintro ex v4 ⟨a1, c1, n1, rfl, hn, ho, hb⟩
       have HN := hide hn; have RZ := hide (Lies.of ho); have UZ := hide (Nat.le_refl v4.heap.size)
       have D3 := hide (djb B3.out RZ.out)
       have D4 := hide (djb B4.out RZ.out); clear ho hn
       replace HB := hide (btr HB.out hb)
       replace RS := hide (RS.out.below hb)
       replace B3 := hide (B3.out.below hb)
       replace B4 := hide (B4.out.below hb); clear hb
       go_wp2_with fail
       refine hK.out _ _ (HS.out _ HB.out) (fun _ => ?_); clear hK K
       refine wpAnyH_ready (rs := [13]) (by kernel_rfl) (by simp) ?_
       refine (AllReadyH.cons rfl (fun K hK => ?_) AllReadyH.nil)
       ·go_simp; go_wp2_with fail
        refine (by42 a1 c1 n1 _).mono ?_
        rintro ex v5 ⟨rfl, hb⟩
        replace HB := hide (btr HB.out hb)
        replace RZ := hide (RZ.out.below hb)
        replace UZ := hide (Nat.le_trans UZ.out hb.size)
        replace B3 := hide (B3.out.below hb)
        replace B4 := hide (B4.out.below hb); clear hb
        go_wp2_with fail
        refine hK.out _ _ (HS.out _ HB.out) (fun _ => ?_); clear hK K
        refine wpAnyH_ready (rs := [16]) (by kernel_rfl) (by simp) ?_
        refine (AllReadyH.cons rfl (fun K hK => ?_) AllReadyH.nil)
        have o0 := B3.out.c0; have p0 := B3.out.fz 0; have o1 := B3.out.c1; have p1 := B3.out.fz 1
        go_simp; clear o0 p0 o1 p1
        obtain ⟨B3, B4, RZ, HB⟩ := stK B3.out B4.out RZ.out HB.out N34.out D3.out L3.out (.slice e.oa e.os.length e.oc) (.func (.func 105) #[] #[])
        refine hK.out _ _ (HS.out _ HB.out) (fun _ => ?_); clear hK K
        refine wpAnyH_ready (rs := [17]) (by kernel_rfl) (by simp) ?_
        refine (AllReadyH.cons rfl (fun K hK => ?_) AllReadyH.nil)
        have o0 := B4.out.c0; have p0 := B4.out.fz 0; have o1 := B4.out.c1; have p1 := B4.out.fz 1
        go_simp; clear o0 p0 o1 p1
        obtain ⟨B4, B3, RZ, HB⟩ := stK B4.out B3.out RZ.out HB.out N34.out.symm D4.out L4.out (.slice a1 n1 c1) (.func (.func 105) #[] #[])
        refine hK.out _ _ (HS.out _ HB.out) (fun _ => ?_); clear hK K
        refine wpAnyH_done (by kernel_rfl) ?_ _
        go_wp2; go_meet
        exact ⟨_, _, a1, c1, n1, rfl, rfl, B3, B4, HN, GRow.row2 RZ.out HN.out, HB⟩
  ·go_simp
   obtain ⟨hb, B3, L3⟩ := alK HB.out
   replace HB := hide (btr HB.out hb); clear hb
   generalize (vd.alloc (.cells #[.slice none 0 0, .nilFunc] 102)) = v0 at *
   refine hK.out _ _ (HS.out _ HB.out) (fun _ => ?_); clear hK K
   refine wpAnyH_ready (rs := [2, 11, 15]) (by kernel_rfl) (by simp) ?_
   refine (AllReadyH.cons rfl (fun K hK => ?_) (AllReadyH.cons rfl (fun K hK => ?_) (AllReadyH.cons rfl (fun K hK => ?_) AllReadyH.nil)))
   ·as_aux_lemma =>
    go_simp; go_wp2_with fail
    refine (CI.out _).mono ?_
    rintro ex v1 ⟨rfl, hb⟩
    replace HB := hide (btr HB.out hb)
    replace B3 := hide (B3.out.below hb); clear hb
    go_wp2_with fail
    refine hK.out _ _ (HS.out _ HB.out) (fun _ => ?_); clear hK K
    refine wpAnyH_ready (rs := [11, 15]) (by kernel_rfl) (by simp) ?_
    refine (AllReadyH.cons rfl (fun K hK => ?_) (AllReadyH.cons rfl (fun K hK => ?_) AllReadyH.nil))
    ·go_simp
     obtain ⟨hb, RS⟩ := al11 e HB.out; replace RS := hide RS
     replace HB := hide (btr HB.out hb)
     replace B3 := hide (B3.out.below hb); clear hb
     generalize (v1.alloc (.cells #[.slice e.b.pa e.b.ps.length e.b.pc, .slice e.b.qa e.b.qs.length e.b.qc, .slice e.oa e.os.length e.oc] 31)) = v2 at *
     refine hK.out _ _ (HS.out _ HB.out) (fun _ => ?_); clear hK K
     refine wpAnyH_ready (rs := [12, 15]) (by kernel_rfl) (by simp) ?_
     refine (AllReadyH.cons rfl (fun K hK => ?_) (AllReadyH.cons rfl (fun K hK => ?_) AllReadyH.nil))
     ·go_simp; go_wp2_with fail
      refine (CC.out _ _ HB.out RS.out).mono ?_
      rintro ex v3 ⟨a1, c1, n1, rfl, hn, ho, hb⟩
      have HN := hide hn; have RZ := hide (Lies.of ho); have UZ := hide (Nat.le_refl v3.heap.size)
      have D3 := hide (djb B3.out RZ.out); clear ho hn
      replace HB := hide (btr HB.out hb)
      replace RS := hide (RS.out.below hb)
      replace B3 := hide (B3.out.below hb); clear hb
      go_wp2_with fail
      refine hK.out _ _ (HS.out _ HB.out) (fun _ => ?_); clear hK K
      refine wpAnyH_ready (rs := [13, 15]) (by kernel_rfl) (by simp) ?_
      refine (AllReadyH.cons rfl (fun K hK => ?_) (AllReadyH.cons rfl (fun K hK => ?_) AllReadyH.nil))
      ·go_simp; go_wp2_with fail
       refine (by42 a1 c1 n1 _).mono ?_
       rintro ex v4 ⟨rfl, hb⟩
       replace HB := hide (btr HB.out hb)
       replace RZ := hide (RZ.out.below hb)
       replace UZ := hide (Nat.le_trans UZ.out hb.size)
       replace B3 := hide (B3.out.below hb); clear hb
       go_wp2_with fail
       refine hK.out _ _ (HS.out _ HB.out) (fun _ => ?_); clear hK K
       refine wpAnyH_ready (rs := [15]) (by kernel_rfl) (by simp) ?_
       refine (AllReadyH.cons rfl (fun K hK => ?_) AllReadyH.nil)
       ·go_simp
        obtain ⟨hb, B4, L4⟩ := alK HB.out
        have D4 := hide (djr RZ.out UZ.out)
        have N34 := hide (Nat.ne_of_lt B3.out.lt)
        replace HB := hide (btr HB.out hb)
        replace RZ := hide (RZ.out.below hb)
        replace UZ := hide (Nat.le_trans UZ.out hb.size)
        replace B3 := hide (B3.out.below hb); clear hb
        generalize (v4.alloc (.cells #[.slice none 0 0, .nilFunc] 102)) = v5 at *
        refine hK.out _ _ (HS.out _ HB.out) (fun _ => ?_); clear hK K
        refine wpAnyH_ready (rs := [16]) (by kernel_rfl) (by simp) ?_
        refine (AllReadyH.cons rfl (fun K hK => ?_) AllReadyH.nil)
        have o0 := B3.out.c0; have p0 := B3.out.fz 0; have o1 := B3.out.c1; have p1 := B3.out.fz 1
        go_simp; clear o0 p0 o1 p1
        obtain ⟨B3, B4, RZ, HB⟩ := stK B3.out B4.out RZ.out HB.out N34.out D3.out L3.out (.slice e.oa e.os.length e.oc) (.func (.func 105) #[] #[])
        refine hK.out _ _ (HS.out _ HB.out) (fun _ => ?_); clear hK K
        refine wpAnyH_ready (rs := [17]) (by kernel_rfl) (by simp) ?_
        refine (AllReadyH.cons rfl (fun K hK => ?_) AllReadyH.nil)
        have o0 := B4.out.c0; have p0 := B4.out.fz 0; have o1 := B4.out.c1; have p1 := B4.out.fz 1
        go_simp; clear o0 p0 o1 p1
        obtain ⟨B4, B3, RZ, HB⟩ := stK B4.out B3.out RZ.out HB.out N34.out.symm D4.out L4.out (.slice a1 n1 c1) (.func (.func 105) #[] #[])
        refine hK.out _ _ (HS.out _ HB.out) (fun _ => ?_); clear hK K
        refine wpAnyH_done (by kernel_rfl) ?_ _
        go_wp2; go_meet
        exact ⟨_, _, a1, c1, n1, rfl, rfl, B3, B4, HN, GRow.row2 RZ.out HN.out, HB⟩
      ·go_simp
       obtain ⟨hb, B4, L4⟩ := alK HB.out
       have D4 := hide (djr RZ.out UZ.out)
       have N34 := hide (Nat.ne_of_lt B3.out.lt)
       replace HB := hide (btr HB.out hb)
       replace RZ := hide (RZ.out.below hb)
       replace UZ := hide (Nat.le_trans UZ.out hb.size)
       replace B3 := hide (B3.out.below hb); clear hb
       generalize (v3.alloc (.cells #[.slice none 0 0, .nilFunc] 102)) = v4 at *
       refine hK.out _ _ (HS.out _ HB.out) (fun _ => ?_); clear hK K
       refine wpAnyH_ready (rs := [13]) (by kernel_rfl) (by simp) ?_
       refine (AllReadyH.cons rfl (fun K hK => ?_) AllReadyH.nil)
       ·go_simp; go_wp2_with fail
        refine (by42 a1 c1 n1 _).mono ?_
        rintro ex v5 ⟨rfl, hb⟩
        replace HB := hide (btr HB.out hb)
        replace RZ := hide (RZ.out.below hb)
        replace UZ := hide (Nat.le_trans UZ.out hb.size)
        replace B3 := hide (B3.out.below hb)
        replace B4 := hide (B4.out.below hb); clear hb
        go_wp2_with fail
        refine hK.out _ _ (HS.out _ HB.out) (fun _ => ?_); clear hK K
        refine wpAnyH_ready (rs := [16]) (by kernel_rfl) (by simp) ?_
        refine (AllReadyH.cons rfl (fun K hK => ?_) AllReadyH.nil)
        have o0 := B3.out.c0; have p0 := B3.out.fz 0; have o1 := B3.out.c1; have p1 := B3.out.fz 1
        go_simp; clear o0 p0 o1 p1
        obtain ⟨B3, B4, RZ, HB⟩ := stK B3.out B4.out RZ.out HB.out N34.out D3.out L3.out (.slice e.oa e.os.length e.oc) (.func (.func 105) #[] #[])
        refine hK.out _ _ (HS.out _ HB.out) (fun _ => ?_); clear hK K
        refine wpAnyH_ready (rs := [17]) (by kernel_rfl) (by simp) ?_
        refine (AllReadyH.cons rfl (fun K hK => ?_) AllReadyH.nil)
        have o0 := B4.out.c0; have p0 := B4.out.fz 0; have o1 := B4.out.c1; have p1 := B4.out.fz 1
        go_simp; clear o0 p0 o1 p1
        obtain ⟨B4, B3, RZ, HB⟩ := stK B4.out B3.out RZ.out HB.out N34.out.symm D4.out L4.out (.slice a1 n1 c1) (.func (.func 105) #[] #[])
        refine hK.out _ _ (HS.out _ HB.out) (fun _ => ?_); clear hK K
        refine wpAnyH_done (by kernel_rfl) ?_ _
        go_wp2; go_meet
        exact ⟨_, _, a1, c1, n1, rfl, rfl, B3, B4, HN, GRow.row2 RZ.out HN.out, HB⟩
     ·go_simp
      obtain ⟨hb, B4, L4⟩ := alK HB.out
      have N34 := hide (Nat.ne_of_lt B3.out.lt)
      replace HB := hide (btr HB.out hb)
      replace RS := hide (RS.out.below hb)
      replace B3 := hide (B3.out.below hb); clear hb
      generalize (v2.alloc (.cells #[.slice none 0 0, .nilFunc] 102)) = v3 at *
      refine hK.out _ _ (HS.out _ HB.out) (fun _ => ?_); clear hK K
      refine wpAnyH_ready (rs := [12]) (by kernel_rfl) (by simp) ?_
      refine (AllReadyH.cons rfl (fun K hK => ?_) AllReadyH.nil)
      ·go_simp; go_wp2_with fail
       refine (CC.out _ _ HB.out RS.out).mono ?_
       rintro ex v4 ⟨a1, c1, n1, rfl, hn, ho, hb⟩
       have HN := hide hn; have RZ := hide (Lies.of ho); have UZ := hide (Nat.le_refl v4.heap.size)
       have D3 := hide (djb B3.out RZ.out)
       have D4 := hide (djb B4.out RZ.out); clear ho hn
       replace HB := hide (btr HB.out hb)
       replace RS := hide (RS.out.below hb)
       replace B3 := hide (B3.out.below hb)
       replace B4 := hide (B4.out.below hb); clear hb
       go_wp2_with fail
       refine hK.out _ _ (HS.out _ HB.out) (fun _ => ?_); clear hK K
       refine wpAnyH_ready (rs := [13]) (by kernel_rfl) (by simp) ?_
       refine (AllReadyH.cons rfl (fun K hK => ?_) AllReadyH.nil)
       ·go_simp; go_wp2_with fail
        refine (by42 a1 c1 n1 _).mono ?_
        rintro ex v5 ⟨rfl, hb⟩
        replace HB := hide (btr HB.out hb)
        replace RZ := hide (RZ.out.below hb)
        replace UZ := hide (Nat.le_trans UZ.out hb.size)
        replace B3 := hide (B3.out.below hb)
        replace B4 := hide (B4.out.below hb); clear hb
        go_wp2_with fail
        refine hK.out _ _ (HS.out _ HB.out) (fun _ => ?_); clear hK K
        refine wpAnyH_ready (rs := [16]) (by kernel_rfl) (by simp) ?_
        refine (AllReadyH.cons rfl (fun K hK => ?_) AllReadyH.nil)
        have o0 := B3.out.c0; have p0 := B3.out.fz 0; have o1 := B3.out.c1; have p1 := B3.out.fz 1
        go_simp; clear o0 p0 o1 p1
        obtain ⟨B3, B4, RZ, HB⟩ := stK B3.out B4.out RZ.out HB.out N34.out D3.out L3.out (.slice e.oa e.os.length e.oc) (.func (.func 105) #[] #[])
        refine hK.out _ _ (HS.out _ HB.out) (fun _ => ?_); clear hK K
        refine wpAnyH_ready (rs := [17]) (by kernel_rfl) (by simp) ?_
        refine (AllReadyH.cons rfl (fun K hK => ?_) AllReadyH.nil)
        have o0 := B4.out.c0; have p0 := B4.out.fz 0; have o1 := B4.out.c1; have p1 := B4.out.fz 1
        go_simp; clear o0 p0 o1 p1
        obtain ⟨B4, B3, RZ, HB⟩ := stK B4.out B3.out RZ.out HB.out N34.out.symm D4.out L4.out (.slice a1 n1 c1) (.func (.func 105) #[] #[])
        refine hK.out _ _ (HS.out _ HB.out) (fun _ => ?_); clear hK K
        refine wpAnyH_done (by kernel_rfl) ?_ _
        go_wp2; go_meet
        exact ⟨_, _, a1, c1, n1, rfl, rfl, B3, B4, HN, GRow.row2 RZ.out HN.out, HB⟩
    ·go_simp
     obtain ⟨hb, B4, L4⟩ := alK HB.out
     have N34 := hide (Nat.ne_of_lt B3.out.lt)
     replace HB := hide (btr HB.out hb)
     replace B3 := hide (B3.out.below hb); clear hb
     generalize (v1.alloc (.cells #[.slice none 0 0, .nilFunc] 102)) = v2 at *
     refine hK.out _ _ (HS.out _ HB.out) (fun _ => ?_); clear hK K
     refine wpAnyH_ready (rs := [11]) (by kernel_rfl) (by simp) ?_
     refine (AllReadyH.cons rfl (fun K hK => ?_) AllReadyH.nil)
     ·go_simp
      obtain ⟨hb, RS⟩ := al11 e HB.out; replace RS := hide RS
      replace HB := hide (btr HB.out hb)
      replace B3 := hide (B3.out.below hb)
      replace B4 := hide (B4.out.below hb); clear hb
      generalize (v2.alloc (.cells #[.slice e.b.pa e.b.ps.length e.b.pc, .slice e.b.qa e.b.qs.length e.b.qc, .slice e.oa e.os.length e.oc] 31)) = v3 at *
      refine hK.out _ _ (HS.out _ HB.out) (fun _ => ?_); clear hK K
      refine wpAnyH_ready (rs := [12]) (by kernel_rfl) (by simp) ?_
      refine (AllReadyH.cons rfl (fun K hK => ?_) AllReadyH.nil)
      ·go_simp; go_wp2_with fail
       refine (CC.out _ _ HB.out RS.out).mono ?_
       rintro ex v4 ⟨a1, c1, n1, rfl, hn, ho, hb⟩
       have HN := hide hn; have RZ := hide (Lies.of ho); have UZ := hide (Nat.le_refl v4.heap.size)
       have D3 := hide (djb B3.out RZ.out)
       have D4 := hide (djb B4.out RZ.out); clear ho hn
       replace HB := hide (btr HB.out hb)
       replace RS := hide (RS.out.below hb)
       replace B3 := hide (B3.out.below hb)
       replace B4 := hide (B4.out.below hb); clear hb
       go_wp2_with fail
       refine hK.out _ _ (HS.out _ HB.out) (fun _ => ?_); clear hK K
       refine wpAnyH_ready (rs := [13]) (by kernel_rfl) (by simp) ?_
       refine (AllReadyH.cons rfl (fun K hK => ?_) AllReadyH.nil)
       ·go_simp; go_wp2_with fail
        refine (by42 a1 c1 n1 _).mono ?_
        rintro ex v5 ⟨rfl, hb⟩
        replace HB := hide (btr HB.out hb)
        replace RZ := hide (RZ.out.below hb)
        replace UZ := hide (Nat.le_trans UZ.out hb.size)
        replace B3 := hide (B3.out.below hb)
        replace B4 := hide (B4.out.below hb); clear hb
        go_wp2_with fail
        refine hK.out _ _ (HS.out _ HB.out) (fun _ => ?_); clear hK K
        refine wpAnyH_ready (rs := [16]) (by kernel_rfl) (by simp) ?_
        refine (AllReadyH.cons rfl (fun K hK => ?_) AllReadyH.nil)
        have o0 := B3.out.c0; have p0 := B3.out.fz 0; have o1 := B3.out.c1; have p1 := B3.out.fz 1
        go_simp; clear o0 p0 o1 p1
        obtain ⟨B3, B4, RZ, HB⟩ := stK B3.out B4.out RZ.out HB.out N34.out D3.out L3.out (.slice e.oa e.os.length e.oc) (.func (.func 105) #[] #[])
        refine hK.out _ _ (HS.out _ HB.out) (fun _ => ?_); clear hK K
        refine wpAnyH_ready (rs := [17]) (by kernel_rfl) (by simp) ?_
        refine (AllReadyH.cons rfl (fun K hK => ?_) AllReadyH.nil)
        have o0 := B4.out.c0; have p0 := B4.out.fz 0; have o1 := B4.out.c1; have p1 := B4.out.fz 1
        go_simp; clear o0 p0 o1 p1
        obtain ⟨B4, B3, RZ, HB⟩ := stK B4.out B3.out RZ.out HB.out N34.out.symm D4.out L4.out (.slice a1 n1 c1) (.func (.func 105) #[] #[])
        refine hK.out _ _ (HS.out _ HB.out) (fun _ => ?_); clear hK K
        refine wpAnyH_done (by kernel_rfl) ?_ _
        go_wp2; go_meet
        exact ⟨_, _, a1, c1, n1, rfl, rfl, B3, B4, HN, GRow.row2 RZ.out HN.out, HB⟩
   ·as_aux_lemma =>
    go_simp
    obtain ⟨hb, RS⟩ := al11 e HB.out; replace RS := hide RS
    replace HB := hide (btr HB.out hb)
    replace B3 := hide (B3.out.below hb); clear hb
    generalize (v0.alloc (.cells #[.slice e.b.pa e.b.ps.length e.b.pc, .slice e.b.qa e.b.qs.length e.b.qc, .slice e.oa e.os.length e.oc] 31)) = v1 at *
    refine hK.out _ _ (HS.out _ HB.out) (fun _ => ?_); clear hK K
    refine wpAnyH_ready (rs := [2, 15]) (by kernel_rfl) (by simp) ?_
    refine (AllReadyH.cons rfl (fun K hK => ?_) (AllReadyH.cons rfl (fun K hK => ?_) AllReadyH.nil))
    ·go_simp; go_wp2_with fail
     refine (CI.out _).mono ?_
     rintro ex v2 ⟨rfl, hb⟩
     replace HB := hide (btr HB.out hb)
     replace RS := hide (RS.out.below hb)
     replace B3 := hide (B3.out.below hb); clear hb
     go_wp2_with fail
     refine hK.out _ _ (HS.out _ HB.out) (fun _ => ?_); clear hK K
     refine wpAnyH_ready (rs := [12, 15]) (by kernel_rfl) (by simp) ?_
     refine (AllReadyH.cons rfl (fun K hK => ?_) (AllReadyH.cons rfl (fun K hK => ?_) AllReadyH.nil))
     ·go_simp; go_wp2_with fail
      refine (CC.out _ _ HB.out RS.out).mono ?_
      rintro ex v3 ⟨a1, c1, n1, rfl, hn, ho, hb⟩
      have HN := hide hn; have RZ := hide (Lies.of ho); have UZ := hide (Nat.le_refl v3.heap.size)
      have D3 := hide (djb B3.out RZ.out); clear ho hn
      replace HB := hide (btr HB.out hb)
      replace RS := hide (RS.out.below hb)
      replace B3 := hide (B3.out.below hb); clear hb
      go_wp2_with fail
      refine hK.out _ _ (HS.out _ HB.out) (fun _ => ?_); clear hK K
      refine wpAnyH_ready (rs := [13, 15]) (by kernel_rfl) (by simp) ?_
      refine (AllReadyH.cons rfl (fun K hK => ?_) (AllReadyH.cons rfl (fun K hK => ?_) AllReadyH.nil))
      ·go_simp; go_wp2_with fail
       refine (by42 a1 c1 n1 _).mono ?_
       rintro ex v4 ⟨rfl, hb⟩
       replace HB := hide (btr HB.out hb)
       replace RZ := hide (RZ.out.below hb)
       replace UZ := hide (Nat.le_trans UZ.out hb.size)
       replace B3 := hide (B3.out.below hb); clear hb
       go_wp2_with fail
       refine hK.out _ _ (HS.out _ HB.out) (fun _ => ?_); clear hK K
       refine wpAnyH_ready (rs := [15]) (by kernel_rfl) (by simp) ?_
       refine (AllReadyH.cons rfl (fun K hK => ?_) AllReadyH.nil)
       ·go_simp
        obtain ⟨hb, B4, L4⟩ := alK HB.out
        have D4 := hide (djr RZ.out UZ.out)
        have N34 := hide (Nat.ne_of_lt B3.out.lt)
        replace HB := hide (btr HB.out hb)
        replace RZ := hide (RZ.out.below hb)
        replace UZ := hide (Nat.le_trans UZ.out hb.size)
        replace B3 := hide (B3.out.below hb); clear hb
        generalize (v4.alloc (.cells #[.slice none 0 0, .nilFunc] 102)) = v5 at *
        refine hK.out _ _ (HS.out _ HB.out) (fun _ => ?_); clear hK K
        refine wpAnyH_ready (rs := [16]) (by kernel_rfl) (by simp) ?_
        refine (AllReadyH.cons rfl (fun K hK => ?_) AllReadyH.nil)
        have o0 := B3.out.c0; have p0 := B3.out.fz 0; have o1 := B3.out.c1; have p1 := B3.out.fz 1
        go_simp; clear o0 p0 o1 p1
        obtain ⟨B3, B4, RZ, HB⟩ := stK B3.out B4.out RZ.out HB.out N34.out D3.out L3.out (.slice e.oa e.os.length e.oc) (.func (.func 105) #[] #[])
        refine hK.out _ _ (HS.out _ HB.out) (fun _ => ?_); clear hK K
        refine wpAnyH_ready (rs := [17]) (by kernel_rfl) (by simp) ?_
        refine (AllReadyH.cons rfl (fun K hK => ?_) AllReadyH.nil)
        have o0 := B4.out.c0; have p0 := B4.out.fz 0; have o1 := B4.out.c1; have p1 := B4.out.fz 1
        go_simp; clear o0 p0 o1 p1
        obtain ⟨B4, B3, RZ, HB⟩ := stK B4.out B3.out RZ.out HB.out N34.out.symm D4.out L4.out (.slice a1 n1 c1) (.func (.func 105) #[] #[])
        refine hK.out _ _ (HS.out _ HB.out) (fun _ => ?_); clear hK K
        refine wpAnyH_done (by kernel_rfl) ?_ _
        go_wp2; go_meet
        exact ⟨_, _, a1, c1, n1, rfl, rfl, B3, B4, HN, GRow.row2 RZ.out HN.out, HB⟩
      ·go_simp
       obtain ⟨hb, B4, L4⟩ := alK HB.out
       have D4 := hide (djr RZ.out UZ.out)
       have N34 := hide (Nat.ne_of_lt B3.out.lt)
       replace HB := hide (btr HB.out hb)
       replace RZ := hide (RZ.out.below hb)
       replace UZ := hide (Nat.le_trans UZ.out hb.size)
       replace B3 := hide (B3.out.below hb); clear hb
       generalize (v3.alloc (.cells #[.slice none 0 0, .nilFunc] 102)) = v4 at *
       refine hK.out _ _ (HS.out _ HB.out) (fun _ => ?_); clear hK K
       refine wpAnyH_ready (rs := [13]) (by kernel_rfl) (by simp) ?_
       refine (AllReadyH.cons rfl (fun K hK => ?_) AllReadyH.nil)
       ·go_simp; go_wp2_with fail
        refine (by42 a1 c1 n1 _).mono ?_
        rintro ex v5 ⟨rfl, hb⟩
        replace HB := hide (btr HB.out hb)
        replace RZ := hide (RZ.out.below hb)
        replace UZ := hide (Nat.le_trans UZ.out hb.size)
        replace B3 := hide (B3.out.below hb)
        replace B4 := hide (B4.out.below hb); clear hb
        go_wp2_with fail
        refine hK.out _ _ (HS.out _ HB.out) (fun _ => ?_); clear hK K
        refine wpAnyH_ready (rs := [16]) (by kernel_rfl) (by simp) ?_
        refine (AllReadyH.cons rfl (fun K hK => ?_) AllReadyH.nil)
        have o0 := B3.out.c0; have p0 := B3.out.fz 0; have o1 := B3.out.c1; have p1 := B3.out.fz 1
        go_simp; clear o0 p0 o1 p1
        obtain ⟨B3, B4, RZ, HB⟩ := stK B3.out B4.out RZ.out HB.out N34.out D3.out L3.out (.slice e.oa e.os.length e.oc) (.func (.func 105) #[] #[])
        refine hK.out _ _ (HS.out _ HB.out) (fun _ => ?_); clear hK K
        refine wpAnyH_ready (rs := [17]) (by kernel_rfl) (by simp) ?_
        refine (AllReadyH.cons rfl (fun K hK => ?_) AllReadyH.nil)
        have o0 := B4.out.c0; have p0 := B4.out.fz 0; have o1 := B4.out.c1; have p1 := B4.out.fz 1
        go_simp; clear o0 p0 o1 p1
        obtain ⟨B4, B3, RZ, HB⟩ := stK B4.out B3.out RZ.out HB.out N34.out.symm D4.out L4.out (.slice a1 n1 c1) (.func (.func 105) #[] #[])
        refine hK.out _ _ (HS.out _ HB.out) (fun _ => ?_); clear hK K
        refine wpAnyH_done (by kernel_rfl) ?_ _
        go_wp2; go_meet
        exact ⟨_, _, a1, c1, n1, rfl, rfl, B3, B4, HN, GRow.row2 RZ.out HN.out, HB⟩
     ·go_simp
      obtain ⟨hb, B4, L4⟩ := alK HB.out
      have N34 := hide (Nat.ne_of_lt B3.out.lt)
      replace HB := hide (btr HB.out hb)
      replace RS := hide (RS.out.below hb)
      replace B3 := hide (B3.out.below hb); clear hb
      generalize (v2.alloc (.cells #[.slice none 0 0, .nilFunc] 102)) = v3 at *
      refine hK.out _ _ (HS.out _ HB.out) (fun _ => ?_); clear hK K
      refine wpAnyH_ready (rs := [12]) (by kernel_rfl) (by simp) ?_
      refine (AllReadyH.cons rfl (fun K hK => ?_) AllReadyH.nil)
      ·go_simp; go_wp2_with fail
       refine (CC.out _ _ HB.out RS.out).mono ?_
       rintro ex v4 ⟨a1, c1, n1, rfl, hn, ho, hb⟩
       have HN := hide hn; have RZ := hide (Lies.of ho); have UZ := hide (Nat.le_refl v4.heap.size)
       have D3 := hide (djb B3.out RZ.out)
       have D4 := hide (djb B4.out RZ.out); clear ho hn
       replace HB := hide (btr HB.out hb)
       replace RS := hide (RS.out.below hb)
       replace B3 := hide (B3.out.below hb)
       replace B4 := hide (B4.out.below hb); clear hb
       go_wp2_with fail
       refine hK.out _ _ (HS.out _ HB.out) (fun _ => ?_); clear hK K
       refine wpAnyH_ready (rs := [13]) (by kernel_rfl) (by simp) ?_
       refine (AllReadyH.cons rfl (fun K hK => ?_) AllReadyH.nil)
       ·go_simp; go_wp2_with fail
        refine (by42 a1 c1 n1 _).mono ?_
        rintro ex v5 ⟨rfl, hb⟩
        replace HB := hide (btr HB.out hb)
        replace RZ := hide (RZ.out.below hb)
        replace UZ := hide (Nat.le_trans UZ.out hb.size)
        replace B3 := hide (B3.out.below hb)
        replace B4 := hide (B4.out.below hb); clear hb
        go_wp2_with fail
        refine hK.out _ _ (HS.out _ HB.out) (fun _ => ?_); clear hK K
        refine wpAnyH_ready (rs := [16]) (by kernel_rfl) (by simp) ?_
        refine (AllReadyH.cons rfl (fun K hK => ?_) AllReadyH.nil)
        have o0 := B3.out.c0; have p0 := B3.out.fz 0; have o1 := B3.out.c1; have p1 := B3.out.fz 1
        go_simp; clear o0 p0 o1 p1
        obtain ⟨B3, B4, RZ, HB⟩ := stK B3.out B4.out RZ.out HB.out N34.out D3.out L3.out (.slice e.oa e.os.length e.oc) (.func (.func 105) #[] #[])
        refine hK.out _ _ (HS.out _ HB.out) (fun _ => ?_); clear hK K
        refine wpAnyH_ready (rs := [17]) (by kernel_rfl) (by simp) ?_
        refine (AllReadyH.cons rfl (fun K hK => ?_) AllReadyH.nil)
        have o0 := B4.out.c0; have p0 := B4.out.fz 0; have o1 := B4.out.c1; have p1 := B4.out.fz 1
        go_simp; clear o0 p0 o1 p1
        obtain ⟨B4, B3, RZ, HB⟩ := stK B4.out B3.out RZ.out HB.out N34.out.symm D4.out L4.out (.slice a1 n1 c1) (.func (.func 105) #[] #[])
        refine hK.out _ _ (HS.out _ HB.out) (fun _ => ?_); clear hK K
        refine wpAnyH_done (by kernel_rfl) ?_ _
        go_wp2; go_meet
        exact ⟨_, _, a1, c1, n1, rfl, rfl, B3, B4, HN, GRow.row2 RZ.out HN.out, HB⟩
    ·go_simp
     obtain ⟨hb, B4, L4⟩ := alK HB.out
     have N34 := hide (Nat.ne_of_lt B3.out.lt)
     replace HB := hide (btr HB.out hb)
     replace RS := hide (RS.out.below hb)
     replace B3 := hide (B3.out.below hb); clear hb
     generalize (v1.alloc (.cells #[.slice none 0 0, .nilFunc] 102)) = v2 at *
     refine hK.out _ _ (HS.out _ HB.out) (fun _ => ?_); clear hK K
     refine wpAnyH_ready (rs := [2]) (by kernel_rfl) (by simp) ?_
     refine (AllReadyH.cons rfl (fun K hK => ?_) AllReadyH.nil)
     ·go_simp; go_wp2_with fail
      refine (CI.out _).mono ?_
      rintro ex v3 ⟨rfl, hb⟩
      replace HB := hide (btr HB.out hb)
      replace RS := hide (RS.out.below hb)
      replace B3 := hide (B3.out.below hb)
      replace B4 := hide (B4.out.below hb); clear hb
      go_wp2_with fail
      refine hK.out _ _ (HS.out _ HB.out) (fun _ => ?_); clear hK K
      refine wpAnyH_ready (rs := [12]) (by kernel_rfl) (by simp) ?_
      refine (AllReadyH.cons rfl (fun K hK => ?_) AllReadyH.nil)
      ·go_simp; go_wp2_with fail
       refine (CC.out _ _ HB.out RS.out).mono ?_
       rintro ex v4 ⟨a1, c1, n1, rfl, hn, ho, hb⟩
       have HN := hide hn; have RZ := hide (Lies.of ho); have UZ := hide (Nat.le_refl v4.heap.size)
       have D3 := hide (djb B3.out RZ.out)
       have D4 := hide (djb B4.out RZ.out); clear ho hn
       replace HB := hide (btr HB.out hb)
       replace RS := hide (RS.out.below hb)
       replace B3 := hide (B3.out.below hb)
       replace B4 := hide (B4.out.below hb); clear hb
       go_wp2_with fail
       refine hK.out _ _ (HS.out _ HB.out) (fun _ => ?_); clear hK K
       refine wpAnyH_ready (rs := [13]) (by kernel_rfl) (by simp) ?_
       refine (AllReadyH.cons rfl (fun K hK => ?_) AllReadyH.nil)
       ·go_simp; go_wp2_with fail
        refine (by42 a1 c1 n1 _).mono ?_
        rintro ex v5 ⟨rfl, hb⟩
        replace HB := hide (btr HB.out hb)
        replace RZ := hide (RZ.out.below hb)
        replace UZ := hide (Nat.le_trans UZ.out hb.size)
        replace B3 := hide (B3.out.below hb)
        replace B4 := hide (B4.out.below hb); clear hb
        go_wp2_with fail
        refine hK.out _ _ (HS.out _ HB.out) (fun _ => ?_); clear hK K
        refine wpAnyH_ready (rs := [16]) (by kernel_rfl) (by simp) ?_
        refine (AllReadyH.cons rfl (fun K hK => ?_) AllReadyH.nil)
        have o0 := B3.out.c0; have p0 := B3.out.fz 0; have o1 := B3.out.c1; have p1 := B3.out.fz 1
        go_simp; clear o0 p0 o1 p1
        obtain ⟨B3, B4, RZ, HB⟩ := stK B3.out B4.out RZ.out HB.out N34.out D3.out L3.out (.slice e.oa e.os.length e.oc) (.func (.func 105) #[] #[])
        refine hK.out _ _ (HS.out _ HB.out) (fun _ => ?_); clear hK K
        refine wpAnyH_ready (rs := [17]) (by kernel_rfl) (by simp) ?_
        refine (AllReadyH.cons rfl (fun K hK => ?_) AllReadyH.nil)
        have o0 := B4.out.c0; have p0 := B4.out.fz 0; have o1 := B4.out.c1; have p1 := B4.out.fz 1
        go_simp; clear o0 p0 o1 p1
        obtain ⟨B4, B3, RZ, HB⟩ := stK B4.out B3.out RZ.out HB.out N34.out.symm D4.out L4.out (.slice a1 n1 c1) (.func (.func 105) #[] #[])
        refine hK.out _ _ (HS.out _ HB.out) (fun _ => ?_); clear hK K
        refine wpAnyH_done (by kernel_rfl) ?_ _
        go_wp2; go_meet
        exact ⟨_, _, a1, c1, n1, rfl, rfl, B3, B4, HN, GRow.row2 RZ.out HN.out, HB⟩
   ·as_aux_lemma =>
    go_simp
    obtain ⟨hb, B4, L4⟩ := alK HB.out
    have N34 := hide (Nat.ne_of_lt B3.out.lt)
    replace HB := hide (btr HB.out hb)
    replace B3 := hide (B3.out.below hb); clear hb
    generalize (v0.alloc (.cells #[.slice none 0 0, .nilFunc] 102)) = v1 at *
    refine hK.out _ _ (HS.out _ HB.out) (fun _ => ?_); clear hK K
    refine wpAnyH_ready (rs := [2, 11]) (by kernel_rfl) (by simp) ?_
    refine (AllReadyH.cons rfl (fun K hK => ?_) (AllReadyH.cons rfl (fun K hK => ?_) AllReadyH.nil))
    ·go_simp; go_wp2_with fail
     refine (CI.out _).mono ?_
     rintro ex v2 ⟨rfl, hb⟩
     replace HB := hide (btr HB.out hb)
     replace B3 := hide (B3.out.below hb)
     replace B4 := hide (B4.out.below hb); clear hb
     go_wp2_with fail
     refine hK.out _ _ (HS.out _ HB.out) (fun _ => ?_); clear hK K
     refine wpAnyH_ready (rs := [11]) (by kernel_rfl) (by simp) ?_
     refine (AllReadyH.cons rfl (fun K hK => ?_) AllReadyH.nil)
     ·go_simp
      obtain ⟨hb, RS⟩ := al11 e HB.out; replace RS := hide RS
      replace HB := hide (btr HB.out hb)
      replace B3 := hide (B3.out.below hb)
      replace B4 := hide (B4.out.below hb); clear hb
      generalize (v2.alloc (.cells #[.slice e.b.pa e.b.ps.length e.b.pc, .slice e.b.qa e.b.qs.length e.b.qc, .slice e.oa e.os.length e.oc] 31)) = v3 at *
      refine hK.out _ _ (HS.out _ HB.out) (fun _ => ?_); clear hK K
      refine wpAnyH_ready (rs := [12]) (by kernel_rfl) (by simp) ?_
      refine (AllReadyH.cons rfl (fun K hK => ?_) AllReadyH.nil)
      ·go_simp; go_wp2_with fail
       refine (CC.out _ _ HB.out RS.out).mono ?_
       rintro ex v4 ⟨a1, c1, n1, rfl, hn, ho, hb⟩
       have HN := hide hn; have RZ := hide (Lies.of ho); have UZ := hide (Nat.le_refl v4.heap.size)
       have D3 := hide (djb B3.out RZ.out)
       have D4 := hide (djb B4.out RZ.out); clear ho hn
       replace HB := hide (btr HB.out hb)
       replace RS := hide (RS.out.below hb)
       replace B3 := hide (B3.out.below hb)
       replace B4 := hide (B4.out.below hb); clear hb
       go_wp2_with fail
       refine hK.out _ _ (HS.out _ HB.out) (fun _ => ?_); clear hK K
       refine wpAnyH_ready (rs := [13]) (by kernel_rfl) (by simp) ?_
       refine (AllReadyH.cons rfl (fun K hK => ?_) AllReadyH.nil)
       ·go_simp; go_wp2_with fail
        refine (by42 a1 c1 n1 _).mono ?_
        rintro ex v5 ⟨rfl, hb⟩
        replace HB := hide (btr HB.out hb)
        replace RZ := hide (RZ.out.below hb)
        replace UZ := hide (Nat.le_trans UZ.out hb.size)
        replace B3 := hide (B3.out.below hb)
        replace B4 := hide (B4.out.below hb); clear hb
        go_wp2_with fail
        refine hK.out _ _ (HS.out _ HB.out) (fun _ => ?_); clear hK K
        refine wpAnyH_ready (rs := [16]) (by kernel_rfl) (by simp) ?_
        refine (AllReadyH.cons rfl (fun K hK => ?_) AllReadyH.nil)
        have o0 := B3.out.c0; have p0 := B3.out.fz 0; have o1 := B3.out.c1; have p1 := B3.out.fz 1
        go_simp; clear o0 p0 o1 p1
        obtain ⟨B3, B4, RZ, HB⟩ := stK B3.out B4.out RZ.out HB.out N34.out D3.out L3.out (.slice e.oa e.os.length e.oc) (.func (.func 105) #[] #[])
        refine hK.out _ _ (HS.out _ HB.out) (fun _ => ?_); clear hK K
        refine wpAnyH_ready (rs := [17]) (by kernel_rfl) (by simp) ?_
        refine (AllReadyH.cons rfl (fun K hK => ?_) AllReadyH.nil)
        have o0 := B4.out.c0; have p0 := B4.out.fz 0; have o1 := B4.out.c1; have p1 := B4.out.fz 1
        go_simp; clear o0 p0 o1 p1
        obtain ⟨B4, B3, RZ, HB⟩ := stK B4.out B3.out RZ.out HB.out N34.out.symm D4.out L4.out (.slice a1 n1 c1) (.func (.func 105) #[] #[])
        refine hK.out _ _ (HS.out _ HB.out) (fun _ => ?_); clear hK K
        refine wpAnyH_done (by kernel_rfl) ?_ _
        go_wp2; go_meet
        exact ⟨_, _, a1, c1, n1, rfl, rfl, B3, B4, HN, GRow.row2 RZ.out HN.out, HB⟩
    ·go_simp
     obtain ⟨hb, RS⟩ := al11 e HB.out; replace RS := hide RS
     replace HB := hide (btr HB.out hb)
     replace B3 := hide (B3.out.below hb)
     replace B4 := hide (B4.out.below hb); clear hb
     generalize (v1.alloc (.cells #[.slice e.b.pa e.b.ps.length e.b.pc, .slice e.b.qa e.b.qs.length e.b.qc, .slice e.oa e.os.length e.oc] 31)) = v2 at *
     refine hK.out _ _ (HS.out _ HB.out) (fun _ => ?_); clear hK K
     refine wpAnyH_ready (rs := [2]) (by kernel_rfl) (by simp) ?_
     refine (AllReadyH.cons rfl (fun K hK => ?_) AllReadyH.nil)
     ·go_simp; go_wp2_with fail
      refine (CI.out _).mono ?_
      rintro ex v3 ⟨rfl, hb⟩
      replace HB := hide (btr HB.out hb)
      replace RS := hide (RS.out.below hb)
      replace B3 := hide (B3.out.below hb)
      replace B4 := hide (B4.out.below hb); clear hb
      go_wp2_with fail
      refine hK.out _ _ (HS.out _ HB.out) (fun _ => ?_); clear hK K
      refine wpAnyH_ready (rs := [12]) (by kernel_rfl) (by simp) ?_
      refine (AllReadyH.cons rfl (fun K hK => ?_) AllReadyH.nil)
      ·go_simp; go_wp2_with fail
       refine (CC.out _ _ HB.out RS.out).mono ?_
       rintro ex v4 ⟨a1, c1, n1, rfl, hn, ho, hb⟩
       have HN := hide hn; have RZ := hide (Lies.of ho); have UZ := hide (Nat.le_refl v4.heap.size)
       have D3 := hide (djb B3.out RZ.out)
       have D4 := hide (djb B4.out RZ.out); clear ho hn
       replace HB := hide (btr HB.out hb)
       replace RS := hide (RS.out.below hb)
       replace B3 := hide (B3.out.below hb)
       replace B4 := hide (B4.out.below hb); clear hb
       go_wp2_with fail
       refine hK.out _ _ (HS.out _ HB.out) (fun _ => ?_); clear hK K
       refine wpAnyH_ready (rs := [13]) (by kernel_rfl) (by simp) ?_
       refine (AllReadyH.cons rfl (fun K hK => ?_) AllReadyH.nil)
       ·go_simp; go_wp2_with fail
        refine (by42 a1 c1 n1 _).mono ?_
        rintro ex v5 ⟨rfl, hb⟩
        replace HB := hide (btr HB.out hb)
        replace RZ := hide (RZ.out.below hb)
        replace UZ := hide (Nat.le_trans UZ.out hb.size)
        replace B3 := hide (B3.out.below hb)
        replace B4 := hide (B4.out.below hb); clear hb
        go_wp2_with fail
        refine hK.out _ _ (HS.out _ HB.out) (fun _ => ?_); clear hK K
        refine wpAnyH_ready (rs := [16]) (by kernel_rfl) (by simp) ?_
        refine (AllReadyH.cons rfl (fun K hK => ?_) AllReadyH.nil)
        have o0 := B3.out.c0; have p0 := B3.out.fz 0; have o1 := B3.out.c1; have p1 := B3.out.fz 1
        go_simp; clear o0 p0 o1 p1
        obtain ⟨B3, B4, RZ, HB⟩ := stK B3.out B4.out RZ.out HB.out N34.out D3.out L3.out (.slice e.oa e.os.length e.oc) (.func (.func 105) #[] #[])
        refine hK.out _ _ (HS.out _ HB.out) (fun _ => ?_); clear hK K
        refine wpAnyH_ready (rs := [17]) (by kernel_rfl) (by simp) ?_
        refine (AllReadyH.cons rfl (fun K hK => ?_) AllReadyH.nil)
        have o0 := B4.out.c0; have p0 := B4.out.fz 0; have o1 := B4.out.c1; have p1 := B4.out.fz 1
        go_simp; clear o0 p0 o1 p1
        obtain ⟨B4, B3, RZ, HB⟩ := stK B4.out B3.out RZ.out HB.out N34.out.symm D4.out L4.out (.slice a1 n1 c1) (.func (.func 105) #[] #[])
        refine hK.out _ _ (HS.out _ HB.out) (fun _ => ?_); clear hK K
        refine wpAnyH_done (by kernel_rfl) ?_ _
        go_wp2; go_meet
        exact ⟨_, _, a1, c1, n1, rfl, rfl, B3, B4, HN, GRow.row2 RZ.out HN.out, HB⟩
  ·go_simp
   obtain ⟨hb, B4, L4⟩ := alK HB.out
   replace HB := hide (btr HB.out hb); clear hb
   generalize (vd.alloc (.cells #[.slice none 0 0, .nilFunc] 102)) = v0 at *
   refine hK.out _ _ (HS.out _ HB.out) (fun _ => ?_); clear hK K
   refine wpAnyH_ready (rs := [2, 11, 14]) (by kernel_rfl) (by simp) ?_
   refine (AllReadyH.cons rfl (fun K hK => ?_) (AllReadyH.cons rfl (fun K hK => ?_) (AllReadyH.cons rfl (fun K hK => ?_) AllReadyH.nil)))
   ·as_aux_lemma =>
    go_simp; go_wp2_with fail
    refine (CI.out _).mono ?_
    rintro ex v1 ⟨rfl, hb⟩
    replace HB := hide (btr HB.out hb)
    replace B4 := hide (B4.out.below hb); clear hb
    go_wp2_with fail
    refine hK.out _ _ (HS.out _ HB.out) (fun _ => ?_); clear hK K
    refine wpAnyH_ready (rs := [11, 14]) (by kernel_rfl) (by simp) ?_
    refine (AllReadyH.cons rfl (fun K hK => ?_) (AllReadyH.cons rfl (fun K hK => ?_) AllReadyH.nil))
    ·go_simp
     obtain ⟨hb, RS⟩ := al11 e HB.out; replace RS := hide RS
     replace HB := hide (btr HB.out hb)
     replace B4 := hide (B4.out.below hb); clear hb
     generalize (v1.alloc (.cells #[.slice e.b.pa e.b.ps.length e.b.pc, .slice e.b.qa e.b.qs.length e.b.qc, .slice e.oa e.os.length e.oc] 31)) = v2 at *
     refine hK.out _ _ (HS.out _ HB.out) (fun _ => ?_); clear hK K
     refine wpAnyH_ready (rs := [12, 14]) (by kernel_rfl) (by simp) ?_
     refine (AllReadyH.cons rfl (fun K hK => ?_) (AllReadyH.cons rfl (fun K hK => ?_) AllReadyH.nil))
     ·go_simp; go_wp2_with fail
      refine (CC.out _ _ HB.out RS.out).mono ?_
      rintro ex v3 ⟨a1, c1, n1, rfl, hn, ho, hb⟩
      have HN := hide hn; have RZ := hide (Lies.of ho); have UZ := hide (Nat.le_refl v3.heap.size)
      have D4 := hide (djb B4.out RZ.out); clear ho hn
      replace HB := hide (btr HB.out hb)
      replace RS := hide (RS.out.below hb)
      replace B4 := hide (B4.out.below hb); clear hb
      go_wp2_with fail
      refine hK.out _ _ (HS.out _ HB.out) (fun _ => ?_); clear hK K
      refine wpAnyH_ready (rs := [13, 14]) (by kernel_rfl) (by simp) ?_
      refine (AllReadyH.cons rfl (fun K hK => ?_) (AllReadyH.cons rfl (fun K hK => ?_) AllReadyH.nil))
      ·go_simp; go_wp2_with fail
       refine (by42 a1 c1 n1 _).mono ?_
       rintro ex v4 ⟨rfl, hb⟩
       replace HB := hide (btr HB.out hb)
       replace RZ := hide (RZ.out.below hb)
       replace UZ := hide (Nat.le_trans UZ.out hb.size)
       replace B4 := hide (B4.out.below hb); clear hb
       go_wp2_with fail
       refine hK.out _ _ (HS.out _ HB.out) (fun _ => ?_); clear hK K
       refine wpAnyH_ready (rs := [14]) (by kernel_rfl) (by simp) ?_
       refine (AllReadyH.cons rfl (fun K hK => ?_) AllReadyH.nil)
       ·go_simp
        obtain ⟨hb, B3, L3⟩ := alK HB.out
        have D3 := hide (djr RZ.out UZ.out)
        have N34 := hide (Nat.ne_of_gt B4.out.lt)
        replace HB := hide (btr HB.out hb)
        replace RZ := hide (RZ.out.below hb)
        replace UZ := hide (Nat.le_trans UZ.out hb.size)
        replace B4 := hide (B4.out.below hb); clear hb
        generalize (v4.alloc (.cells #[.slice none 0 0, .nilFunc] 102)) = v5 at *
        refine hK.out _ _ (HS.out _ HB.out) (fun _ => ?_); clear hK K
        refine wpAnyH_ready (rs := [16]) (by kernel_rfl) (by simp) ?_
        refine (AllReadyH.cons rfl (fun K hK => ?_) AllReadyH.nil)
        have o0 := B3.out.c0; have p0 := B3.out.fz 0; have o1 := B3.out.c1; have p1 := B3.out.fz 1
        go_simp; clear o0 p0 o1 p1
        obtain ⟨B3, B4, RZ, HB⟩ := stK B3.out B4.out RZ.out HB.out N34.out D3.out L3.out (.slice e.oa e.os.length e.oc) (.func (.func 105) #[] #[])
        refine hK.out _ _ (HS.out _ HB.out) (fun _ => ?_); clear hK K
        refine wpAnyH_ready (rs := [17]) (by kernel_rfl) (by simp) ?_
        refine (AllReadyH.cons rfl (fun K hK => ?_) AllReadyH.nil)
        have o0 := B4.out.c0; have p0 := B4.out.fz 0; have o1 := B4.out.c1; have p1 := B4.out.fz 1
        go_simp; clear o0 p0 o1 p1
        obtain ⟨B4, B3, RZ, HB⟩ := stK B4.out B3.out RZ.out HB.out N34.out.symm D4.out L4.out (.slice a1 n1 c1) (.func (.func 105) #[] #[])
        refine hK.out _ _ (HS.out _ HB.out) (fun _ => ?_); clear hK K
        refine wpAnyH_done (by kernel_rfl) ?_ _
        go_wp2; go_meet
        exact ⟨_, _, a1, c1, n1, rfl, rfl, B3, B4, HN, GRow.row2 RZ.out HN.out, HB⟩
      ·go_simp
       obtain ⟨hb, B3, L3⟩ := alK HB.out
       have D3 := hide (djr RZ.out UZ.out)
       have N34 := hide (Nat.ne_of_gt B4.out.lt)
       replace HB := hide (btr HB.out hb)
       replace RZ := hide (RZ.out.below hb)
       replace UZ := hide (Nat.le_trans UZ.out hb.size)
       replace B4 := hide (B4.out.below hb); clear hb
       generalize (v3.alloc (.cells #[.slice none 0 0, .nilFunc] 102)) = v4 at *
       refine hK.out _ _ (HS.out _ HB.out) (fun _ => ?_); clear hK K
       refine wpAnyH_ready (rs := [13]) (by kernel_rfl) (by simp) ?_
       refine (AllReadyH.cons rfl (fun K hK => ?_) AllReadyH.nil)
       ·go_simp; go_wp2_with fail
        refine (by42 a1 c1 n1 _).mono ?_
        rintro ex v5 ⟨rfl, hb⟩
        replace HB := hide (btr HB.out hb)
        replace RZ := hide (RZ.out.below hb)
        replace UZ := hide (Nat.le_trans UZ.out hb.size)
        replace B3 := hide (B3.out.below hb)
        replace B4 := hide (B4.out.below hb); clear hb
        go_wp2_with fail
        refine hK.out _ _ (HS.out _ HB.out) (fun _ => ?_); clear hK K
        refine wpAnyH_ready (rs := [16]) (by kernel_rfl) (by simp) ?_
        refine (AllReadyH.cons rfl (fun K hK => ?_) AllReadyH.nil)
        have o0 := B3.out.c0; have p0 := B3.out.fz 0; have o1 := B3.out.c1; have p1 := B3.out.fz 1
        go_simp; clear o0 p0 o1 p1
        obtain ⟨B3, B4, RZ, HB⟩ := stK B3.out B4.out RZ.out HB.out N34.out D3.out L3.out (.slice e.oa e.os.length e.oc) (.func (.func 105) #[] #[])
        refine hK.out _ _ (HS.out _ HB.out) (fun _ => ?_); clear hK K
        refine wpAnyH_ready (rs := [17]) (by kernel_rfl) (by simp) ?_
        refine (AllReadyH.cons rfl (fun K hK => ?_) AllReadyH.nil)
        have o0 := B4.out.c0; have p0 := B4.out.fz 0; have o1 := B4.out.c1; have p1 := B4.out.fz 1
        go_simp; clear o0 p0 o1 p1
        obtain ⟨B4, B3, RZ, HB⟩ := stK B4.out B3.out RZ.out HB.out N34.out.symm D4.out L4.out (.slice a1 n1 c1) (.func (.func 105) #[] #[])
        refine hK.out _ _ (HS.out _ HB.out) (fun _ => ?_); clear hK K
        refine wpAnyH_done (by kernel_rfl) ?_ _
        go_wp2; go_meet
        exact ⟨_, _, a1, c1, n1, rfl, rfl, B3, B4, HN, GRow.row2 RZ.out HN.out, HB⟩
     ·go_simp
      obtain ⟨hb, B3, L3⟩ := alK HB.out
      have N34 := hide (Nat.ne_of_gt B4.out.lt)
      replace HB := hide (btr HB.out hb)
      replace RS := hide (RS.out.below hb)
      replace B4 := hide (B4.out.below hb); clear hb
      generalize (v2.alloc (.cells #[.slice none 0 0, .nilFunc] 102)) = v3 at *
      refine hK.out _ _ (HS.out _ HB.out) (fun _ => ?_); clear hK K
      refine wpAnyH_ready (rs := [12]) (by kernel_rfl) (by simp) ?_
      refine (AllReadyH.cons rfl (fun K hK => ?_) AllReadyH.nil)
      ·go_simp; go_wp2_with fail
       refine (CC.out _ _ HB.out RS.out).mono ?_
       rintro ex v4 ⟨a1, c1, n1, rfl, hn, ho, hb⟩
       have HN := hide hn; have RZ := hide (Lies.of ho); have UZ := hide (Nat.le_refl v4.heap.size)
       have D3 := hide (djb B3.out RZ.out)
       have D4 := hide (djb B4.out RZ.out); clear ho hn
       replace HB := hide (btr HB.out hb)
       replace RS := hide (RS.out.below hb)
       replace B3 := hide (B3.out.below hb)
       replace B4 := hide (B4.out.below hb); clear hb
       go_wp2_with fail
       refine hK.out _ _ (HS.out _ HB.out) (fun _ => ?_); clear hK K
       refine wpAnyH_ready (rs := [13]) (by kernel_rfl) (by simp) ?_
       refine (AllReadyH.cons rfl (fun K hK => ?_) AllReadyH.nil)
       ·go_simp; go_wp2_with fail
        refine (by42 a1 c1 n1 _).mono ?_
        rintro ex v5 ⟨rfl, hb⟩
        replace HB := hide (btr HB.out hb)
        replace RZ := hide (RZ.out.below hb)
        replace UZ := hide (Nat.le_trans UZ.out hb.size)
        replace B3 := hide (B3.out.below hb)
        replace B4 := hide (B4.out.below hb); clear hb
        go_wp2_with fail
        refine hK.out _ _ (HS.out _ HB.out) (fun _ => ?_); clear hK K
        refine wpAnyH_ready (rs := [16]) (by kernel_rfl) (by simp) ?_
        refine (AllReadyH.cons rfl (fun K hK => ?_) AllReadyH.nil)
        have o0 := B3.out.c0; have p0 := B3.out.fz 0; have o1 := B3.out.c1; have p1 := B3.out.fz 1
        go_simp; clear o0 p0 o1 p1
        obtain ⟨B3, B4, RZ, HB⟩ := stK B3.out B4.out RZ.out HB.out N34.out D3.out L3.out (.slice e.oa e.os.length e.oc) (.func (.func 105) #[] #[])
        refine hK.out _ _ (HS.out _ HB.out) (fun _ => ?_); clear hK K
        refine wpAnyH_ready (rs := [17]) (by kernel_rfl) (by simp) ?_
        refine (AllReadyH.cons rfl (fun K hK => ?_) AllReadyH.nil)
        have o0 := B4.out.c0; have p0 := B4.out.fz 0; have o1 := B4.out.c1; have p1 := B4.out.fz 1
        go_simp; clear o0 p0 o1 p1
        obtain ⟨B4, B3, RZ, HB⟩ := stK B4.out B3.out RZ.out HB.out N34.out.symm D4.out L4.out (.slice a1 n1 c1) (.func (.func 105) #[] #[])
        refine hK.out _ _ (HS.out _ HB.out) (fun _ => ?_); clear hK K
        refine wpAnyH_done (by kernel_rfl) ?_ _
        go_wp2; go_meet
        exact ⟨_, _, a1, c1, n1, rfl, rfl, B3, B4, HN, GRow.row2 RZ.out HN.out, HB⟩
    ·go_simp
     obtain ⟨hb, B3, L3⟩ := alK HB.out
     have N34 := hide (Nat.ne_of_gt B4.out.lt)
     replace HB := hide (btr HB.out hb)
     replace B4 := hide (B4.out.below hb); clear hb
     generalize (v1.alloc (.cells #[.slice none 0 0, .nilFunc] 102)) = v2 at *
     refine hK.out _ _ (HS.out _ HB.out) (fun _ => ?_); clear hK K
     refine wpAnyH_ready (rs := [11]) (by kernel_rfl) (by simp) ?_
     refine (AllReadyH.cons rfl (fun K hK => ?_) AllReadyH.nil)
     ·go_simp
      obtain ⟨hb, RS⟩ := al11 e HB.out; replace RS := hide RS
      replace HB := hide (btr HB.out hb)
      replace B3 := hide (B3.out.below hb)
      replace B4 := hide (B4.out.below hb); clear hb
      generalize (v2.alloc (.cells #[.slice e.b.pa e.b.ps.length e.b.pc, .slice e.b.qa e.b.qs.length e.b.qc, .slice e.oa e.os.length e.oc] 31)) = v3 at *
      refine hK.out _ _ (HS.out _ HB.out) (fun _ => ?_); clear hK K
      refine wpAnyH_ready (rs := [12]) (by kernel_rfl) (by simp) ?_
      refine (AllReadyH.cons rfl (fun K hK => ?_) AllReadyH.nil)
      ·go_simp; go_wp2_with fail
       refine (CC.out _ _ HB.out RS.out).mono ?_
       rintro ex v4 ⟨a1, c1, n1, rfl, hn, ho, hb⟩
       have HN := hide hn; have RZ := hide (Lies.of ho); have UZ := hide (Nat.le_refl v4.heap.size)
       have D3 := hide (djb B3.out RZ.out)
       have D4 := hide (djb B4.out RZ.out); clear ho hn
       replace HB := hide (btr HB.out hb)
       replace RS := hide (RS.out.below hb)
       replace B3 := hide (B3.out.below hb)
       replace B4 := hide (B4.out.below hb); clear hb
       go_wp2_with fail
       refine hK.out _ _ (HS.out _ HB.out) (fun _ => ?_); clear hK K
       refine wpAnyH_ready (rs := [13]) (by kernel_rfl) (by simp) ?_
       refine (AllReadyH.cons rfl (fun K hK => ?_) AllReadyH.nil)
       ·go_simp; go_wp2_with fail
        refine (by42 a1 c1 n1 _).mono ?_
        rintro ex v5 ⟨rfl, hb⟩
        replace HB := hide (btr HB.out hb)
        replace RZ := hide (RZ.out.below hb)
        replace UZ := hide (Nat.le_trans UZ.out hb.size)
        replace B3 := hide (B3.out.below hb)
        replace B4 := hide (B4.out.below hb); clear hb
        go_wp2_with fail
        refine hK.out _ _ (HS.out _ HB.out) (fun _ => ?_); clear hK K
        refine wpAnyH_ready (rs := [16]) (by kernel_rfl) (by simp) ?_
        refine (AllReadyH.cons rfl (fun K hK => ?_) AllReadyH.nil)
        have o0 := B3.out.c0; have p0 := B3.out.fz 0; have o1 := B3.out.c1; have p1 := B3.out.fz 1
        go_simp; clear o0 p0 o1 p1
        obtain ⟨B3, B4, RZ, HB⟩ := stK B3.out B4.out RZ.out HB.out N34.out D3.out L3.out (.slice e.oa e.os.length e.oc) (.func (.func 105) #[] #[])
        refine hK.out _ _ (HS.out _ HB.out) (fun _ => ?_); clear hK K
        refine wpAnyH_ready (rs := [17]) (by kernel_rfl) (by simp) ?_
        refine (AllReadyH.cons rfl (fun K hK => ?_) AllReadyH.nil)
        have o0 := B4.out.c0; have p0 := B4.out.fz 0; have o1 := B4.out.c1; have p1 := B4.out.fz 1
        go_simp; clear o0 p0 o1 p1
        obtain ⟨B4, B3, RZ, HB⟩ := stK B4.out B3.out RZ.out HB.out N34.out.symm D4.out L4.out (.slice a1 n1 c1) (.func (.func 105) #[] #[])
        refine hK.out _ _ (HS.out _ HB.out) (fun _ => ?_); clear hK K
        refine wpAnyH_done (by kernel_rfl) ?_ _
        go_wp2; go_meet
        exact ⟨_, _, a1, c1, n1, rfl, rfl, B3, B4, HN, GRow.row2 RZ.out HN.out, HB⟩
   ·as_aux_lemma =>
    go_simp
    obtain ⟨hb, RS⟩ := al11 e HB.out; replace RS := hide RS
    replace HB := hide (btr HB.out hb)
    replace B4 := hide (B4.out.below hb); clear hb
    generalize (v0.alloc (.cells #[.slice e.b.pa e.b.ps.length e.b.pc, .slice e.b.qa e.b.qs.length e.b.qc, .slice e.oa e.os.length e.oc] 31)) = v1 at *
    refine hK.out _ _ (HS.out _ HB.out) (fun _ => ?_); clear hK K
    refine wpAnyH_ready (rs := [2, 14]) (by kernel_rfl) (by simp) ?_
    refine (AllReadyH.cons rfl (fun K hK => ?_) (AllReadyH.cons rfl (fun K hK => ?_) AllReadyH.nil))
    ·go_simp; go_wp2_with fail
     refine (CI.out _).mono ?_
     rintro ex v2 ⟨rfl, hb⟩
     replace HB := hide (btr HB.out hb)
     replace RS := hide (RS.out.below hb)
     replace B4 := hide (B4.out.below hb); clear hb
     go_wp2_with fail
     refine hK.out _ _ (HS.out _ HB.out) (fun _ => ?_); clear hK K
     refine wpAnyH_ready (rs := [12, 14]) (by kernel_rfl) (by simp) ?_
     refine (AllReadyH.cons rfl (fun K hK => ?_) (AllReadyH.cons rfl (fun K hK => ?_) AllReadyH.nil))
     ·go_simp; go_wp2_with fail
      refine (CC.out _ _ HB.out RS.out).mono ?_
      rintro ex v3 ⟨a1, c1, n1, rfl, hn, ho, hb⟩
      have HN := hide hn; have RZ := hide (Lies.of ho); have UZ := hide (Nat.le_refl v3.heap.size)
      have D4 := hide (djb B4.out RZ.out); clear ho hn
      replace HB := hide (btr HB.out hb)
      replace RS := hide (RS.out.below hb)
      replace B4 := hide (B4.out.below hb); clear hb
      go_wp2_with fail
      refine hK.out _ _ (HS.out _ HB.out) (fun _ => ?_); clear hK K
      refine wpAnyH_ready (rs := [13, 14]) (by kernel_rfl) (by simp) ?_
      refine (AllReadyH.cons rfl (fun K hK => ?_) (AllReadyH.cons rfl (fun K hK => ?_) AllReadyH.nil))
      ·go_simp; go_wp2_with fail
       refine (by42 a1 c1 n1 _).mono ?_
       rintro ex v4 ⟨rfl, hb⟩
       replace HB := hide (btr HB.out hb)
       replace RZ := hide (RZ.out.below hb)
       replace UZ := hide (Nat.le_trans UZ.out hb.size)
       replace B4 := hide (B4.out.below hb); clear hb
       go_wp2_with fail
       refine hK.out _ _ (HS.out _ HB.out) (fun _ => ?_); clear hK K
       refine wpAnyH_ready (rs := [14]) (by kernel_rfl) (by simp) ?_
       refine (AllReadyH.cons rfl (fun K hK => ?_) AllReadyH.nil)
       ·go_simp
        obtain ⟨hb, B3, L3⟩ := alK HB.out
        have D3 := hide (djr RZ.out UZ.out)
        have N34 := hide (Nat.ne_of_gt B4.out.lt)
        replace HB := hide (btr HB.out hb)
        replace RZ := hide (RZ.out.below hb)
        replace UZ := hide (Nat.le_trans UZ.out hb.size)
        replace B4 := hide (B4.out.below hb); clear hb
        generalize (v4.alloc (.cells #[.slice none 0 0, .nilFunc] 102)) = v5 at *
        refine hK.out _ _ (HS.out _ HB.out) (fun _ => ?_); clear hK K
        refine wpAnyH_ready (rs := [16]) (by kernel_rfl) (by simp) ?_
        refine (AllReadyH.cons rfl (fun K hK => ?_) AllReadyH.nil)
        have o0 := B3.out.c0; have p0 := B3.out.fz 0; have o1 := B3.out.c1; have p1 := B3.out.fz 1
        go_simp; clear o0 p0 o1 p1
        obtain ⟨B3, B4, RZ, HB⟩ := stK B3.out B4.out RZ.out HB.out N34.out D3.out L3.out (.slice e.oa e.os.length e.oc) (.func (.func 105) #[] #[])
        refine hK.out _ _ (HS.out _ HB.out) (fun _ => ?_); clear hK K
        refine wpAnyH_ready (rs := [17]) (by kernel_rfl) (by simp) ?_
        refine (AllReadyH.cons rfl (fun K hK => ?_) AllReadyH.nil)
        have o0 := B4.out.c0; have p0 := B4.out.fz 0; have o1 := B4.out.c1; have p1 := B4.out.fz 1
        go_simp; clear o0 p0 o1 p1
        obtain ⟨B4, B3, RZ, HB⟩ := stK B4.out B3.out RZ.out HB.out N34.out.symm D4.out L4.out (.slice a1 n1 c1) (.func (.func 105) #[] #[])
        refine hK.out _ _ (HS.out _ HB.out) (fun _ => ?_); clear hK K
        refine wpAnyH_done (by kernel_rfl) ?_ _
        go_wp2; go_meet
        exact ⟨_, _, a1, c1, n1, rfl, rfl, B3, B4, HN, GRow.row2 RZ.out HN.out, HB⟩
      ·go_simp
       obtain ⟨hb, B3, L3⟩ := alK HB.out
       have D3 := hide (djr RZ.out UZ.out)
       have N34 := hide (Nat.ne_of_gt B4.out.lt)
       replace HB := hide (btr HB.out hb)
       replace RZ := hide (RZ.out.below hb)
       replace UZ := hide (Nat.le_trans UZ.out hb.size)
       replace B4 := hide (B4.out.below hb); clear hb
       generalize (v3.alloc (.cells #[.slice none 0 0, .nilFunc] 102)) = v4 at *
       refine hK.out _ _ (HS.out _ HB.out) (fun _ => ?_); clear hK K
       refine wpAnyH_ready (rs := [13]) (by kernel_rfl) (by simp) ?_
       refine (AllReadyH.cons rfl (fun K hK => ?_) AllReadyH.nil)
       ·go_simp; go_wp2_with fail
        refine (by42 a1 c1 n1 _).mono ?_
        rintro ex v5 ⟨rfl, hb⟩
        replace HB := hide (btr HB.out hb)
        replace RZ := hide (RZ.out.below hb)
        replace UZ := hide (Nat.le_trans UZ.out hb.size)
        replace B3 := hide (B3.out.below hb)
        replace B4 := hide (B4.out.below hb); clear hb
        go_wp2_with fail
        refine hK.out _ _ (HS.out _ HB.out) (fun _ => ?_); clear hK K
        refine wpAnyH_ready (rs := [16]) (by kernel_rfl) (by simp) ?_
        refine (AllReadyH.cons rfl (fun K hK => ?_) AllReadyH.nil)
        have o0 := B3.out.c0; have p0 := B3.out.fz 0; have o1 := B3.out.c1; have p1 := B3.out.fz 1
        go_simp; clear o0 p0 o1 p1
        obtain ⟨B3, B4, RZ, HB⟩ := stK B3.out B4.out RZ.out HB.out N34.out D3.out L3.out (.slice e.oa e.os.length e.oc) (.func (.func 105) #[] #[])
        refine hK.out _ _ (HS.out _ HB.out) (fun _ => ?_); clear hK K
        refine wpAnyH_ready (rs := [17]) (by kernel_rfl) (by simp) ?_
        refine (AllReadyH.cons rfl (fun K hK => ?_) AllReadyH.nil)
        have o0 := B4.out.c0; have p0 := B4.out.fz 0; have o1 := B4.out.c1; have p1 := B4.out.fz 1
        go_simp; clear o0 p0 o1 p1
        obtain ⟨B4, B3, RZ, HB⟩ := stK B4.out B3.out RZ.out HB.out N34.out.symm D4.out L4.out (.slice a1 n1 c1) (.func (.func 105) #[] #[])
        refine hK.out _ _ (HS.out _ HB.out) (fun _ => ?_); clear hK K
        refine wpAnyH_done (by kernel_rfl) ?_ _
        go_wp2; go_meet
        exact ⟨_, _, a1, c1, n1, rfl, rfl, B3, B4, HN, GRow.row2 RZ.out HN.out, HB⟩
     ·go_simp
      obtain ⟨hb, B3, L3⟩ := alK HB.out
      have N34 := hide (Nat.ne_of_gt B4.out.lt)
      replace HB := hide (btr HB.out hb)
      replace RS := hide (RS.out.below hb)
      replace B4 := hide (B4.out.below hb); clear hb
      generalize (v2.alloc (.cells #[.slice none 0 0, .nilFunc] 102)) = v3 at *
      refine hK.out _ _ (HS.out _ HB.out) (fun _ => ?_); clear hK K
      refine wpAnyH_ready (rs := [12]) (by kernel_rfl) (by simp) ?_
      refine (AllReadyH.cons rfl (fun K hK => ?_) AllReadyH.nil)
      ·go_simp; go_wp2_with fail
       refine (CC.out _ _ HB.out RS.out).mono ?_
       rintro ex v4 ⟨a1, c1, n1, rfl, hn, ho, hb⟩
       have HN := hide hn; have RZ := hide (Lies.of ho); have UZ := hide (Nat.le_refl v4.heap.size)
       have D3 := hide (djb B3.out RZ.out)
       have D4 := hide (djb B4.out RZ.out); clear ho hn
       replace HB := hide (btr HB.out hb)
       replace RS := hide (RS.out.below hb)
       replace B3 := hide (B3.out.below hb)
       replace B4 := hide (B4.out.below hb); clear hb
       go_wp2_with fail
       refine hK.out _ _ (HS.out _ HB.out) (fun _ => ?_); clear hK K
       refine wpAnyH_ready (rs := [13]) (by kernel_rfl) (by simp) ?_
       refine (AllReadyH.cons rfl (fun K hK => ?_) AllReadyH.nil)
       ·go_simp; go_wp2_with fail
        refine (by42 a1 c1 n1 _).mono ?_
        rintro ex v5 ⟨rfl, hb⟩
        replace HB := hide (btr HB.out hb)
        replace RZ := hide (RZ.out.below hb)
        replace UZ := hide (Nat.le_trans UZ.out hb.size)
        replace B3 := hide (B3.out.below hb)
        replace B4 := hide (B4.out.below hb); clear hb
        go_wp2_with fail
        refine hK.out _ _ (HS.out _ HB.out) (fun _ => ?_); clear hK K
        refine wpAnyH_ready (rs := [16]) (by kernel_rfl) (by simp) ?_
        refine (AllReadyH.cons rfl (fun K hK => ?_) AllReadyH.nil)
        have o0 := B3.out.c0; have p0 := B3.out.fz 0; have o1 := B3.out.c1; have p1 := B3.out.fz 1
        go_simp; clear o0 p0 o1 p1
        obtain ⟨B3, B4, RZ, HB⟩ := stK B3.out B4.out RZ.out HB.out N34.out D3.out L3.out (.slice e.oa e.os.length e.oc) (.func (.func 105) #[] #[])
        refine hK.out _ _ (HS.out _ HB.out) (fun _ => ?_); clear hK K
        refine wpAnyH_ready (rs := [17]) (by kernel_rfl) (by simp) ?_
        refine (AllReadyH.cons rfl (fun K hK => ?_) AllReadyH.nil)
        have o0 := B4.out.c0; have p0 := B4.out.fz 0; have o1 := B4.out.c1; have p1 := B4.out.fz 1
        go_simp; clear o0 p0 o1 p1
        obtain ⟨B4, B3, RZ, HB⟩ := stK B4.out B3.out RZ.out HB.out N34.out.symm D4.out L4.out (.slice a1 n1 c1) (.func (.func 105) #[] #[])
        refine hK.out _ _ (HS.out _ HB.out) (fun _ => ?_); clear hK K
        refine wpAnyH_done (by kernel_rfl) ?_ _
        go_wp2; go_meet
        exact ⟨_, _, a1, c1, n1, rfl, rfl, B3, B4, HN, GRow.row2 RZ.out HN.out, HB⟩
    ·go_simp
     obtain ⟨hb, B3, L3⟩ := alK HB.out
     have N34 := hide (Nat.ne_of_gt B4.out.lt)
     replace HB := hide (btr HB.out hb)
     replace RS := hide (RS.out.below hb)
     replace B4 := hide (B4.out.below hb); clear hb
     generalize (v1.alloc (.cells #[.slice none 0 0, .nilFunc] 102)) = v2 at *
     refine hK.out _ _ (HS.out _ HB.out) (fun _ => ?_); clear hK K
     refine wpAnyH_ready (rs := [2]) (by kernel_rfl) (by simp) ?_
     refine (AllReadyH.cons rfl (fun K hK => ?_) AllReadyH.nil)
     ·go_simp; go_wp2_with fail
      refine (CI.out _).mono ?_
      rintro ex v3 ⟨rfl, hb⟩
      replace HB := hide (btr HB.out hb)
      replace RS := hide (RS.out.below hb)
      replace B3 := hide (B3.out.below hb)
      replace B4 := hide (B4.out.below hb); clear hb
      go_wp2_with fail
      refine hK.out _ _ (HS.out _ HB.out) (fun _ => ?_); clear hK K
      refine wpAnyH_ready (rs := [12]) (by kernel_rfl) (by simp) ?_
      refine (AllReadyH.cons rfl (fun K hK => ?_) AllReadyH.nil)
      ·go_simp; go_wp2_with fail
       refine (CC.out _ _ HB.out RS.out).mono ?_
       rintro ex v4 ⟨a1, c1, n1, rfl, hn, ho, hb⟩
       have HN := hide hn; have RZ := hide (Lies.of ho); have UZ := hide (Nat.le_refl v4.heap.size)
       have D3 := hide (djb B3.out RZ.out)
       have D4 := hide (djb B4.out RZ.out); clear ho hn
       replace HB := hide (btr HB.out hb)
       replace RS := hide (RS.out.below hb)
       replace B3 := hide (B3.out.below hb)
       replace B4 := hide (B4.out.below hb); clear hb
       go_wp2_with fail
       refine hK.out _ _ (HS.out _ HB.out) (fun _ => ?_); clear hK K
       refine wpAnyH_ready (rs := [13]) (by kernel_rfl) (by simp) ?_
       refine (AllReadyH.cons rfl (fun K hK => ?_) AllReadyH.nil)
       ·go_simp; go_wp2_with fail
        refine (by42 a1 c1 n1 _).mono ?_
        rintro ex v5 ⟨rfl, hb⟩
        replace HB := hide (btr HB.out hb)
        replace RZ := hide (RZ.out.below hb)
        replace UZ := hide (Nat.le_trans UZ.out hb.size)
        replace B3 := hide (B3.out.below hb)
        replace B4 := hide (B4.out.below hb); clear hb
        go_wp2_with fail
        refine hK.out _ _ (HS.out _ HB.out) (fun _ => ?_); clear hK K
        refine wpAnyH_ready (rs := [16]) (by kernel_rfl) (by simp) ?_
        refine (AllReadyH.cons rfl (fun K hK => ?_) AllReadyH.nil)
        have o0 := B3.out.c0; have p0 := B3.out.fz 0; have o1 := B3.out.c1; have p1 := B3.out.fz 1
        go_simp; clear o0 p0 o1 p1
        obtain ⟨B3, B4, RZ, HB⟩ := stK B3.out B4.out RZ.out HB.out N34.out D3.out L3.out (.slice e.oa e.os.length e.oc) (.func (.func 105) #[] #[])
        refine hK.out _ _ (HS.out _ HB.out) (fun _ => ?_); clear hK K
        refine wpAnyH_ready (rs := [17]) (by kernel_rfl) (by simp) ?_
        refine (AllReadyH.cons rfl (fun K hK => ?_) AllReadyH.nil)
        have o0 := B4.out.c0; have p0 := B4.out.fz 0; have o1 := B4.out.c1; have p1 := B4.out.fz 1
        go_simp; clear o0 p0 o1 p1
        obtain ⟨B4, B3, RZ, HB⟩ := stK B4.out B3.out RZ.out HB.out N34.out.symm D4.out L4.out (.slice a1 n1 c1) (.func (.func 105) #[] #[])
        refine hK.out _ _ (HS.out _ HB.out) (fun _ => ?_); clear hK K
        refine wpAnyH_done (by kernel_rfl) ?_ _
        go_wp2; go_meet
        exact ⟨_, _, a1, c1, n1, rfl, rfl, B3, B4, HN, GRow.row2 RZ.out HN.out, HB⟩
   ·as_aux_lemma =>
    go_simp
    obtain ⟨hb, B3, L3⟩ := alK HB.out
    have N34 := hide (Nat.ne_of_gt B4.out.lt)
    replace HB := hide (btr HB.out hb)
    replace B4 := hide (B4.out.below hb); clear hb
    generalize (v0.alloc (.cells #[.slice none 0 0, .nilFunc] 102)) = v1 at *
    refine hK.out _ _ (HS.out _ HB.out) (fun _ => ?_); clear hK K
    refine wpAnyH_ready (rs := [2, 11]) (by kernel_rfl) (by simp) ?_
    refine (AllReadyH.cons rfl (fun K hK => ?_) (AllReadyH.cons rfl (fun K hK => ?_) AllReadyH.nil))
    ·go_simp; go_wp2_with fail
     refine (CI.out _).mono ?_
     rintro ex v2 ⟨rfl, hb⟩
     replace HB := hide (btr HB.out hb)
     replace B3 := hide (B3.out.below hb)
     replace B4 := hide (B4.out.below hb); clear hb
     go_wp2_with fail
     refine hK.out _ _ (HS.out _ HB.out) (fun _ => ?_); clear hK K
     refine wpAnyH_ready (rs := [11]) (by kernel_rfl) (by simp) ?_
     refine (AllReadyH.cons rfl (fun K hK => ?_) AllReadyH.nil)
     ·go_simp
      obtain ⟨hb, RS⟩ := al11 e HB.out; replace RS := hide RS
      replace HB := hide (btr HB.out hb)
      replace B3 := hide (B3.out.below hb)
      replace B4 := hide (B4.out.below hb); clear hb
      generalize (v2.alloc (.cells #[.slice e.b.pa e.b.ps.length e.b.pc, .slice e.b.qa e.b.qs.length e.b.qc, .slice e.oa e.os.length e.oc] 31)) = v3 at *
      refine hK.out _ _ (HS.out _ HB.out) (fun _ => ?_); clear hK K
      refine wpAnyH_ready (rs := [12]) (by kernel_rfl) (by simp) ?_
      refine (AllReadyH.cons rfl (fun K hK => ?_) AllReadyH.nil)
      ·go_simp; go_wp2_with fail
       refine (CC.out _ _ HB.out RS.out).mono ?_
       rintro ex v4 ⟨a1, c1, n1, rfl, hn, ho, hb⟩
       have HN := hide hn; have RZ := hide (Lies.of ho); have UZ := hide (Nat.le_refl v4.heap.size)
       have D3 := hide (djb B3.out RZ.out)
       have D4 := hide (djb B4.out RZ.out); clear ho hn
       replace HB := hide (btr HB.out hb)
       replace RS := hide (RS.out.below hb)
       replace B3 := hide (B3.out.below hb)
       replace B4 := hide (B4.out.below hb); clear hb
       go_wp2_with fail
       refine hK.out _ _ (HS.out _ HB.out) (fun _ => ?_); clear hK K
       refine wpAnyH_ready (rs := [13]) (by kernel_rfl) (by simp) ?_
       refine (AllReadyH.cons rfl (fun K hK => ?_) AllReadyH.nil)
       ·go_simp; go_wp2_with fail
        refine (by42 a1 c1 n1 _).mono ?_
        rintro ex v5 ⟨rfl, hb⟩
        replace HB := hide (btr HB.out hb)
        replace RZ := hide (RZ.out.below hb)
        replace UZ := hide (Nat.le_trans UZ.out hb.size)
        replace B3 := hide (B3.out.below hb)
        replace B4 := hide (B4.out.below hb); clear hb
        go_wp2_with fail
        refine hK.out _ _ (HS.out _ HB.out) (fun _ => ?_); clear hK K
        refine wpAnyH_ready (rs := [16]) (by kernel_rfl) (by simp) ?_
        refine (AllReadyH.cons rfl (fun K hK => ?_) AllReadyH.nil)
        have o0 := B3.out.c0; have p0 := B3.out.fz 0; have o1 := B3.out.c1; have p1 := B3.out.fz 1
        go_simp; clear o0 p0 o1 p1
        obtain ⟨B3, B4, RZ, HB⟩ := stK B3.out B4.out RZ.out HB.out N34.out D3.out L3.out (.slice e.oa e.os.length e.oc) (.func (.func 105) #[] #[])
        refine hK.out _ _ (HS.out _ HB.out) (fun _ => ?_); clear hK K
        refine wpAnyH_ready (rs := [17]) (by kernel_rfl) (by simp) ?_
        refine (AllReadyH.cons rfl (fun K hK => ?_) AllReadyH.nil)
        have o0 := B4.out.c0; have p0 := B4.out.fz 0; have o1 := B4.out.c1; have p1 := B4.out.fz 1
        go_simp; clear o0 p0 o1 p1
        obtain ⟨B4, B3, RZ, HB⟩ := stK B4.out B3.out RZ.out HB.out N34.out.symm D4.out L4.out (.slice a1 n1 c1) (.func (.func 105) #[] #[])
        refine hK.out _ _ (HS.out _ HB.out) (fun _ => ?_); clear hK K
        refine wpAnyH_done (by kernel_rfl) ?_ _
        go_wp2; go_meet
        exact ⟨_, _, a1, c1, n1, rfl, rfl, B3, B4, HN, GRow.row2 RZ.out HN.out, HB⟩
    ·go_simp
     obtain ⟨hb, RS⟩ := al11 e HB.out; replace RS := hide RS
     replace HB := hide (btr HB.out hb)
     replace B3 := hide (B3.out.below hb)
     replace B4 := hide (B4.out.below hb); clear hb
     generalize (v1.alloc (.cells #[.slice e.b.pa e.b.ps.length e.b.pc, .slice e.b.qa e.b.qs.length e.b.qc, .slice e.oa e.os.length e.oc] 31)) = v2 at *
     refine hK.out _ _ (HS.out _ HB.out) (fun _ => ?_); clear hK K
     refine wpAnyH_ready (rs := [2]) (by kernel_rfl) (by simp) ?_
     refine (AllReadyH.cons rfl (fun K hK => ?_) AllReadyH.nil)
     ·go_simp; go_wp2_with fail
      refine (CI.out _).mono ?_
      rintro ex v3 ⟨rfl, hb⟩
      replace HB := hide (btr HB.out hb)
      replace RS := hide (RS.out.below hb)
      replace B3 := hide (B3.out.below hb)
      replace B4 := hide (B4.out.below hb); clear hb
      go_wp2_with fail
      refine hK.out _ _ (HS.out _ HB.out) (fun _ => ?_); clear hK K
      refine wpAnyH_ready (rs := [12]) (by kernel_rfl) (by simp) ?_
      refine (AllReadyH.cons rfl (fun K hK => ?_) AllReadyH.nil)
      ·go_simp; go_wp2_with fail
       refine (CC.out _ _ HB.out RS.out).mono ?_
       rintro ex v4 ⟨a1, c1, n1, rfl, hn, ho, hb⟩
       have HN := hide hn; have RZ := hide (Lies.of ho); have UZ := hide (Nat.le_refl v4.heap.size)
       have D3 := hide (djb B3.out RZ.out)
       have D4 := hide (djb B4.out RZ.out); clear ho hn
       replace HB := hide (btr HB.out hb)
       replace RS := hide (RS.out.below hb)
       replace B3 := hide (B3.out.below hb)
       replace B4 := hide (B4.out.below hb); clear hb
       go_wp2_with fail
       refine hK.out _ _ (HS.out _ HB.out) (fun _ => ?_); clear hK K
       refine wpAnyH_ready (rs := [13]) (by kernel_rfl) (by simp) ?_
       refine (AllReadyH.cons rfl (fun K hK => ?_) AllReadyH.nil)
       ·go_simp; go_wp2_with fail
        refine (by42 a1 c1 n1 _).mono ?_
        rintro ex v5 ⟨rfl, hb⟩
        replace HB := hide (btr HB.out hb)
        replace RZ := hide (RZ.out.below hb)
        replace UZ := hide (Nat.le_trans UZ.out hb.size)
        replace B3 := hide (B3.out.below hb)
        replace B4 := hide (B4.out.below hb); clear hb
        go_wp2_with fail
        refine hK.out _ _ (HS.out _ HB.out) (fun _ => ?_); clear hK K
        refine wpAnyH_ready (rs := [16]) (by kernel_rfl) (by simp) ?_
        refine (AllReadyH.cons rfl (fun K hK => ?_) AllReadyH.nil)
        have o0 := B3.out.c0; have p0 := B3.out.fz 0; have o1 := B3.out.c1; have p1 := B3.out.fz 1
        go_simp; clear o0 p0 o1 p1
        obtain ⟨B3, B4, RZ, HB⟩ := stK B3.out B4.out RZ.out HB.out N34.out D3.out L3.out (.slice e.oa e.os.length e.oc) (.func (.func 105) #[] #[])
        refine hK.out _ _ (HS.out _ HB.out) (fun _ => ?_); clear hK K
        refine wpAnyH_ready (rs := [17]) (by kernel_rfl) (by simp) ?_
        refine (AllReadyH.cons rfl (fun K hK => ?_) AllReadyH.nil)
        have o0 := B4.out.c0; have p0 := B4.out.fz 0; have o1 := B4.out.c1; have p1 := B4.out.fz 1
        go_simp; clear o0 p0 o1 p1
        obtain ⟨B4, B3, RZ, HB⟩ := stK B4.out B3.out RZ.out HB.out N34.out.symm D4.out L4.out (.slice a1 n1 c1) (.func (.func 105) #[] #[])
        refine hK.out _ _ (HS.out _ HB.out) (fun _ => ?_); clear hK K
        refine wpAnyH_done (by kernel_rfl) ?_ _
        go_wp2; go_meet
        exact ⟨_, _, a1, c1, n1, rfl, rfl, B3, B4, HN, GRow.row2 RZ.out HN.out, HB⟩
 case rest =>
 obtain ⟨q3, q4, a1, c1, n1, rfl, rfl, B3, B4, HN, RZ, HBC⟩ := hcut
 obtain ⟨wz, hwz⟩ : ∃ wz, wz = wc := ⟨_, rfl⟩
 subst hwz
 have HBz : Hid (Below w.heap.size w wz) := HB3.out.trans (HBC.out.mono HB3.out.size)
 have BAz : Hid (Bx wz w.heap.size [.slice e.b.va e.b.vs.length e.b.vc, .slice e.b.pa e.b.ps.length e.b.pc, .slice e.b.qa e.b.qs.length e.b.qc, .int .i64 e.b.cs, .int .i64 e.b.nx, .slice e.oa e.os.length e.oc]) := BA3.out.below HBC.out
 clear HBC HB3 BA3 CC CI HS
 have x0 := B3.out.c0
 have x1 := B3.out.c1
 go_wp2_with fail
 refine (C4.out _ HBz.out).mono ?_
 rintro ex w4 ⟨rfl, hb⟩
 have HB4 : Hid (Below w.heap.size w w4) := HBz.out.trans (hb.mono HBz.out.size)
 have BA4 : Hid (Bx w4 w.heap.size [.slice e.b.va e.b.vs.length e.b.vc, .slice e.b.pa e.b.ps.length e.b.pc, .slice e.b.qa e.b.qs.length e.b.qc, .int .i64 e.b.cs, .int .i64 e.b.nx, .slice e.oa e.os.length e.oc]) := BAz.out.below hb
 replace B3 : Hid (Bx w4 q3 [.slice e.oa e.os.length e.oc, .func (.func 105) #[] #[]]) := B3.out.below hb
 replace B4 : Hid (Bx w4 q4 [.slice a1 n1 c1, .func (.func 105) #[] #[]]) := B4.out.below hb
 replace RZ : Hid (GRow encT w4 a1 zs) := RZ.out.below hb
 clear hb HBz BAz x0 x1
 cases r3
 ·go_wp2
  go_ret
  exact ⟨rfl, HB4.out⟩
 have x0 := B3.out.c0
 have x1 := B3.out.c1
 have y4 := BA4.out.c4
 go_wp2_with fail
 refine (C5.out _ HB4.out).mono ?_
 rintro ex w5 ⟨rfl, hb⟩
 have HB5 : Hid (Below w.heap.size w w5) := HB4.out.trans (hb.mono HB4.out.size)
 replace B4 : Hid (Bx w5 q4 [.slice a1 n1 c1, .func (.func 105) #[] #[]]) := B4.out.below hb
 replace RZ : Hid (GRow encT w5 a1 zs) := RZ.out.below hb
 clear hb HB4 BA4 x0 x1 y4
 cases r4
 rotate_left
 ·go_wp2
  go_ret
  exact ⟨rfl, HB5.out⟩
 have x0 := B4.out.c0
 have x1 := B4.out.c1
 go_wp2_with fail
 refine (C6.out _ a1 c1 n1 HN.out HB5.out RZ.out).mono ?_
 rintro ex w6 ⟨rfl, hb⟩
 have HB6 : Hid (Below w.heap.size w w6) := HB5.out.trans (hb.mono HB5.out.size)
 clear hb HB5 x0 x1
 cases r5
 ·go_wp2
  go_ret
  exact ⟨rfl, HB6.out⟩
 ·go_wp2
  go_ret
  exact ⟨rfl, HB6.out⟩

end Go.Proofs.YtjeicgibddfifaaGreat

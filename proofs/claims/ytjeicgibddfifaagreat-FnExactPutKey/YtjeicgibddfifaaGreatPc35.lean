/- The law FnExactPutKey, walked. -/
import Derived.Test.YtjeicgibddfifaaGreatPc01
import Derived.Test.YtjeicgibddfifaaGreatPc10
import Derived.Test.YtjeicgibddfifaaGreatPc30
import Derived.Test.YtjeicgibddfifaaGreatPc32
import Derived.Test.YtjeicgibddfifaaGreatPc33
import Derived.Test.YtjeicgibddfifaaGreatPc34
import Derived.Deep.RegionHeld3
import Derived.Deep.Cut
import Derived.Deep.CutRange
import Derived.Laws.EntriesVeiled
namespace Go.Proofs.YtjeicgibddfifaaGreat
open Go.RowKit
open KM
attribute [local go_sem ↓] Go.wp_at_zero Go.wp_at_succ

theorem zn_set1 {w W : World} {ob : Nat} (h : Zn ob (ob + 1) w W) (i : Nat) (u : Value) : Zn ob (ob + 1) w (W.setCell ⟨ob, i, none⟩ u) :=
 ⟨h.os, h.tape, h.output, Nat.le_trans h.size (by simp [World.setCell]), fun j hj hn => (Below.heap_setCell W ⟨ob, i, none⟩ u j (by show j ≠ ob; omega)).trans (h.block j hj hn)⟩
theorem zn_s6 (w : World) (ob : Nat) (v0 v1 v2 v3 v4 v5 : Value) : Zn ob (ob + 1) w ((((((w.setCell ⟨ob, 0, none⟩ v0).setCell ⟨ob, 1, none⟩ v1).setCell ⟨ob, 2, none⟩ v2).setCell ⟨ob, 3, none⟩ v3).setCell ⟨ob, 4, none⟩ v4).setCell ⟨ob, 5, none⟩ v5) := (zn_set1 (zn_set1 (zn_set1 (zn_set1 (zn_set1 (zn_set1 (Zn.ofBelow ob (ob + 1) (belowRefl w)) 0 v0) 1 v1) 2 v2) 3 v3) 4 v4) 5 v5)
theorem bx_s6 {w : World} {ob : Nat} {x0 x1 x2 x3 x4 x5 : Value} (h : Bx w ob [x0, x1, x2, x3, x4, x5]) (v0 v1 v2 v3 v4 v5 : Value) : Bx ((((((w.setCell ⟨ob, 0, none⟩ v0).setCell ⟨ob, 1, none⟩ v1).setCell ⟨ob, 2, none⟩ v2).setCell ⟨ob, 3, none⟩ v3).setCell ⟨ob, 4, none⟩ v4).setCell ⟨ob, 5, none⟩ v5) ob [v0, v1, v2, v3, v4, v5] := ((((((h.set 0 v0).set 1 v1).set 2 v2).set 3 v3).set 4 v4).set 5 v5)
theorem pcon (e : En) (hf : EnFit e) (i : Int) (x : Wt) (hx : x.1.size ≤ 1048576 ∧ x.2.1.size ≤ 1048576) : ∃ (DD : En) (KK : Int), EnFit DD ∧ (∀ (c : En) (W : World), EnSame e c → EnRows W c → Calls Tryz.prog 18 #[.agg #[.slice c.b.va c.b.vs.length c.b.vc, .slice c.b.pa c.b.ps.length c.b.pc, .slice c.b.qa c.b.qs.length c.b.qc, .int .i64 c.b.cs, .int .i64 c.b.nx, .slice c.oa c.os.length c.oc], .int .i64 i, .agg #[.string x.1, .string x.2.1, .bool x.2.2]] W fun ex w' => ∃ d : En, ex = .returned (.tuple #[.agg #[.slice d.b.va d.b.vs.length d.b.vc, .slice d.b.pa d.b.ps.length d.b.pc, .slice d.b.qa d.b.qs.length d.b.qc, .int .i64 d.b.cs, .int .i64 d.b.nx, .slice d.oa d.os.length d.oc], .int .i64 KK]) ∧ EnSame DD d ∧ EnLq w' W.heap.size w'.heap.size d ∧ Below W.heap.size W w') ∧ (∀ (c : En) (lo hi : Nat) (W : World), EnSame e c → EnLie W lo hi c → Calls Tryz.prog 16 #[.agg #[.slice c.b.va c.b.vs.length c.b.vc, .slice c.b.pa c.b.ps.length c.b.pc, .slice c.b.qa c.b.qs.length c.b.qc, .int .i64 c.b.cs, .int .i64 c.b.nx, .slice c.oa c.os.length c.oc], .int .i64 i, .agg #[.string x.1, .string x.2.1, .bool x.2.2]] W fun ex w' => ∃ d : En, ex = .returned (.tuple #[.agg #[.slice d.b.va d.b.vs.length d.b.vc, .slice d.b.pa d.b.ps.length d.b.pc, .slice d.b.qa d.b.qs.length d.b.qc, .int .i64 d.b.cs, .int .i64 d.b.nx, .slice d.oa d.os.length d.oc], .int .i64 KK]) ∧ EnSame DD d ∧ EnLq w' W.heap.size w'.heap.size d ∧ Below W.heap.size W w') := by
 refine ⟨pkE e i x, pkCode e i x, pkE_fit hf i x hx, fun c W h1 h2 => ?_, fun c lo hi W h1 h2 => ?_⟩
 ·refine (iputk c (h1.fit hf) i x hx W h2).mono ?_
  rintro ex w' ⟨d, he, hs, hl, hb⟩
  exact ⟨d, by rw [he, (pk_same h1 i x).1], (pk_same h1 i x).2.trans hs, hl, hb⟩
 ·refine (sputk c lo hi (h1.fit hf) i x hx W h2).mono ?_
  rintro ex w' ⟨d, he, hs, hl, hb⟩
  exact ⟨d, by rw [he, (pk_same h1 i x).1], (pk_same h1 i x).2.trans hs, hl, hb⟩

set_option maxRecDepth 100000 in
set_option maxHeartbeats 16000000 in
theorem law5 (e : En) (i : Int) (f t2 : ByteArray) (gone : Bool) (w : World) (hpe : EnArg w e) (hf : f.size ≤ maxLen) (ht : t2.size ≤ maxLen) : Calls Tryz.prog 5 #[.agg #[.slice e.b.va e.b.vs.length e.b.vc, .slice e.b.pa e.b.ps.length e.b.pc, .slice e.b.qa e.b.qs.length e.b.qc, .int .i64 e.b.cs, .int .i64 e.b.nx, .slice e.oa e.os.length e.oc], .int .i64 i, .agg #[.string f, .string t2, .bool gone]] w fun ex w' => ex = .returned (.bool true) ∧ Below w.heap.size w w' := by
 obtain ⟨x, hxx⟩ : ∃ x : Wt, x = (f, t2, gone) := ⟨_, rfl⟩
 have e1 : f = x.1 := by rw [hxx]
 have e2 : t2 = x.2.1 := by rw [hxx]
 have e3 : gone = x.2.2 := by rw [hxx]
 rw [e1] at hf
 rw [e2] at ht
 rw [e1, e2, e3]
 clear e1 e2 e3 hxx
 have HPe : Hid (EnArg w e) := hpe
 clear hpe
 have BA : Hid (Bx ((w.alloc (.cells #[.slice e.b.va e.b.vs.length e.b.vc, .slice e.b.pa e.b.ps.length e.b.pc, .slice e.b.qa e.b.qs.length e.b.qc, .int .i64 e.b.cs, .int .i64 e.b.nx, .slice e.oa e.os.length e.oc] 27)).alloc (.cells #[.string x.1, .string x.2.1, .bool x.2.2] 43)) w.heap.size [.slice e.b.va e.b.vs.length e.b.vc, .slice e.b.pa e.b.ps.length e.b.pc, .slice e.b.qa e.b.qs.length e.b.qc, .int .i64 e.b.cs, .int .i64 e.b.nx, .slice e.oa e.os.length e.oc]) := (Bx.new w [.slice e.b.va e.b.vs.length e.b.vc, .slice e.b.pa e.b.ps.length e.b.pc, .slice e.b.qa e.b.qs.length e.b.qc, .int .i64 e.b.cs, .int .i64 e.b.nx, .slice e.oa e.os.length e.oc] 27).alloc _
 have BR : Hid (Bx ((w.alloc (.cells #[.slice e.b.va e.b.vs.length e.b.vc, .slice e.b.pa e.b.ps.length e.b.pc, .slice e.b.qa e.b.qs.length e.b.qc, .int .i64 e.b.cs, .int .i64 e.b.nx, .slice e.oa e.os.length e.oc] 27)).alloc (.cells #[.string x.1, .string x.2.1, .bool x.2.2] 43)) (w.heap.size + 1) [.string x.1, .string x.2.1, .bool x.2.2]) := by
  have h := Bx.new (w.alloc (.cells #[.slice e.b.va e.b.vs.length e.b.vc, .slice e.b.pa e.b.ps.length e.b.pc, .slice e.b.qa e.b.qs.length e.b.qc, .int .i64 e.b.cs, .int .i64 e.b.nx, .slice e.oa e.os.length e.oc] 27)) [.string x.1, .string x.2.1, .bool x.2.2] 43
  rw [World.size_alloc] at h
  exact h
 have HB : Hid (Below w.heap.size w ((w.alloc (.cells #[.slice e.b.va e.b.vs.length e.b.vc, .slice e.b.pa e.b.ps.length e.b.pc, .slice e.b.qa e.b.qs.length e.b.qc, .int .i64 e.b.cs, .int .i64 e.b.nx, .slice e.oa e.os.length e.oc] 27)).alloc (.cells #[.string x.1, .string x.2.1, .bool x.2.2] 43))) := ((belowRefl w).alloc (Nat.le_refl _) _).alloc (by simp) _
 have AB : Hid (EnArg ((w.alloc (.cells #[.slice e.b.va e.b.vs.length e.b.vc, .slice e.b.pa e.b.ps.length e.b.pc, .slice e.b.qa e.b.qs.length e.b.qc, .int .i64 e.b.cs, .int .i64 e.b.nx, .slice e.oa e.os.length e.oc] 27)).alloc (.cells #[.string x.1, .string x.2.1, .bool x.2.2] 43)) e) := HPe.out.below HB.out
 go_enter Tryz.func5, Tryz.ntmps5
 have x0 := BA.out.c0
 have x1 := BA.out.c1
 have x2 := BA.out.c2
 have x3 := BA.out.c3
 have x4 := BA.out.c4
 have x5 := BA.out.c5
 go_wp2_with fail
 refine (szE e 1048576 (by omega) (by omega) _ AB.out).mono ?_
 rintro e w1 ⟨hb1, lft, rfl, hut, hrt⟩
 have Z1 : Hid (w.heap.size + 1 + 1 ≤ w1.heap.size) := by show _ ≤ _; have h := hb1.size; simpa using h
 replace BA : Hid (Bx w1 w.heap.size [.slice e.b.va e.b.vs.length e.b.vc, .slice e.b.pa e.b.ps.length e.b.pc, .slice e.b.qa e.b.qs.length e.b.qc, .int .i64 e.b.cs, .int .i64 e.b.nx, .slice e.oa e.os.length e.oc]) := BA.out.below hb1
 replace BR : Hid (Bx w1 (w.heap.size + 1) [.string x.1, .string x.2.1, .bool x.2.2]) := BR.out.below hb1
 replace HB : Hid (Below w.heap.size w w1) := HB.out.trans (hb1.mono HB.out.size)
 replace AB : Hid (EnArg w1 e) := HPe.out.below HB.out
 clear hb1 x0 x1 x2 x3 x4 x5
 by_cases hneg : lft < 0
 ·clear hrt
  go_wp2
  go_ret
  exact ⟨rfl, HB.out⟩
 have hpost : ¬ lft < 0 := hneg
 have hpost' : 0 ≤ lft := by omega
 have HF : Hid (EnFit e) := hrt (by omega)
 clear hrt hneg
 have y0 := BR.out.c0
 have y1 := BR.out.c1
 have y2 := BR.out.c2
 go_wp2_with fail
 refine (szw x.1 x.2.1 x.2.2 lft hpost' hut hf ht _).mono ?_
 rintro e w2 ⟨r1, rfl, hr1, hb2⟩
 have Z2 : Hid (w1.heap.size ≤ w2.heap.size) := by show _ ≤ _; have h := hb2.size; simpa using h
 replace BA : Hid (Bx w2 w.heap.size [.slice e.b.va e.b.vs.length e.b.vc, .slice e.b.pa e.b.ps.length e.b.pc, .slice e.b.qa e.b.qs.length e.b.qc, .int .i64 e.b.cs, .int .i64 e.b.nx, .slice e.oa e.os.length e.oc]) := BA.out.below hb2
 replace BR : Hid (Bx w2 (w.heap.size + 1) [.string x.1, .string x.2.1, .bool x.2.2]) := BR.out.below hb2
 replace HB : Hid (Below w.heap.size w w2) := HB.out.trans (hb2.mono HB.out.size)
 replace AB : Hid (EnArg w2 e) := HPe.out.below HB.out
 clear hb2 y0 y1 y2
 by_cases hneg1 : r1 < 0
 ·clear hr1
  go_wp2
  go_ret
  exact ⟨rfl, HB.out⟩
 have hpos1 : ¬ r1 < 0 := hneg1
 have HX : Hid (x.1.size ≤ 1048576 ∧ x.2.1.size ≤ 1048576) := by
  show _ ∧ _
  rcases hr1 with h | h <;> omega
 clear hr1 hneg1
 obtain ⟨DD, KK, hfd, ci, cs⟩ := pcon e HF.out i x HX.out
 have HFD : Hid (EnFit DD) := hfd
 have CI := hide ci
 have CS := hide cs
 have hkk := ne_self_int KK
 have TW : Hid (∀ w, Calls Tryz.prog 17 #[.agg #[.string x.1, .string x.2.1, .bool x.2.2]] w fun e w' => e = .returned (.agg #[.string x.1, .string x.2.1, .bool x.2.2]) ∧ Below w.heap.size w w') := fun w => tow x.1 x.2.1 x.2.2 w
 clear hfd ci cs
 go_wp2
 go_cut [8, 9] from 28 to 36 (fun p q wx => ∃ (ob lo hi : Nat) (d : En), p = .pointer (some ⟨ob, 0, none⟩) ∧ q = .int .i64 KK ∧ Hid (w2.heap.size ≤ ob ∧ ob < wx.heap.size ∧ w2.heap.size ≤ lo ∧ lo ≤ hi ∧ hi ≤ wx.heap.size ∧ (ob < lo ∨ hi ≤ ob)) ∧ Hid (Bx wx ob [.slice d.b.va d.b.vs.length d.b.vc, .slice d.b.pa d.b.ps.length d.b.pc, .slice d.b.qa d.b.qs.length d.b.qc, .int .i64 d.b.cs, .int .i64 d.b.nx, .slice d.oa d.os.length d.oc]) ∧ Hid (EnSame DD d) ∧ Hid (EnLq wx (lo) (hi) d) ∧ Hid (Below (w2.heap.size) w2 wx))
 case first =>
  have HN : Hid (Below (w2.heap.size) w2 w2) := belowRefl w2
  refine wp_region_held_drew (S := fun w' => w'.cell? ⟨w.heap.size, 0, none⟩ = some (.slice e.b.va e.b.vs.length e.b.vc) ∧ w'.cell? ⟨w.heap.size, 1, none⟩ = some (.slice e.b.pa e.b.ps.length e.b.pc) ∧ w'.cell? ⟨w.heap.size, 2, none⟩ = some (.slice e.b.qa e.b.qs.length e.b.qc) ∧ w'.cell? ⟨w.heap.size, 3, none⟩ = some (.int .i64 e.b.cs) ∧ w'.cell? ⟨w.heap.size, 4, none⟩ = some (.int .i64 e.b.nx) ∧ w'.cell? ⟨w.heap.size, 5, none⟩ = some (.slice e.oa e.os.length e.oc) ∧ w'.cell? ⟨w.heap.size + 1, 0, none⟩ = some (.string x.1) ∧ w'.cell? ⟨w.heap.size + 1, 1, none⟩ = some (.string x.2.1) ∧ w'.cell? ⟨w.heap.size + 1, 2, none⟩ = some (.bool x.2.2)) (by kernel_rfl) ⟨BA.out.c0, BA.out.c1, BA.out.c2, BA.out.c3, BA.out.c4, BA.out.c5, BR.out.c0, BR.out.c1, BR.out.c2⟩ (fun hHeld => ?_)
  (refine tk 0 ?_ rfl (Or.inl ⟨by rfl, ?_⟩) ?_; rotate_left; (focus (intro w h; (try dsimp only at h); go_simp; (try with_reducible rfl))); simp only [Act.put, tA, tB, tD, tE, tF])
  (refine tk 2 ?_ rfl (Or.inl ⟨by rfl, ?_⟩) ?_; rotate_left; (focus (intro w h; (try dsimp only at h); go_simp; (try with_reducible rfl))); simp only [Act.put, tA, tB, tC, tD, tE, tF])
  (refine tk 3 ?_ rfl (Or.inl ⟨by rfl, ?_⟩) ?_; rotate_left; (focus (intro w h; (try dsimp only at h); go_simp; (try with_reducible rfl))); simp only [Act.put, tA, tB, tC, tD, tE, tF])
  refine wpAnyH_ready (rs := [1, 9]) (by kernel_rfl) (by simp) ?_
  refine AllReadyH.cons rfl (fun K hK => ?_) (AllReadyH.cons rfl (fun K hK => ?_) AllReadyH.nil)
  ·go_simp
   go_wp2_with fail
   refine (toE e HF.out _ AB.out.rows.drewE).mono ?_
   rintro e w3 ⟨c1, rfl, hs, hl, hb3⟩
   have hbu3 := undrew hb3
   have Z3 : Hid (w2.heap.size ≤ w3.heap.size) := by show _ ≤ _; have h := hbu3.size; simpa using h
   replace BA : Hid (Bx w3 w.heap.size [.slice e.b.va e.b.vs.length e.b.vc, .slice e.b.pa e.b.ps.length e.b.pc, .slice e.b.qa e.b.qs.length e.b.qc, .int .i64 e.b.cs, .int .i64 e.b.nx, .slice e.oa e.os.length e.oc]) := BA.out.below hbu3
   replace BR : Hid (Bx w3 (w.heap.size + 1) [.string x.1, .string x.2.1, .bool x.2.2]) := BR.out.below hbu3
   replace HB : Hid (Below w.heap.size w w3) := HB.out.trans (hbu3.mono HB.out.size)
   replace AB : Hid (EnArg w3 e) := HPe.out.below HB.out
   replace HN : Hid (Below (w2.heap.size) w2 w3) := HN.out.trans (hbu3.mono HN.out.size)
   have L1 : Hid (EnLie w3 (w2.heap.size) w3.heap.size c1) := hl
   have C1 : Hid (EnSame e c1) := hs
   clear hl hs
   go_wp2_with fail
   refine hK.out _ _ ⟨BA.out.c0, BA.out.c1, BA.out.c2, BA.out.c3, BA.out.c4, BA.out.c5, BR.out.c0, BR.out.c1, BR.out.c2⟩ (fun hHeld3 => ?_)
   clear hK K hb3 hbu3
   refine wpAnyH_ready (rs := [4, 9]) (by kernel_rfl) (by simp) ?_
   refine AllReadyH.cons rfl (fun K hK => ?_) (AllReadyH.cons rfl (fun K hK => ?_) AllReadyH.nil)
   ·go_simp
    go_wp2_with fail
    refine (TW.out _).mono ?_
    rintro e w4 ⟨rfl, hb4⟩
    have Z4 : Hid (w3.heap.size ≤ w4.heap.size) := by show _ ≤ _; have h := hb4.size; simpa using h
    replace BA : Hid (Bx w4 w.heap.size [.slice e.b.va e.b.vs.length e.b.vc, .slice e.b.pa e.b.ps.length e.b.pc, .slice e.b.qa e.b.qs.length e.b.qc, .int .i64 e.b.cs, .int .i64 e.b.nx, .slice e.oa e.os.length e.oc]) := BA.out.below hb4
    replace BR : Hid (Bx w4 (w.heap.size + 1) [.string x.1, .string x.2.1, .bool x.2.2]) := BR.out.below hb4
    replace HB : Hid (Below w.heap.size w w4) := HB.out.trans (hb4.mono HB.out.size)
    replace AB : Hid (EnArg w4 e) := HPe.out.below HB.out
    replace HN : Hid (Below (w2.heap.size) w2 w4) := HN.out.trans (hb4.mono HN.out.size)
    replace L1 : Hid (EnLie w4 (w2.heap.size) w3.heap.size c1) := L1.out.below hb4
    go_wp2_with fail
    refine hK.out _ _ ⟨BA.out.c0, BA.out.c1, BA.out.c2, BA.out.c3, BA.out.c4, BA.out.c5, BR.out.c0, BR.out.c1, BR.out.c2⟩ (fun hHeld4 => ?_)
    clear hK K hb4
    refine wpAnyH_ready (rs := [5, 9]) (by kernel_rfl) (by simp) ?_
    refine AllReadyH.cons rfl (fun K hK => ?_) (AllReadyH.cons rfl (fun K hK => ?_) AllReadyH.nil)
    ·go_simp
     go_wp2_with fail
     refine (CS.out c1 _ _ _ C1.out L1.out).mono ?_
     rintro e w5 ⟨da1, rfl, hs, hl, hb5⟩
     have Z5 : Hid (w4.heap.size ≤ w5.heap.size) := by show _ ≤ _; have h := hb5.size; simpa using h
     replace BA : Hid (Bx w5 w.heap.size [.slice e.b.va e.b.vs.length e.b.vc, .slice e.b.pa e.b.ps.length e.b.pc, .slice e.b.qa e.b.qs.length e.b.qc, .int .i64 e.b.cs, .int .i64 e.b.nx, .slice e.oa e.os.length e.oc]) := BA.out.below hb5
     replace BR : Hid (Bx w5 (w.heap.size + 1) [.string x.1, .string x.2.1, .bool x.2.2]) := BR.out.below hb5
     replace HB : Hid (Below w.heap.size w w5) := HB.out.trans (hb5.mono HB.out.size)
     replace AB : Hid (EnArg w5 e) := HPe.out.below HB.out
     replace HN : Hid (Below (w2.heap.size) w2 w5) := HN.out.trans (hb5.mono HN.out.size)
     replace L1 : Hid (EnLie w5 (w2.heap.size) w3.heap.size c1) := L1.out.below hb5
     have TA : Hid (EnLq w5 (w4.heap.size) w5.heap.size da1) := hl
     have TS : Hid (EnSame DD da1) := hs
     clear hl hs
     go_wp2_with fail
     refine hK.out _ _ ⟨BA.out.c0, BA.out.c1, BA.out.c2, BA.out.c3, BA.out.c4, BA.out.c5, BR.out.c0, BR.out.c1, BR.out.c2⟩ (fun hHeld5 => ?_)
     clear hK K hb5
     (refine tk 6 ?_ rfl (Or.inl ⟨by rfl, ?_⟩) ?_; rotate_left; (focus (intro w h; (try dsimp only at h); go_simp; (try with_reducible rfl))); simp only [Act.put, tA, tB, tC, tD, tE, tF])
     (refine tk 7 ?_ rfl (Or.inl ⟨by rfl, ?_⟩) ?_; rotate_left; (focus (intro w h; (try dsimp only at h); go_simp; (try with_reducible rfl))); simp only [Act.put, tA, tB, tC, tD, tE, tF])
     (refine tk 8 ?_ rfl (Or.inl ⟨by rfl, ?_⟩) ?_; rotate_left; (focus (intro w h; (try dsimp only at h); go_simp; (try with_reducible rfl))); simp only [Act.put, tA, tB, tC, tD, tE, tF])
     refine wpAnyH_ready (rs := [9]) (by kernel_rfl) (by simp) ?_
     refine AllReadyH.cons rfl (fun K hK => ?_) AllReadyH.nil
     go_simp
     have BAq := BA
     have BRq := BR
     have TAq := TA
     have HNq := HN
     have hba : Below w5.heap.size w5 (w5.alloc (.cells #[.slice none 0 0, .slice none 0 0, .slice none 0 0, .int .i64 0, .int .i64 0, .slice none 0 0] 35)) := (belowRefl _).alloc (Nat.le_refl _) _
     replace BA : Hid (Bx (w5.alloc (.cells #[.slice none 0 0, .slice none 0 0, .slice none 0 0, .int .i64 0, .int .i64 0, .slice none 0 0] 35)) w.heap.size [.slice e.b.va e.b.vs.length e.b.vc, .slice e.b.pa e.b.ps.length e.b.pc, .slice e.b.qa e.b.qs.length e.b.qc, .int .i64 e.b.cs, .int .i64 e.b.nx, .slice e.oa e.os.length e.oc]) := BA.out.below hba
     replace BR : Hid (Bx (w5.alloc (.cells #[.slice none 0 0, .slice none 0 0, .slice none 0 0, .int .i64 0, .int .i64 0, .slice none 0 0] 35)) (w.heap.size + 1) [.string x.1, .string x.2.1, .bool x.2.2]) := BR.out.below hba
     replace HB : Hid (Below w.heap.size w (w5.alloc (.cells #[.slice none 0 0, .slice none 0 0, .slice none 0 0, .int .i64 0, .int .i64 0, .slice none 0 0] 35))) := HB.out.trans (hba.mono HB.out.size)
     replace AB : Hid (EnArg (w5.alloc (.cells #[.slice none 0 0, .slice none 0 0, .slice none 0 0, .int .i64 0, .int .i64 0, .slice none 0 0] 35)) e) := HPe.out.below HB.out
     replace HN : Hid (Below (w2.heap.size) w2 (w5.alloc (.cells #[.slice none 0 0, .slice none 0 0, .slice none 0 0, .int .i64 0, .int .i64 0, .slice none 0 0] 35))) := HN.out.trans (hba.mono HN.out.size)
     replace L1 : Hid (EnLie (w5.alloc (.cells #[.slice none 0 0, .slice none 0 0, .slice none 0 0, .int .i64 0, .int .i64 0, .slice none 0 0] 35)) (w2.heap.size) w3.heap.size c1) := L1.out.below hba
     replace TA : Hid (EnLq (w5.alloc (.cells #[.slice none 0 0, .slice none 0 0, .slice none 0 0, .int .i64 0, .int .i64 0, .slice none 0 0] 35)) (w4.heap.size) w5.heap.size da1) := TA.out.below hba
     clear hba
     have BOX : Hid (Bx (w5.alloc (.cells #[.slice none 0 0, .slice none 0 0, .slice none 0 0, .int .i64 0, .int .i64 0, .slice none 0 0] 35)) (w5.heap.size) [.slice none 0 0, .slice none 0 0, .slice none 0 0, .int .i64 0, .int .i64 0, .slice none 0 0]) := Bx.new w5 [.slice none 0 0, .slice none 0 0, .slice none 0 0, .int .i64 0, .int .i64 0, .slice none 0 0] 35
     (try go_wp2_with fail)
     refine hK.out _ _ ⟨BA.out.c0, BA.out.c1, BA.out.c2, BA.out.c3, BA.out.c4, BA.out.c5, BR.out.c0, BR.out.c1, BR.out.c2⟩ (fun hHeldB => ?_)
     clear hK K
     refine wpAnyH_ready (rs := [10]) (by kernel_rfl) (by simp) ?_
     refine AllReadyH.cons rfl (fun K hK => ?_) AllReadyH.nil
     go_simp
     have hbn : Below w5.heap.size w5 (w5.alloc (.cells #[.slice da1.b.va da1.b.vs.length da1.b.vc, .slice da1.b.pa da1.b.ps.length da1.b.pc, .slice da1.b.qa da1.b.qs.length da1.b.qc, .int .i64 da1.b.cs, .int .i64 da1.b.nx, .slice da1.oa da1.os.length da1.oc] 35)) := (belowRefl _).alloc (Nat.le_refl _) _
     have BAs := hide0 (BAq.out.below hbn)
     have BRs := hide0 (BRq.out.below hbn)
     refine hK.out _ _ ⟨BAs.out.c0, BAs.out.c1, BAs.out.c2, BAs.out.c3, BAs.out.c4, BAs.out.c5, BRs.out.c0, BRs.out.c1, BRs.out.c2⟩ (fun hHeldS => ?_)
     clear hK K
     (refine tk 11 ?_ rfl (Or.inl ⟨by rfl, ?_⟩) ?_; rotate_left; (focus (intro w h; (try dsimp only at h); go_simp; (try with_reducible rfl))); simp only [Act.put, tA, tB, tC, tD, tE, tF])
     refine wpAnyH_done (by kernel_rfl) ?_ _
     have OB : Hid (Bx (w5.alloc (.cells #[.slice da1.b.va da1.b.vs.length da1.b.vc, .slice da1.b.pa da1.b.ps.length da1.b.pc, .slice da1.b.qa da1.b.qs.length da1.b.qc, .int .i64 da1.b.cs, .int .i64 da1.b.nx, .slice da1.oa da1.os.length da1.oc] 35)) (w5.heap.size) [.slice da1.b.va da1.b.vs.length da1.b.vc, .slice da1.b.pa da1.b.ps.length da1.b.pc, .slice da1.b.qa da1.b.qs.length da1.b.qc, .int .i64 da1.b.cs, .int .i64 da1.b.nx, .slice da1.oa da1.os.length da1.oc]) := Bx.new w5 [.slice da1.b.va da1.b.vs.length da1.b.vc, .slice da1.b.pa da1.b.ps.length da1.b.pc, .slice da1.b.qa da1.b.qs.length da1.b.qc, .int .i64 da1.b.cs, .int .i64 da1.b.nx, .slice da1.oa da1.os.length da1.oc] 35
     have TT : Hid (EnLq (w5.alloc (.cells #[.slice da1.b.va da1.b.vs.length da1.b.vc, .slice da1.b.pa da1.b.ps.length da1.b.pc, .slice da1.b.qa da1.b.qs.length da1.b.qc, .int .i64 da1.b.cs, .int .i64 da1.b.nx, .slice da1.oa da1.os.length da1.oc] 35)) (w4.heap.size) (w5.heap.size) da1) := TAq.out.below hbn
     have NN : Hid (Below (w2.heap.size) w2 (w5.alloc (.cells #[.slice da1.b.va da1.b.vs.length da1.b.vc, .slice da1.b.pa da1.b.ps.length da1.b.pc, .slice da1.b.qa da1.b.qs.length da1.b.qc, .int .i64 da1.b.cs, .int .i64 da1.b.nx, .slice da1.oa da1.os.length da1.oc] 35))) := HNq.out.trans (hbn.mono HNq.out.size)
     have SS : Hid ((w5.alloc (.cells #[.slice da1.b.va da1.b.vs.length da1.b.vc, .slice da1.b.pa da1.b.ps.length da1.b.pc, .slice da1.b.qa da1.b.qs.length da1.b.qc, .int .i64 da1.b.cs, .int .i64 da1.b.nx, .slice da1.oa da1.os.length da1.oc] 35)).heap.size = w5.heap.size + 1) := World.size_alloc _ _
     clear hbn
     go_wp2_with fail
     go_meet
     exact ⟨w5.heap.size, w4.heap.size, w5.heap.size, da1, rfl, rfl, (by show _ ∧ _; have := Z1.out; have := Z2.out; have := Z3.out; have := Z4.out; have := Z5.out; have := SS.out; omega), OB, TS, TT, NN⟩
    ·go_simp
     have hba : Below w4.heap.size w4 (w4.alloc (.cells #[.slice none 0 0, .slice none 0 0, .slice none 0 0, .int .i64 0, .int .i64 0, .slice none 0 0] 35)) := (belowRefl _).alloc (Nat.le_refl _) _
     replace BA : Hid (Bx (w4.alloc (.cells #[.slice none 0 0, .slice none 0 0, .slice none 0 0, .int .i64 0, .int .i64 0, .slice none 0 0] 35)) w.heap.size [.slice e.b.va e.b.vs.length e.b.vc, .slice e.b.pa e.b.ps.length e.b.pc, .slice e.b.qa e.b.qs.length e.b.qc, .int .i64 e.b.cs, .int .i64 e.b.nx, .slice e.oa e.os.length e.oc]) := BA.out.below hba
     replace BR : Hid (Bx (w4.alloc (.cells #[.slice none 0 0, .slice none 0 0, .slice none 0 0, .int .i64 0, .int .i64 0, .slice none 0 0] 35)) (w.heap.size + 1) [.string x.1, .string x.2.1, .bool x.2.2]) := BR.out.below hba
     replace HB : Hid (Below w.heap.size w (w4.alloc (.cells #[.slice none 0 0, .slice none 0 0, .slice none 0 0, .int .i64 0, .int .i64 0, .slice none 0 0] 35))) := HB.out.trans (hba.mono HB.out.size)
     replace AB : Hid (EnArg (w4.alloc (.cells #[.slice none 0 0, .slice none 0 0, .slice none 0 0, .int .i64 0, .int .i64 0, .slice none 0 0] 35)) e) := HPe.out.below HB.out
     replace HN : Hid (Below (w2.heap.size) w2 (w4.alloc (.cells #[.slice none 0 0, .slice none 0 0, .slice none 0 0, .int .i64 0, .int .i64 0, .slice none 0 0] 35))) := HN.out.trans (hba.mono HN.out.size)
     replace L1 : Hid (EnLie (w4.alloc (.cells #[.slice none 0 0, .slice none 0 0, .slice none 0 0, .int .i64 0, .int .i64 0, .slice none 0 0] 35)) (w2.heap.size) w3.heap.size c1) := L1.out.below hba
     clear hba
     have BOX : Hid (Bx (w4.alloc (.cells #[.slice none 0 0, .slice none 0 0, .slice none 0 0, .int .i64 0, .int .i64 0, .slice none 0 0] 35)) (w4.heap.size) [.slice none 0 0, .slice none 0 0, .slice none 0 0, .int .i64 0, .int .i64 0, .slice none 0 0]) := Bx.new w4 [.slice none 0 0, .slice none 0 0, .slice none 0 0, .int .i64 0, .int .i64 0, .slice none 0 0] 35
     (try go_wp2_with fail)
     refine hK.out _ _ ⟨BA.out.c0, BA.out.c1, BA.out.c2, BA.out.c3, BA.out.c4, BA.out.c5, BR.out.c0, BR.out.c1, BR.out.c2⟩ (fun hHeldB => ?_)
     clear hK K
     refine wpAnyH_ready (rs := [5]) (by kernel_rfl) (by simp) ?_
     refine AllReadyH.cons rfl (fun K hK => ?_) AllReadyH.nil
     go_simp
     go_wp2_with fail
     refine (CS.out c1 _ _ _ C1.out L1.out).mono ?_
     rintro e w5 ⟨da1, rfl, hs, hl, hb5⟩
     have Z5 : Hid (w4.heap.size + 1 ≤ w5.heap.size) := by show _ ≤ _; have h := hb5.size; simpa using h
     replace BA : Hid (Bx w5 w.heap.size [.slice e.b.va e.b.vs.length e.b.vc, .slice e.b.pa e.b.ps.length e.b.pc, .slice e.b.qa e.b.qs.length e.b.qc, .int .i64 e.b.cs, .int .i64 e.b.nx, .slice e.oa e.os.length e.oc]) := BA.out.below hb5
     replace BR : Hid (Bx w5 (w.heap.size + 1) [.string x.1, .string x.2.1, .bool x.2.2]) := BR.out.below hb5
     replace HB : Hid (Below w.heap.size w w5) := HB.out.trans (hb5.mono HB.out.size)
     replace AB : Hid (EnArg w5 e) := HPe.out.below HB.out
     replace HN : Hid (Below (w2.heap.size) w2 w5) := HN.out.trans (hb5.mono HN.out.size)
     replace L1 : Hid (EnLie w5 (w2.heap.size) w3.heap.size c1) := L1.out.below hb5
     replace BOX : Hid (Bx w5 (w4.heap.size) [.slice none 0 0, .slice none 0 0, .slice none 0 0, .int .i64 0, .int .i64 0, .slice none 0 0]) := BOX.out.below hb5
     have TA : Hid (EnLq w5 (w4.heap.size + 1) w5.heap.size da1) := (by show EnLq _ _ _ _; simpa using hl)
     have TS : Hid (EnSame DD da1) := hs
     clear hl hs
     go_wp2_with fail
     refine hK.out _ _ ⟨BA.out.c0, BA.out.c1, BA.out.c2, BA.out.c3, BA.out.c4, BA.out.c5, BR.out.c0, BR.out.c1, BR.out.c2⟩ (fun hHeld5 => ?_)
     clear hK K hb5
     (refine tk 6 ?_ rfl (Or.inl ⟨by rfl, ?_⟩) ?_; rotate_left; (focus (intro w h; (try dsimp only at h); go_simp; (try with_reducible rfl))); simp only [Act.put, tA, tB, tC, tD, tE, tF])
     (refine tk 7 ?_ rfl (Or.inl ⟨by rfl, ?_⟩) ?_; rotate_left; (focus (intro w h; (try dsimp only at h); go_simp; (try with_reducible rfl))); simp only [Act.put, tA, tB, tC, tD, tE, tF])
     (refine tk 8 ?_ rfl (Or.inl ⟨by rfl, ?_⟩) ?_; rotate_left; (focus (intro w h; (try dsimp only at h); go_simp; (try with_reducible rfl))); simp only [Act.put, tA, tB, tC, tD, tE, tF])
     have zc0 := BOX.out.c0
     have zc1 := BOX.out.c1
     have zc2 := BOX.out.c2
     have zc3 := BOX.out.c3
     have zc4 := BOX.out.c4
     have zc5 := BOX.out.c5
     have zf := BOX.out.fz
     refine wpAnyH_ready (rs := [10]) (by kernel_rfl) (by simp) ?_
     refine AllReadyH.cons rfl (fun K hK => ?_) AllReadyH.nil
     go_simp
     have hz6 : Zn (w4.heap.size) (w4.heap.size + 1) w5 ((((((w5.setCell ⟨w4.heap.size, 0, none⟩ (.slice da1.b.va da1.b.vs.length da1.b.vc)).setCell ⟨w4.heap.size, 1, none⟩ (.slice da1.b.pa da1.b.ps.length da1.b.pc)).setCell ⟨w4.heap.size, 2, none⟩ (.slice da1.b.qa da1.b.qs.length da1.b.qc)).setCell ⟨w4.heap.size, 3, none⟩ (.int .i64 da1.b.cs)).setCell ⟨w4.heap.size, 4, none⟩ (.int .i64 da1.b.nx)).setCell ⟨w4.heap.size, 5, none⟩ (.slice da1.oa da1.os.length da1.oc)) := zn_s6 w5 (w4.heap.size) (.slice da1.b.va da1.b.vs.length da1.b.vc) (.slice da1.b.pa da1.b.ps.length da1.b.pc) (.slice da1.b.qa da1.b.qs.length da1.b.qc) (.int .i64 da1.b.cs) (.int .i64 da1.b.nx) (.slice da1.oa da1.os.length da1.oc)
     have BAs := hide0 (BA.out.zn hz6 (by have := Z1.out; have := Z2.out; have := Z3.out; have := Z4.out; have := Z5.out; omega))
     have BRs := hide0 (BR.out.zn hz6 (by have := Z1.out; have := Z2.out; have := Z3.out; have := Z4.out; have := Z5.out; omega))
     refine hK.out _ _ ⟨BAs.out.c0, BAs.out.c1, BAs.out.c2, BAs.out.c3, BAs.out.c4, BAs.out.c5, BRs.out.c0, BRs.out.c1, BRs.out.c2⟩ (fun hHeldS => ?_)
     clear hK K zc0 zc1 zc2 zc3 zc4 zc5 zf
     (refine tk 11 ?_ rfl (Or.inl ⟨by rfl, ?_⟩) ?_; rotate_left; (focus (intro w h; (try dsimp only at h); go_simp; (try with_reducible rfl))); simp only [Act.put, tA, tB, tC, tD, tE, tF])
     refine wpAnyH_done (by kernel_rfl) ?_ _
     have OB : Hid (Bx ((((((w5.setCell ⟨w4.heap.size, 0, none⟩ (.slice da1.b.va da1.b.vs.length da1.b.vc)).setCell ⟨w4.heap.size, 1, none⟩ (.slice da1.b.pa da1.b.ps.length da1.b.pc)).setCell ⟨w4.heap.size, 2, none⟩ (.slice da1.b.qa da1.b.qs.length da1.b.qc)).setCell ⟨w4.heap.size, 3, none⟩ (.int .i64 da1.b.cs)).setCell ⟨w4.heap.size, 4, none⟩ (.int .i64 da1.b.nx)).setCell ⟨w4.heap.size, 5, none⟩ (.slice da1.oa da1.os.length da1.oc)) (w4.heap.size) [.slice da1.b.va da1.b.vs.length da1.b.vc, .slice da1.b.pa da1.b.ps.length da1.b.pc, .slice da1.b.qa da1.b.qs.length da1.b.qc, .int .i64 da1.b.cs, .int .i64 da1.b.nx, .slice da1.oa da1.os.length da1.oc]) := bx_s6 BOX.out (.slice da1.b.va da1.b.vs.length da1.b.vc) (.slice da1.b.pa da1.b.ps.length da1.b.pc) (.slice da1.b.qa da1.b.qs.length da1.b.qc) (.int .i64 da1.b.cs) (.int .i64 da1.b.nx) (.slice da1.oa da1.os.length da1.oc)
     have TT : Hid (EnLq ((((((w5.setCell ⟨w4.heap.size, 0, none⟩ (.slice da1.b.va da1.b.vs.length da1.b.vc)).setCell ⟨w4.heap.size, 1, none⟩ (.slice da1.b.pa da1.b.ps.length da1.b.pc)).setCell ⟨w4.heap.size, 2, none⟩ (.slice da1.b.qa da1.b.qs.length da1.b.qc)).setCell ⟨w4.heap.size, 3, none⟩ (.int .i64 da1.b.cs)).setCell ⟨w4.heap.size, 4, none⟩ (.int .i64 da1.b.nx)).setCell ⟨w4.heap.size, 5, none⟩ (.slice da1.oa da1.os.length da1.oc)) (w4.heap.size + 1) (w5.heap.size) da1) := TA.out.zn hz6 (by have := Z1.out; have := Z2.out; have := Z3.out; have := Z4.out; have := Z5.out; omega)
     have NN : Hid (Below (w2.heap.size) w2 ((((((w5.setCell ⟨w4.heap.size, 0, none⟩ (.slice da1.b.va da1.b.vs.length da1.b.vc)).setCell ⟨w4.heap.size, 1, none⟩ (.slice da1.b.pa da1.b.ps.length da1.b.pc)).setCell ⟨w4.heap.size, 2, none⟩ (.slice da1.b.qa da1.b.qs.length da1.b.qc)).setCell ⟨w4.heap.size, 3, none⟩ (.int .i64 da1.b.cs)).setCell ⟨w4.heap.size, 4, none⟩ (.int .i64 da1.b.nx)).setCell ⟨w4.heap.size, 5, none⟩ (.slice da1.oa da1.os.length da1.oc))) := HN.out.trans (hz6.below (by have := Z1.out; have := Z2.out; have := Z3.out; have := Z4.out; have := Z5.out; omega) (by have := Z1.out; have := Z2.out; have := Z3.out; have := Z4.out; have := Z5.out; omega))
     have SS : Hid (((((((w5.setCell ⟨w4.heap.size, 0, none⟩ (.slice da1.b.va da1.b.vs.length da1.b.vc)).setCell ⟨w4.heap.size, 1, none⟩ (.slice da1.b.pa da1.b.ps.length da1.b.pc)).setCell ⟨w4.heap.size, 2, none⟩ (.slice da1.b.qa da1.b.qs.length da1.b.qc)).setCell ⟨w4.heap.size, 3, none⟩ (.int .i64 da1.b.cs)).setCell ⟨w4.heap.size, 4, none⟩ (.int .i64 da1.b.nx)).setCell ⟨w4.heap.size, 5, none⟩ (.slice da1.oa da1.os.length da1.oc)).heap.size = w5.heap.size) := by show _ = _; simp [World.setCell]
     clear hz6
     go_wp2_with fail
     go_meet
     exact ⟨w4.heap.size, w4.heap.size + 1, w5.heap.size, da1, rfl, rfl, (by show _ ∧ _; have := Z1.out; have := Z2.out; have := Z3.out; have := Z4.out; have := Z5.out; have := SS.out; omega), OB, TS, TT, NN⟩
   ·go_simp
    have hba : Below w3.heap.size w3 (w3.alloc (.cells #[.slice none 0 0, .slice none 0 0, .slice none 0 0, .int .i64 0, .int .i64 0, .slice none 0 0] 35)) := (belowRefl _).alloc (Nat.le_refl _) _
    replace BA : Hid (Bx (w3.alloc (.cells #[.slice none 0 0, .slice none 0 0, .slice none 0 0, .int .i64 0, .int .i64 0, .slice none 0 0] 35)) w.heap.size [.slice e.b.va e.b.vs.length e.b.vc, .slice e.b.pa e.b.ps.length e.b.pc, .slice e.b.qa e.b.qs.length e.b.qc, .int .i64 e.b.cs, .int .i64 e.b.nx, .slice e.oa e.os.length e.oc]) := BA.out.below hba
    replace BR : Hid (Bx (w3.alloc (.cells #[.slice none 0 0, .slice none 0 0, .slice none 0 0, .int .i64 0, .int .i64 0, .slice none 0 0] 35)) (w.heap.size + 1) [.string x.1, .string x.2.1, .bool x.2.2]) := BR.out.below hba
    replace HB : Hid (Below w.heap.size w (w3.alloc (.cells #[.slice none 0 0, .slice none 0 0, .slice none 0 0, .int .i64 0, .int .i64 0, .slice none 0 0] 35))) := HB.out.trans (hba.mono HB.out.size)
    replace AB : Hid (EnArg (w3.alloc (.cells #[.slice none 0 0, .slice none 0 0, .slice none 0 0, .int .i64 0, .int .i64 0, .slice none 0 0] 35)) e) := HPe.out.below HB.out
    replace HN : Hid (Below (w2.heap.size) w2 (w3.alloc (.cells #[.slice none 0 0, .slice none 0 0, .slice none 0 0, .int .i64 0, .int .i64 0, .slice none 0 0] 35))) := HN.out.trans (hba.mono HN.out.size)
    replace L1 : Hid (EnLie (w3.alloc (.cells #[.slice none 0 0, .slice none 0 0, .slice none 0 0, .int .i64 0, .int .i64 0, .slice none 0 0] 35)) (w2.heap.size) w3.heap.size c1) := L1.out.below hba
    clear hba
    have BOX : Hid (Bx (w3.alloc (.cells #[.slice none 0 0, .slice none 0 0, .slice none 0 0, .int .i64 0, .int .i64 0, .slice none 0 0] 35)) (w3.heap.size) [.slice none 0 0, .slice none 0 0, .slice none 0 0, .int .i64 0, .int .i64 0, .slice none 0 0]) := Bx.new w3 [.slice none 0 0, .slice none 0 0, .slice none 0 0, .int .i64 0, .int .i64 0, .slice none 0 0] 35
    (try go_wp2_with fail)
    refine hK.out _ _ ⟨BA.out.c0, BA.out.c1, BA.out.c2, BA.out.c3, BA.out.c4, BA.out.c5, BR.out.c0, BR.out.c1, BR.out.c2⟩ (fun hHeldB => ?_)
    clear hK K
    refine wpAnyH_ready (rs := [4]) (by kernel_rfl) (by simp) ?_
    refine AllReadyH.cons rfl (fun K hK => ?_) AllReadyH.nil
    go_simp
    go_wp2_with fail
    refine (TW.out _).mono ?_
    rintro e w4 ⟨rfl, hb4⟩
    have Z4 : Hid (w3.heap.size + 1 ≤ w4.heap.size) := by show _ ≤ _; have h := hb4.size; simpa using h
    replace BA : Hid (Bx w4 w.heap.size [.slice e.b.va e.b.vs.length e.b.vc, .slice e.b.pa e.b.ps.length e.b.pc, .slice e.b.qa e.b.qs.length e.b.qc, .int .i64 e.b.cs, .int .i64 e.b.nx, .slice e.oa e.os.length e.oc]) := BA.out.below hb4
    replace BR : Hid (Bx w4 (w.heap.size + 1) [.string x.1, .string x.2.1, .bool x.2.2]) := BR.out.below hb4
    replace HB : Hid (Below w.heap.size w w4) := HB.out.trans (hb4.mono HB.out.size)
    replace AB : Hid (EnArg w4 e) := HPe.out.below HB.out
    replace HN : Hid (Below (w2.heap.size) w2 w4) := HN.out.trans (hb4.mono HN.out.size)
    replace L1 : Hid (EnLie w4 (w2.heap.size) w3.heap.size c1) := L1.out.below hb4
    replace BOX : Hid (Bx w4 (w3.heap.size) [.slice none 0 0, .slice none 0 0, .slice none 0 0, .int .i64 0, .int .i64 0, .slice none 0 0]) := BOX.out.below hb4
    go_wp2_with fail
    refine hK.out _ _ ⟨BA.out.c0, BA.out.c1, BA.out.c2, BA.out.c3, BA.out.c4, BA.out.c5, BR.out.c0, BR.out.c1, BR.out.c2⟩ (fun hHeld4 => ?_)
    clear hK K hb4
    refine wpAnyH_ready (rs := [5]) (by kernel_rfl) (by simp) ?_
    refine AllReadyH.cons rfl (fun K hK => ?_) AllReadyH.nil
    go_simp
    go_wp2_with fail
    refine (CS.out c1 _ _ _ C1.out L1.out).mono ?_
    rintro e w5 ⟨da1, rfl, hs, hl, hb5⟩
    have Z5 : Hid (w4.heap.size ≤ w5.heap.size) := by show _ ≤ _; have h := hb5.size; simpa using h
    replace BA : Hid (Bx w5 w.heap.size [.slice e.b.va e.b.vs.length e.b.vc, .slice e.b.pa e.b.ps.length e.b.pc, .slice e.b.qa e.b.qs.length e.b.qc, .int .i64 e.b.cs, .int .i64 e.b.nx, .slice e.oa e.os.length e.oc]) := BA.out.below hb5
    replace BR : Hid (Bx w5 (w.heap.size + 1) [.string x.1, .string x.2.1, .bool x.2.2]) := BR.out.below hb5
    replace HB : Hid (Below w.heap.size w w5) := HB.out.trans (hb5.mono HB.out.size)
    replace AB : Hid (EnArg w5 e) := HPe.out.below HB.out
    replace HN : Hid (Below (w2.heap.size) w2 w5) := HN.out.trans (hb5.mono HN.out.size)
    replace L1 : Hid (EnLie w5 (w2.heap.size) w3.heap.size c1) := L1.out.below hb5
    replace BOX : Hid (Bx w5 (w3.heap.size) [.slice none 0 0, .slice none 0 0, .slice none 0 0, .int .i64 0, .int .i64 0, .slice none 0 0]) := BOX.out.below hb5
    have TA : Hid (EnLq w5 (w4.heap.size) w5.heap.size da1) := hl
    have TS : Hid (EnSame DD da1) := hs
    clear hl hs
    go_wp2_with fail
    refine hK.out _ _ ⟨BA.out.c0, BA.out.c1, BA.out.c2, BA.out.c3, BA.out.c4, BA.out.c5, BR.out.c0, BR.out.c1, BR.out.c2⟩ (fun hHeld5 => ?_)
    clear hK K hb5
    (refine tk 6 ?_ rfl (Or.inl ⟨by rfl, ?_⟩) ?_; rotate_left; (focus (intro w h; (try dsimp only at h); go_simp; (try with_reducible rfl))); simp only [Act.put, tA, tB, tC, tD, tE, tF])
    (refine tk 7 ?_ rfl (Or.inl ⟨by rfl, ?_⟩) ?_; rotate_left; (focus (intro w h; (try dsimp only at h); go_simp; (try with_reducible rfl))); simp only [Act.put, tA, tB, tC, tD, tE, tF])
    (refine tk 8 ?_ rfl (Or.inl ⟨by rfl, ?_⟩) ?_; rotate_left; (focus (intro w h; (try dsimp only at h); go_simp; (try with_reducible rfl))); simp only [Act.put, tA, tB, tC, tD, tE, tF])
    have zc0 := BOX.out.c0
    have zc1 := BOX.out.c1
    have zc2 := BOX.out.c2
    have zc3 := BOX.out.c3
    have zc4 := BOX.out.c4
    have zc5 := BOX.out.c5
    have zf := BOX.out.fz
    refine wpAnyH_ready (rs := [10]) (by kernel_rfl) (by simp) ?_
    refine AllReadyH.cons rfl (fun K hK => ?_) AllReadyH.nil
    go_simp
    have hz6 : Zn (w3.heap.size) (w3.heap.size + 1) w5 ((((((w5.setCell ⟨w3.heap.size, 0, none⟩ (.slice da1.b.va da1.b.vs.length da1.b.vc)).setCell ⟨w3.heap.size, 1, none⟩ (.slice da1.b.pa da1.b.ps.length da1.b.pc)).setCell ⟨w3.heap.size, 2, none⟩ (.slice da1.b.qa da1.b.qs.length da1.b.qc)).setCell ⟨w3.heap.size, 3, none⟩ (.int .i64 da1.b.cs)).setCell ⟨w3.heap.size, 4, none⟩ (.int .i64 da1.b.nx)).setCell ⟨w3.heap.size, 5, none⟩ (.slice da1.oa da1.os.length da1.oc)) := zn_s6 w5 (w3.heap.size) (.slice da1.b.va da1.b.vs.length da1.b.vc) (.slice da1.b.pa da1.b.ps.length da1.b.pc) (.slice da1.b.qa da1.b.qs.length da1.b.qc) (.int .i64 da1.b.cs) (.int .i64 da1.b.nx) (.slice da1.oa da1.os.length da1.oc)
    have BAs := hide0 (BA.out.zn hz6 (by have := Z1.out; have := Z2.out; have := Z3.out; have := Z4.out; have := Z5.out; omega))
    have BRs := hide0 (BR.out.zn hz6 (by have := Z1.out; have := Z2.out; have := Z3.out; have := Z4.out; have := Z5.out; omega))
    refine hK.out _ _ ⟨BAs.out.c0, BAs.out.c1, BAs.out.c2, BAs.out.c3, BAs.out.c4, BAs.out.c5, BRs.out.c0, BRs.out.c1, BRs.out.c2⟩ (fun hHeldS => ?_)
    clear hK K zc0 zc1 zc2 zc3 zc4 zc5 zf
    (refine tk 11 ?_ rfl (Or.inl ⟨by rfl, ?_⟩) ?_; rotate_left; (focus (intro w h; (try dsimp only at h); go_simp; (try with_reducible rfl))); simp only [Act.put, tA, tB, tC, tD, tE, tF])
    refine wpAnyH_done (by kernel_rfl) ?_ _
    have OB : Hid (Bx ((((((w5.setCell ⟨w3.heap.size, 0, none⟩ (.slice da1.b.va da1.b.vs.length da1.b.vc)).setCell ⟨w3.heap.size, 1, none⟩ (.slice da1.b.pa da1.b.ps.length da1.b.pc)).setCell ⟨w3.heap.size, 2, none⟩ (.slice da1.b.qa da1.b.qs.length da1.b.qc)).setCell ⟨w3.heap.size, 3, none⟩ (.int .i64 da1.b.cs)).setCell ⟨w3.heap.size, 4, none⟩ (.int .i64 da1.b.nx)).setCell ⟨w3.heap.size, 5, none⟩ (.slice da1.oa da1.os.length da1.oc)) (w3.heap.size) [.slice da1.b.va da1.b.vs.length da1.b.vc, .slice da1.b.pa da1.b.ps.length da1.b.pc, .slice da1.b.qa da1.b.qs.length da1.b.qc, .int .i64 da1.b.cs, .int .i64 da1.b.nx, .slice da1.oa da1.os.length da1.oc]) := bx_s6 BOX.out (.slice da1.b.va da1.b.vs.length da1.b.vc) (.slice da1.b.pa da1.b.ps.length da1.b.pc) (.slice da1.b.qa da1.b.qs.length da1.b.qc) (.int .i64 da1.b.cs) (.int .i64 da1.b.nx) (.slice da1.oa da1.os.length da1.oc)
    have TT : Hid (EnLq ((((((w5.setCell ⟨w3.heap.size, 0, none⟩ (.slice da1.b.va da1.b.vs.length da1.b.vc)).setCell ⟨w3.heap.size, 1, none⟩ (.slice da1.b.pa da1.b.ps.length da1.b.pc)).setCell ⟨w3.heap.size, 2, none⟩ (.slice da1.b.qa da1.b.qs.length da1.b.qc)).setCell ⟨w3.heap.size, 3, none⟩ (.int .i64 da1.b.cs)).setCell ⟨w3.heap.size, 4, none⟩ (.int .i64 da1.b.nx)).setCell ⟨w3.heap.size, 5, none⟩ (.slice da1.oa da1.os.length da1.oc)) (w4.heap.size) (w5.heap.size) da1) := TA.out.zn hz6 (by have := Z1.out; have := Z2.out; have := Z3.out; have := Z4.out; have := Z5.out; omega)
    have NN : Hid (Below (w2.heap.size) w2 ((((((w5.setCell ⟨w3.heap.size, 0, none⟩ (.slice da1.b.va da1.b.vs.length da1.b.vc)).setCell ⟨w3.heap.size, 1, none⟩ (.slice da1.b.pa da1.b.ps.length da1.b.pc)).setCell ⟨w3.heap.size, 2, none⟩ (.slice da1.b.qa da1.b.qs.length da1.b.qc)).setCell ⟨w3.heap.size, 3, none⟩ (.int .i64 da1.b.cs)).setCell ⟨w3.heap.size, 4, none⟩ (.int .i64 da1.b.nx)).setCell ⟨w3.heap.size, 5, none⟩ (.slice da1.oa da1.os.length da1.oc))) := HN.out.trans (hz6.below (by have := Z1.out; have := Z2.out; have := Z3.out; have := Z4.out; have := Z5.out; omega) (by have := Z1.out; have := Z2.out; have := Z3.out; have := Z4.out; have := Z5.out; omega))
    have SS : Hid (((((((w5.setCell ⟨w3.heap.size, 0, none⟩ (.slice da1.b.va da1.b.vs.length da1.b.vc)).setCell ⟨w3.heap.size, 1, none⟩ (.slice da1.b.pa da1.b.ps.length da1.b.pc)).setCell ⟨w3.heap.size, 2, none⟩ (.slice da1.b.qa da1.b.qs.length da1.b.qc)).setCell ⟨w3.heap.size, 3, none⟩ (.int .i64 da1.b.cs)).setCell ⟨w3.heap.size, 4, none⟩ (.int .i64 da1.b.nx)).setCell ⟨w3.heap.size, 5, none⟩ (.slice da1.oa da1.os.length da1.oc)).heap.size = w5.heap.size) := by show _ = _; simp [World.setCell]
    clear hz6
    go_wp2_with fail
    go_meet
    exact ⟨w3.heap.size, w4.heap.size, w5.heap.size, da1, rfl, rfl, (by show _ ∧ _; have := Z1.out; have := Z2.out; have := Z3.out; have := Z4.out; have := Z5.out; have := SS.out; omega), OB, TS, TT, NN⟩
  ·go_simp
   have hba : Below w2.heap.size w2 (w2.alloc (.cells #[.slice none 0 0, .slice none 0 0, .slice none 0 0, .int .i64 0, .int .i64 0, .slice none 0 0] 35)) := (belowRefl _).alloc (Nat.le_refl _) _
   replace BA : Hid (Bx (w2.alloc (.cells #[.slice none 0 0, .slice none 0 0, .slice none 0 0, .int .i64 0, .int .i64 0, .slice none 0 0] 35)) w.heap.size [.slice e.b.va e.b.vs.length e.b.vc, .slice e.b.pa e.b.ps.length e.b.pc, .slice e.b.qa e.b.qs.length e.b.qc, .int .i64 e.b.cs, .int .i64 e.b.nx, .slice e.oa e.os.length e.oc]) := BA.out.below hba
   replace BR : Hid (Bx (w2.alloc (.cells #[.slice none 0 0, .slice none 0 0, .slice none 0 0, .int .i64 0, .int .i64 0, .slice none 0 0] 35)) (w.heap.size + 1) [.string x.1, .string x.2.1, .bool x.2.2]) := BR.out.below hba
   replace HB : Hid (Below w.heap.size w (w2.alloc (.cells #[.slice none 0 0, .slice none 0 0, .slice none 0 0, .int .i64 0, .int .i64 0, .slice none 0 0] 35))) := HB.out.trans (hba.mono HB.out.size)
   replace AB : Hid (EnArg (w2.alloc (.cells #[.slice none 0 0, .slice none 0 0, .slice none 0 0, .int .i64 0, .int .i64 0, .slice none 0 0] 35)) e) := HPe.out.below HB.out
   replace HN : Hid (Below (w2.heap.size) w2 (w2.alloc (.cells #[.slice none 0 0, .slice none 0 0, .slice none 0 0, .int .i64 0, .int .i64 0, .slice none 0 0] 35))) := HN.out.trans (hba.mono HN.out.size)
   clear hba
   have BOX : Hid (Bx (w2.alloc (.cells #[.slice none 0 0, .slice none 0 0, .slice none 0 0, .int .i64 0, .int .i64 0, .slice none 0 0] 35)) (w2.heap.size) [.slice none 0 0, .slice none 0 0, .slice none 0 0, .int .i64 0, .int .i64 0, .slice none 0 0]) := Bx.new w2 [.slice none 0 0, .slice none 0 0, .slice none 0 0, .int .i64 0, .int .i64 0, .slice none 0 0] 35
   (try go_wp2_with fail)
   refine hK.out _ _ ⟨BA.out.drew.c0, BA.out.drew.c1, BA.out.drew.c2, BA.out.drew.c3, BA.out.drew.c4, BA.out.drew.c5, BR.out.drew.c0, BR.out.drew.c1, BR.out.drew.c2⟩ (fun hHeldB => ?_)
   clear hK K
   refine wpAnyH_ready (rs := [1]) (by kernel_rfl) (by simp) ?_
   refine AllReadyH.cons rfl (fun K hK => ?_) AllReadyH.nil
   go_simp
   go_wp2_with fail
   refine (toE e HF.out _ AB.out.rows.drewE).mono ?_
   rintro e w3 ⟨c1, rfl, hs, hl, hb3⟩
   have hbu3 := undrew hb3
   have Z3 : Hid (w2.heap.size + 1 ≤ w3.heap.size) := by show _ ≤ _; have h := hbu3.size; simpa using h
   replace BA : Hid (Bx w3 w.heap.size [.slice e.b.va e.b.vs.length e.b.vc, .slice e.b.pa e.b.ps.length e.b.pc, .slice e.b.qa e.b.qs.length e.b.qc, .int .i64 e.b.cs, .int .i64 e.b.nx, .slice e.oa e.os.length e.oc]) := BA.out.below hbu3
   replace BR : Hid (Bx w3 (w.heap.size + 1) [.string x.1, .string x.2.1, .bool x.2.2]) := BR.out.below hbu3
   replace HB : Hid (Below w.heap.size w w3) := HB.out.trans (hbu3.mono HB.out.size)
   replace AB : Hid (EnArg w3 e) := HPe.out.below HB.out
   replace HN : Hid (Below (w2.heap.size) w2 w3) := HN.out.trans (hbu3.mono HN.out.size)
   replace BOX : Hid (Bx w3 (w2.heap.size) [.slice none 0 0, .slice none 0 0, .slice none 0 0, .int .i64 0, .int .i64 0, .slice none 0 0]) := BOX.out.below hbu3
   have L1 : Hid (EnLie w3 (w2.heap.size + 1) w3.heap.size c1) := (by show EnLie _ _ _ _; simpa using hl)
   have C1 : Hid (EnSame e c1) := hs
   clear hl hs
   go_wp2_with fail
   refine hK.out _ _ ⟨BA.out.c0, BA.out.c1, BA.out.c2, BA.out.c3, BA.out.c4, BA.out.c5, BR.out.c0, BR.out.c1, BR.out.c2⟩ (fun hHeld3 => ?_)
   clear hK K hb3 hbu3
   refine wpAnyH_ready (rs := [4]) (by kernel_rfl) (by simp) ?_
   refine AllReadyH.cons rfl (fun K hK => ?_) AllReadyH.nil
   go_simp
   go_wp2_with fail
   refine (TW.out _).mono ?_
   rintro e w4 ⟨rfl, hb4⟩
   have Z4 : Hid (w3.heap.size ≤ w4.heap.size) := by show _ ≤ _; have h := hb4.size; simpa using h
   replace BA : Hid (Bx w4 w.heap.size [.slice e.b.va e.b.vs.length e.b.vc, .slice e.b.pa e.b.ps.length e.b.pc, .slice e.b.qa e.b.qs.length e.b.qc, .int .i64 e.b.cs, .int .i64 e.b.nx, .slice e.oa e.os.length e.oc]) := BA.out.below hb4
   replace BR : Hid (Bx w4 (w.heap.size + 1) [.string x.1, .string x.2.1, .bool x.2.2]) := BR.out.below hb4
   replace HB : Hid (Below w.heap.size w w4) := HB.out.trans (hb4.mono HB.out.size)
   replace AB : Hid (EnArg w4 e) := HPe.out.below HB.out
   replace HN : Hid (Below (w2.heap.size) w2 w4) := HN.out.trans (hb4.mono HN.out.size)
   replace BOX : Hid (Bx w4 (w2.heap.size) [.slice none 0 0, .slice none 0 0, .slice none 0 0, .int .i64 0, .int .i64 0, .slice none 0 0]) := BOX.out.below hb4
   replace L1 : Hid (EnLie w4 (w2.heap.size + 1) w3.heap.size c1) := L1.out.below hb4
   go_wp2_with fail
   refine hK.out _ _ ⟨BA.out.c0, BA.out.c1, BA.out.c2, BA.out.c3, BA.out.c4, BA.out.c5, BR.out.c0, BR.out.c1, BR.out.c2⟩ (fun hHeld4 => ?_)
   clear hK K hb4
   refine wpAnyH_ready (rs := [5]) (by kernel_rfl) (by simp) ?_
   refine AllReadyH.cons rfl (fun K hK => ?_) AllReadyH.nil
   go_simp
   go_wp2_with fail
   refine (CS.out c1 _ _ _ C1.out L1.out).mono ?_
   rintro e w5 ⟨da1, rfl, hs, hl, hb5⟩
   have Z5 : Hid (w4.heap.size ≤ w5.heap.size) := by show _ ≤ _; have h := hb5.size; simpa using h
   replace BA : Hid (Bx w5 w.heap.size [.slice e.b.va e.b.vs.length e.b.vc, .slice e.b.pa e.b.ps.length e.b.pc, .slice e.b.qa e.b.qs.length e.b.qc, .int .i64 e.b.cs, .int .i64 e.b.nx, .slice e.oa e.os.length e.oc]) := BA.out.below hb5
   replace BR : Hid (Bx w5 (w.heap.size + 1) [.string x.1, .string x.2.1, .bool x.2.2]) := BR.out.below hb5
   replace HB : Hid (Below w.heap.size w w5) := HB.out.trans (hb5.mono HB.out.size)
   replace AB : Hid (EnArg w5 e) := HPe.out.below HB.out
   replace HN : Hid (Below (w2.heap.size) w2 w5) := HN.out.trans (hb5.mono HN.out.size)
   replace BOX : Hid (Bx w5 (w2.heap.size) [.slice none 0 0, .slice none 0 0, .slice none 0 0, .int .i64 0, .int .i64 0, .slice none 0 0]) := BOX.out.below hb5
   replace L1 : Hid (EnLie w5 (w2.heap.size + 1) w3.heap.size c1) := L1.out.below hb5
   have TA : Hid (EnLq w5 (w4.heap.size) w5.heap.size da1) := hl
   have TS : Hid (EnSame DD da1) := hs
   clear hl hs
   go_wp2_with fail
   refine hK.out _ _ ⟨BA.out.c0, BA.out.c1, BA.out.c2, BA.out.c3, BA.out.c4, BA.out.c5, BR.out.c0, BR.out.c1, BR.out.c2⟩ (fun hHeld5 => ?_)
   clear hK K hb5
   (refine tk 6 ?_ rfl (Or.inl ⟨by rfl, ?_⟩) ?_; rotate_left; (focus (intro w h; (try dsimp only at h); go_simp; (try with_reducible rfl))); simp only [Act.put, tA, tB, tC, tD, tE, tF])
   (refine tk 7 ?_ rfl (Or.inl ⟨by rfl, ?_⟩) ?_; rotate_left; (focus (intro w h; (try dsimp only at h); go_simp; (try with_reducible rfl))); simp only [Act.put, tA, tB, tC, tD, tE, tF])
   (refine tk 8 ?_ rfl (Or.inl ⟨by rfl, ?_⟩) ?_; rotate_left; (focus (intro w h; (try dsimp only at h); go_simp; (try with_reducible rfl))); simp only [Act.put, tA, tB, tC, tD, tE, tF])
   have zc0 := BOX.out.c0
   have zc1 := BOX.out.c1
   have zc2 := BOX.out.c2
   have zc3 := BOX.out.c3
   have zc4 := BOX.out.c4
   have zc5 := BOX.out.c5
   have zf := BOX.out.fz
   refine wpAnyH_ready (rs := [10]) (by kernel_rfl) (by simp) ?_
   refine AllReadyH.cons rfl (fun K hK => ?_) AllReadyH.nil
   go_simp
   have hz6 : Zn (w2.heap.size) (w2.heap.size + 1) w5 ((((((w5.setCell ⟨w2.heap.size, 0, none⟩ (.slice da1.b.va da1.b.vs.length da1.b.vc)).setCell ⟨w2.heap.size, 1, none⟩ (.slice da1.b.pa da1.b.ps.length da1.b.pc)).setCell ⟨w2.heap.size, 2, none⟩ (.slice da1.b.qa da1.b.qs.length da1.b.qc)).setCell ⟨w2.heap.size, 3, none⟩ (.int .i64 da1.b.cs)).setCell ⟨w2.heap.size, 4, none⟩ (.int .i64 da1.b.nx)).setCell ⟨w2.heap.size, 5, none⟩ (.slice da1.oa da1.os.length da1.oc)) := zn_s6 w5 (w2.heap.size) (.slice da1.b.va da1.b.vs.length da1.b.vc) (.slice da1.b.pa da1.b.ps.length da1.b.pc) (.slice da1.b.qa da1.b.qs.length da1.b.qc) (.int .i64 da1.b.cs) (.int .i64 da1.b.nx) (.slice da1.oa da1.os.length da1.oc)
   have BAs := hide0 (BA.out.zn hz6 (by have := Z1.out; have := Z2.out; have := Z3.out; have := Z4.out; have := Z5.out; omega))
   have BRs := hide0 (BR.out.zn hz6 (by have := Z1.out; have := Z2.out; have := Z3.out; have := Z4.out; have := Z5.out; omega))
   refine hK.out _ _ ⟨BAs.out.c0, BAs.out.c1, BAs.out.c2, BAs.out.c3, BAs.out.c4, BAs.out.c5, BRs.out.c0, BRs.out.c1, BRs.out.c2⟩ (fun hHeldS => ?_)
   clear hK K zc0 zc1 zc2 zc3 zc4 zc5 zf
   (refine tk 11 ?_ rfl (Or.inl ⟨by rfl, ?_⟩) ?_; rotate_left; (focus (intro w h; (try dsimp only at h); go_simp; (try with_reducible rfl))); simp only [Act.put, tA, tB, tC, tD, tE, tF])
   refine wpAnyH_done (by kernel_rfl) ?_ _
   have OB : Hid (Bx ((((((w5.setCell ⟨w2.heap.size, 0, none⟩ (.slice da1.b.va da1.b.vs.length da1.b.vc)).setCell ⟨w2.heap.size, 1, none⟩ (.slice da1.b.pa da1.b.ps.length da1.b.pc)).setCell ⟨w2.heap.size, 2, none⟩ (.slice da1.b.qa da1.b.qs.length da1.b.qc)).setCell ⟨w2.heap.size, 3, none⟩ (.int .i64 da1.b.cs)).setCell ⟨w2.heap.size, 4, none⟩ (.int .i64 da1.b.nx)).setCell ⟨w2.heap.size, 5, none⟩ (.slice da1.oa da1.os.length da1.oc)) (w2.heap.size) [.slice da1.b.va da1.b.vs.length da1.b.vc, .slice da1.b.pa da1.b.ps.length da1.b.pc, .slice da1.b.qa da1.b.qs.length da1.b.qc, .int .i64 da1.b.cs, .int .i64 da1.b.nx, .slice da1.oa da1.os.length da1.oc]) := bx_s6 BOX.out (.slice da1.b.va da1.b.vs.length da1.b.vc) (.slice da1.b.pa da1.b.ps.length da1.b.pc) (.slice da1.b.qa da1.b.qs.length da1.b.qc) (.int .i64 da1.b.cs) (.int .i64 da1.b.nx) (.slice da1.oa da1.os.length da1.oc)
   have TT : Hid (EnLq ((((((w5.setCell ⟨w2.heap.size, 0, none⟩ (.slice da1.b.va da1.b.vs.length da1.b.vc)).setCell ⟨w2.heap.size, 1, none⟩ (.slice da1.b.pa da1.b.ps.length da1.b.pc)).setCell ⟨w2.heap.size, 2, none⟩ (.slice da1.b.qa da1.b.qs.length da1.b.qc)).setCell ⟨w2.heap.size, 3, none⟩ (.int .i64 da1.b.cs)).setCell ⟨w2.heap.size, 4, none⟩ (.int .i64 da1.b.nx)).setCell ⟨w2.heap.size, 5, none⟩ (.slice da1.oa da1.os.length da1.oc)) (w4.heap.size) (w5.heap.size) da1) := TA.out.zn hz6 (by have := Z1.out; have := Z2.out; have := Z3.out; have := Z4.out; have := Z5.out; omega)
   have NN : Hid (Below (w2.heap.size) w2 ((((((w5.setCell ⟨w2.heap.size, 0, none⟩ (.slice da1.b.va da1.b.vs.length da1.b.vc)).setCell ⟨w2.heap.size, 1, none⟩ (.slice da1.b.pa da1.b.ps.length da1.b.pc)).setCell ⟨w2.heap.size, 2, none⟩ (.slice da1.b.qa da1.b.qs.length da1.b.qc)).setCell ⟨w2.heap.size, 3, none⟩ (.int .i64 da1.b.cs)).setCell ⟨w2.heap.size, 4, none⟩ (.int .i64 da1.b.nx)).setCell ⟨w2.heap.size, 5, none⟩ (.slice da1.oa da1.os.length da1.oc))) := HN.out.trans (hz6.below (by have := Z1.out; have := Z2.out; have := Z3.out; have := Z4.out; have := Z5.out; omega) (by have := Z1.out; have := Z2.out; have := Z3.out; have := Z4.out; have := Z5.out; omega))
   have SS : Hid (((((((w5.setCell ⟨w2.heap.size, 0, none⟩ (.slice da1.b.va da1.b.vs.length da1.b.vc)).setCell ⟨w2.heap.size, 1, none⟩ (.slice da1.b.pa da1.b.ps.length da1.b.pc)).setCell ⟨w2.heap.size, 2, none⟩ (.slice da1.b.qa da1.b.qs.length da1.b.qc)).setCell ⟨w2.heap.size, 3, none⟩ (.int .i64 da1.b.cs)).setCell ⟨w2.heap.size, 4, none⟩ (.int .i64 da1.b.nx)).setCell ⟨w2.heap.size, 5, none⟩ (.slice da1.oa da1.os.length da1.oc)).heap.size = w5.heap.size) := by show _ = _; simp [World.setCell]
   clear hz6
   go_wp2_with fail
   go_meet
   exact ⟨w2.heap.size, w4.heap.size, w5.heap.size, da1, rfl, rfl, (by show _ ∧ _; have := Z1.out; have := Z2.out; have := Z3.out; have := Z4.out; have := Z5.out; have := SS.out; omega), OB, TS, TT, NN⟩
 case rest =>
 obtain ⟨ob1, lo1, hi1, d1, rfl, rfl, ZZ1, OB1, D1, M1, hbn⟩ := hcut
 obtain ⟨w3, rfl⟩ : ∃ x, x = wc := ⟨_, rfl⟩
 have hb3 : Below w2.heap.size w2 w3 := hbn.out
 have Z3 : Hid (w2.heap.size ≤ w3.heap.size) := by show _ ≤ _; have h := hb3.size; simpa using h
 replace BA : Hid (Bx w3 w.heap.size [.slice e.b.va e.b.vs.length e.b.vc, .slice e.b.pa e.b.ps.length e.b.pc, .slice e.b.qa e.b.qs.length e.b.qc, .int .i64 e.b.cs, .int .i64 e.b.nx, .slice e.oa e.os.length e.oc]) := BA.out.below hb3
 replace BR : Hid (Bx w3 (w.heap.size + 1) [.string x.1, .string x.2.1, .bool x.2.2]) := BR.out.below hb3
 replace HB : Hid (Below w.heap.size w w3) := HB.out.trans (hb3.mono HB.out.size)
 replace AB : Hid (EnArg w3 e) := HPe.out.below HB.out
 clear hbn hb3
 have x0 := BA.out.c0
 have x1 := BA.out.c1
 have x2 := BA.out.c2
 have x3 := BA.out.c3
 have x4 := BA.out.c4
 have x5 := BA.out.c5
 go_wp2_with fail
 refine (toE e HF.out _ AB.out.rows).mono ?_
 rintro e w4 ⟨c2, rfl, hs, hl, hb4⟩
 have Z4 : Hid (w3.heap.size ≤ w4.heap.size) := by show _ ≤ _; have h := hb4.size; simpa using h
 replace BA : Hid (Bx w4 w.heap.size [.slice e.b.va e.b.vs.length e.b.vc, .slice e.b.pa e.b.ps.length e.b.pc, .slice e.b.qa e.b.qs.length e.b.qc, .int .i64 e.b.cs, .int .i64 e.b.nx, .slice e.oa e.os.length e.oc]) := BA.out.below hb4
 replace BR : Hid (Bx w4 (w.heap.size + 1) [.string x.1, .string x.2.1, .bool x.2.2]) := BR.out.below hb4
 replace HB : Hid (Below w.heap.size w w4) := HB.out.trans (hb4.mono HB.out.size)
 replace AB : Hid (EnArg w4 e) := HPe.out.below HB.out
 replace OB1 : Hid (Bx w4 (ob1) [.slice d1.b.va d1.b.vs.length d1.b.vc, .slice d1.b.pa d1.b.ps.length d1.b.pc, .slice d1.b.qa d1.b.qs.length d1.b.qc, .int .i64 d1.b.cs, .int .i64 d1.b.nx, .slice d1.oa d1.os.length d1.oc]) := OB1.out.below hb4
 replace M1 : Hid (EnLq w4 (lo1) (hi1) d1) := M1.out.below hb4
 have C2 : Hid (EnSame e c2) := hs
 clear hs
 clear hb4 x0 x1 x2 x3 x4 x5
 have L2 : Hid (EnLie w4 (w3.heap.size) w4.heap.size c2) := hl
 clear hl
 have hba : Below w4.heap.size w4 (w4.alloc (.cells #[.slice c2.b.va c2.b.vs.length c2.b.vc, .slice c2.b.pa c2.b.ps.length c2.b.pc, .slice c2.b.qa c2.b.qs.length c2.b.qc, .int .i64 c2.b.cs, .int .i64 c2.b.nx, .slice c2.oa c2.os.length c2.oc] 35)) := (belowRefl _).alloc (Nat.le_refl _) _
 replace BA : Hid (Bx (w4.alloc (.cells #[.slice c2.b.va c2.b.vs.length c2.b.vc, .slice c2.b.pa c2.b.ps.length c2.b.pc, .slice c2.b.qa c2.b.qs.length c2.b.qc, .int .i64 c2.b.cs, .int .i64 c2.b.nx, .slice c2.oa c2.os.length c2.oc] 35)) w.heap.size [.slice e.b.va e.b.vs.length e.b.vc, .slice e.b.pa e.b.ps.length e.b.pc, .slice e.b.qa e.b.qs.length e.b.qc, .int .i64 e.b.cs, .int .i64 e.b.nx, .slice e.oa e.os.length e.oc]) := BA.out.below hba
 replace BR : Hid (Bx (w4.alloc (.cells #[.slice c2.b.va c2.b.vs.length c2.b.vc, .slice c2.b.pa c2.b.ps.length c2.b.pc, .slice c2.b.qa c2.b.qs.length c2.b.qc, .int .i64 c2.b.cs, .int .i64 c2.b.nx, .slice c2.oa c2.os.length c2.oc] 35)) (w.heap.size + 1) [.string x.1, .string x.2.1, .bool x.2.2]) := BR.out.below hba
 replace HB : Hid (Below w.heap.size w (w4.alloc (.cells #[.slice c2.b.va c2.b.vs.length c2.b.vc, .slice c2.b.pa c2.b.ps.length c2.b.pc, .slice c2.b.qa c2.b.qs.length c2.b.qc, .int .i64 c2.b.cs, .int .i64 c2.b.nx, .slice c2.oa c2.os.length c2.oc] 35))) := HB.out.trans (hba.mono HB.out.size)
 replace AB : Hid (EnArg (w4.alloc (.cells #[.slice c2.b.va c2.b.vs.length c2.b.vc, .slice c2.b.pa c2.b.ps.length c2.b.pc, .slice c2.b.qa c2.b.qs.length c2.b.qc, .int .i64 c2.b.cs, .int .i64 c2.b.nx, .slice c2.oa c2.os.length c2.oc] 35)) e) := HPe.out.below HB.out
 replace OB1 : Hid (Bx (w4.alloc (.cells #[.slice c2.b.va c2.b.vs.length c2.b.vc, .slice c2.b.pa c2.b.ps.length c2.b.pc, .slice c2.b.qa c2.b.qs.length c2.b.qc, .int .i64 c2.b.cs, .int .i64 c2.b.nx, .slice c2.oa c2.os.length c2.oc] 35)) (ob1) [.slice d1.b.va d1.b.vs.length d1.b.vc, .slice d1.b.pa d1.b.ps.length d1.b.pc, .slice d1.b.qa d1.b.qs.length d1.b.qc, .int .i64 d1.b.cs, .int .i64 d1.b.nx, .slice d1.oa d1.os.length d1.oc]) := OB1.out.below hba
 replace M1 : Hid (EnLq (w4.alloc (.cells #[.slice c2.b.va c2.b.vs.length c2.b.vc, .slice c2.b.pa c2.b.ps.length c2.b.pc, .slice c2.b.qa c2.b.qs.length c2.b.qc, .int .i64 c2.b.cs, .int .i64 c2.b.nx, .slice c2.oa c2.os.length c2.oc] 35)) (lo1) (hi1) d1) := M1.out.below hba
 replace L2 : Hid (EnLie (w4.alloc (.cells #[.slice c2.b.va c2.b.vs.length c2.b.vc, .slice c2.b.pa c2.b.ps.length c2.b.pc, .slice c2.b.qa c2.b.qs.length c2.b.qc, .int .i64 c2.b.cs, .int .i64 c2.b.nx, .slice c2.oa c2.os.length c2.oc] 35)) (w3.heap.size) w4.heap.size c2) := L2.out.below hba
 clear hba
 have BX : Hid (Bx (w4.alloc (.cells #[.slice c2.b.va c2.b.vs.length c2.b.vc, .slice c2.b.pa c2.b.ps.length c2.b.pc, .slice c2.b.qa c2.b.qs.length c2.b.qc, .int .i64 c2.b.cs, .int .i64 c2.b.nx, .slice c2.oa c2.os.length c2.oc] 35)) (w4.heap.size) [.slice c2.b.va c2.b.vs.length c2.b.vc, .slice c2.b.pa c2.b.ps.length c2.b.pc, .slice c2.b.qa c2.b.qs.length c2.b.qc, .int .i64 c2.b.cs, .int .i64 c2.b.nx, .slice c2.oa c2.os.length c2.oc]) := Bx.new w4 [.slice c2.b.va c2.b.vs.length c2.b.vc, .slice c2.b.pa c2.b.ps.length c2.b.pc, .slice c2.b.qa c2.b.qs.length c2.b.qc, .int .i64 c2.b.cs, .int .i64 c2.b.nx, .slice c2.oa c2.os.length c2.oc] 35
 go_wp2
 have ZwL : Hid (w4.heap.size + 1 ≤ (w4.alloc (.cells #[.slice c2.b.va c2.b.vs.length c2.b.vc, .slice c2.b.pa c2.b.ps.length c2.b.pc, .slice c2.b.qa c2.b.qs.length c2.b.qc, .int .i64 c2.b.cs, .int .i64 c2.b.nx, .slice c2.oa c2.os.length c2.oc] 35)).heap.size) := by show _ ≤ _; simp
 generalize w4.alloc (.cells #[.slice c2.b.va c2.b.vs.length c2.b.vc, .slice c2.b.pa c2.b.ps.length c2.b.pc, .slice c2.b.qa c2.b.qs.length c2.b.qc, .int .i64 c2.b.cs, .int .i64 c2.b.nx, .slice c2.oa c2.os.length c2.oc] 35) = wL at *
 go_cut [11, 12] from 39 to 46 (fun p q wx => ∃ (ob lo hi : Nat) (d : En), p = .pointer (some ⟨ob, 0, none⟩) ∧ q = .int .i64 KK ∧ Hid (wL.heap.size ≤ ob ∧ ob < wx.heap.size ∧ wL.heap.size ≤ lo ∧ lo ≤ hi ∧ hi ≤ wx.heap.size ∧ (ob < lo ∨ hi ≤ ob)) ∧ Hid (Bx wx ob [.slice d.b.va d.b.vs.length d.b.vc, .slice d.b.pa d.b.ps.length d.b.pc, .slice d.b.qa d.b.qs.length d.b.qc, .int .i64 d.b.cs, .int .i64 d.b.nx, .slice d.oa d.os.length d.oc]) ∧ Hid (EnSame DD d) ∧ Hid (EnLq wx (lo) (hi) d) ∧ Hid (Below (wL.heap.size) wL wx))
 case first =>
  have HN : Hid (Below (wL.heap.size) wL wL) := belowRefl wL
  refine wp_region_held_drew (S := fun w' => w'.cell? ⟨w4.heap.size, 0, none⟩ = some (.slice c2.b.va c2.b.vs.length c2.b.vc) ∧ w'.cell? ⟨w4.heap.size, 1, none⟩ = some (.slice c2.b.pa c2.b.ps.length c2.b.pc) ∧ w'.cell? ⟨w4.heap.size, 2, none⟩ = some (.slice c2.b.qa c2.b.qs.length c2.b.qc) ∧ w'.cell? ⟨w4.heap.size, 3, none⟩ = some (.int .i64 c2.b.cs) ∧ w'.cell? ⟨w4.heap.size, 4, none⟩ = some (.int .i64 c2.b.nx) ∧ w'.cell? ⟨w4.heap.size, 5, none⟩ = some (.slice c2.oa c2.os.length c2.oc) ∧ w'.cell? ⟨w.heap.size + 1, 0, none⟩ = some (.string x.1) ∧ w'.cell? ⟨w.heap.size + 1, 1, none⟩ = some (.string x.2.1) ∧ w'.cell? ⟨w.heap.size + 1, 2, none⟩ = some (.bool x.2.2)) (by kernel_rfl) ⟨BX.out.c0, BX.out.c1, BX.out.c2, BX.out.c3, BX.out.c4, BX.out.c5, BR.out.c0, BR.out.c1, BR.out.c2⟩ (fun hHeld => ?_)
  (refine tk 0 ?_ rfl (Or.inl ⟨by rfl, ?_⟩) ?_; rotate_left; (focus (intro w h; (try dsimp only at h); go_simp; (try with_reducible rfl))); simp only [Act.put, tA, tB, tD, tE, tF])
  (refine tk 1 ?_ rfl (Or.inl ⟨by rfl, ?_⟩) ?_; rotate_left; (focus (intro w h; (try dsimp only at h); go_simp; (try with_reducible rfl))); simp only [Act.put, tA, tB, tC, tD, tE, tF])
  (refine tk 2 ?_ rfl (Or.inl ⟨by rfl, ?_⟩) ?_; rotate_left; (focus (intro w h; (try dsimp only at h); go_simp; (try with_reducible rfl))); simp only [Act.put, tA, tB, tC, tD, tE, tF])
  refine wpAnyH_ready (rs := [3, 8]) (by kernel_rfl) (by simp) ?_
  refine AllReadyH.cons rfl (fun K hK => ?_) (AllReadyH.cons rfl (fun K hK => ?_) AllReadyH.nil)
  ·go_simp
   go_wp2_with fail
   refine (TW.out _).mono ?_
   rintro e w5 ⟨rfl, hb5⟩
   have hbu5 := undrew hb5
   have Z5 : Hid (wL.heap.size ≤ w5.heap.size) := by show _ ≤ _; have h := hbu5.size; simpa using h
   replace BA : Hid (Bx w5 w.heap.size [.slice e.b.va e.b.vs.length e.b.vc, .slice e.b.pa e.b.ps.length e.b.pc, .slice e.b.qa e.b.qs.length e.b.qc, .int .i64 e.b.cs, .int .i64 e.b.nx, .slice e.oa e.os.length e.oc]) := BA.out.below hbu5
   replace BR : Hid (Bx w5 (w.heap.size + 1) [.string x.1, .string x.2.1, .bool x.2.2]) := BR.out.below hbu5
   replace HB : Hid (Below w.heap.size w w5) := HB.out.trans (hbu5.mono HB.out.size)
   replace AB : Hid (EnArg w5 e) := HPe.out.below HB.out
   replace OB1 : Hid (Bx w5 (ob1) [.slice d1.b.va d1.b.vs.length d1.b.vc, .slice d1.b.pa d1.b.ps.length d1.b.pc, .slice d1.b.qa d1.b.qs.length d1.b.qc, .int .i64 d1.b.cs, .int .i64 d1.b.nx, .slice d1.oa d1.os.length d1.oc]) := OB1.out.below hbu5
   replace M1 : Hid (EnLq w5 (lo1) (hi1) d1) := M1.out.below hbu5
   replace L2 : Hid (EnLie w5 (w3.heap.size) w4.heap.size c2) := L2.out.below hbu5
   replace BX : Hid (Bx w5 (w4.heap.size) [.slice c2.b.va c2.b.vs.length c2.b.vc, .slice c2.b.pa c2.b.ps.length c2.b.pc, .slice c2.b.qa c2.b.qs.length c2.b.qc, .int .i64 c2.b.cs, .int .i64 c2.b.nx, .slice c2.oa c2.os.length c2.oc]) := BX.out.below hbu5
   replace HN : Hid (Below (wL.heap.size) wL w5) := HN.out.trans (hbu5.mono HN.out.size)
   go_wp2_with fail
   refine hK.out _ _ ⟨BX.out.c0, BX.out.c1, BX.out.c2, BX.out.c3, BX.out.c4, BX.out.c5, BR.out.c0, BR.out.c1, BR.out.c2⟩ (fun hHeld5 => ?_)
   clear hK K hb5 hbu5
   refine wpAnyH_ready (rs := [4, 8]) (by kernel_rfl) (by simp) ?_
   refine AllReadyH.cons rfl (fun K hK => ?_) (AllReadyH.cons rfl (fun K hK => ?_) AllReadyH.nil)
   ·go_simp
    go_wp2_with fail
    refine (CI.out c2 _ C2.out L2.out.rows).mono ?_
    rintro e w6 ⟨da3, rfl, hs, hl, hb6⟩
    have Z6 : Hid (w5.heap.size ≤ w6.heap.size) := by show _ ≤ _; have h := hb6.size; simpa using h
    replace BA : Hid (Bx w6 w.heap.size [.slice e.b.va e.b.vs.length e.b.vc, .slice e.b.pa e.b.ps.length e.b.pc, .slice e.b.qa e.b.qs.length e.b.qc, .int .i64 e.b.cs, .int .i64 e.b.nx, .slice e.oa e.os.length e.oc]) := BA.out.below hb6
    replace BR : Hid (Bx w6 (w.heap.size + 1) [.string x.1, .string x.2.1, .bool x.2.2]) := BR.out.below hb6
    replace HB : Hid (Below w.heap.size w w6) := HB.out.trans (hb6.mono HB.out.size)
    replace AB : Hid (EnArg w6 e) := HPe.out.below HB.out
    replace OB1 : Hid (Bx w6 (ob1) [.slice d1.b.va d1.b.vs.length d1.b.vc, .slice d1.b.pa d1.b.ps.length d1.b.pc, .slice d1.b.qa d1.b.qs.length d1.b.qc, .int .i64 d1.b.cs, .int .i64 d1.b.nx, .slice d1.oa d1.os.length d1.oc]) := OB1.out.below hb6
    replace M1 : Hid (EnLq w6 (lo1) (hi1) d1) := M1.out.below hb6
    replace L2 : Hid (EnLie w6 (w3.heap.size) w4.heap.size c2) := L2.out.below hb6
    replace BX : Hid (Bx w6 (w4.heap.size) [.slice c2.b.va c2.b.vs.length c2.b.vc, .slice c2.b.pa c2.b.ps.length c2.b.pc, .slice c2.b.qa c2.b.qs.length c2.b.qc, .int .i64 c2.b.cs, .int .i64 c2.b.nx, .slice c2.oa c2.os.length c2.oc]) := BX.out.below hb6
    replace HN : Hid (Below (wL.heap.size) wL w6) := HN.out.trans (hb6.mono HN.out.size)
    have TA : Hid (EnLq w6 (w5.heap.size) w6.heap.size da3) := hl
    have TS : Hid (EnSame DD da3) := hs
    clear hl hs
    go_wp2_with fail
    refine hK.out _ _ ⟨BX.out.c0, BX.out.c1, BX.out.c2, BX.out.c3, BX.out.c4, BX.out.c5, BR.out.c0, BR.out.c1, BR.out.c2⟩ (fun hHeld6 => ?_)
    clear hK K hb6
    (refine tk 5 ?_ rfl (Or.inl ⟨by rfl, ?_⟩) ?_; rotate_left; (focus (intro w h; (try dsimp only at h); go_simp; (try with_reducible rfl))); simp only [Act.put, tA, tB, tC, tD, tE, tF])
    (refine tk 6 ?_ rfl (Or.inl ⟨by rfl, ?_⟩) ?_; rotate_left; (focus (intro w h; (try dsimp only at h); go_simp; (try with_reducible rfl))); simp only [Act.put, tA, tB, tC, tD, tE, tF])
    (refine tk 7 ?_ rfl (Or.inl ⟨by rfl, ?_⟩) ?_; rotate_left; (focus (intro w h; (try dsimp only at h); go_simp; (try with_reducible rfl))); simp only [Act.put, tA, tB, tC, tD, tE, tF])
    refine wpAnyH_ready (rs := [8]) (by kernel_rfl) (by simp) ?_
    refine AllReadyH.cons rfl (fun K hK => ?_) AllReadyH.nil
    go_simp
    have BXq := BX
    have BRq := BR
    have TAq := TA
    have HNq := HN
    have hba : Below w6.heap.size w6 (w6.alloc (.cells #[.slice none 0 0, .slice none 0 0, .slice none 0 0, .int .i64 0, .int .i64 0, .slice none 0 0] 35)) := (belowRefl _).alloc (Nat.le_refl _) _
    replace BA : Hid (Bx (w6.alloc (.cells #[.slice none 0 0, .slice none 0 0, .slice none 0 0, .int .i64 0, .int .i64 0, .slice none 0 0] 35)) w.heap.size [.slice e.b.va e.b.vs.length e.b.vc, .slice e.b.pa e.b.ps.length e.b.pc, .slice e.b.qa e.b.qs.length e.b.qc, .int .i64 e.b.cs, .int .i64 e.b.nx, .slice e.oa e.os.length e.oc]) := BA.out.below hba
    replace BR : Hid (Bx (w6.alloc (.cells #[.slice none 0 0, .slice none 0 0, .slice none 0 0, .int .i64 0, .int .i64 0, .slice none 0 0] 35)) (w.heap.size + 1) [.string x.1, .string x.2.1, .bool x.2.2]) := BR.out.below hba
    replace HB : Hid (Below w.heap.size w (w6.alloc (.cells #[.slice none 0 0, .slice none 0 0, .slice none 0 0, .int .i64 0, .int .i64 0, .slice none 0 0] 35))) := HB.out.trans (hba.mono HB.out.size)
    replace AB : Hid (EnArg (w6.alloc (.cells #[.slice none 0 0, .slice none 0 0, .slice none 0 0, .int .i64 0, .int .i64 0, .slice none 0 0] 35)) e) := HPe.out.below HB.out
    replace OB1 : Hid (Bx (w6.alloc (.cells #[.slice none 0 0, .slice none 0 0, .slice none 0 0, .int .i64 0, .int .i64 0, .slice none 0 0] 35)) (ob1) [.slice d1.b.va d1.b.vs.length d1.b.vc, .slice d1.b.pa d1.b.ps.length d1.b.pc, .slice d1.b.qa d1.b.qs.length d1.b.qc, .int .i64 d1.b.cs, .int .i64 d1.b.nx, .slice d1.oa d1.os.length d1.oc]) := OB1.out.below hba
    replace M1 : Hid (EnLq (w6.alloc (.cells #[.slice none 0 0, .slice none 0 0, .slice none 0 0, .int .i64 0, .int .i64 0, .slice none 0 0] 35)) (lo1) (hi1) d1) := M1.out.below hba
    replace L2 : Hid (EnLie (w6.alloc (.cells #[.slice none 0 0, .slice none 0 0, .slice none 0 0, .int .i64 0, .int .i64 0, .slice none 0 0] 35)) (w3.heap.size) w4.heap.size c2) := L2.out.below hba
    replace BX : Hid (Bx (w6.alloc (.cells #[.slice none 0 0, .slice none 0 0, .slice none 0 0, .int .i64 0, .int .i64 0, .slice none 0 0] 35)) (w4.heap.size) [.slice c2.b.va c2.b.vs.length c2.b.vc, .slice c2.b.pa c2.b.ps.length c2.b.pc, .slice c2.b.qa c2.b.qs.length c2.b.qc, .int .i64 c2.b.cs, .int .i64 c2.b.nx, .slice c2.oa c2.os.length c2.oc]) := BX.out.below hba
    replace HN : Hid (Below (wL.heap.size) wL (w6.alloc (.cells #[.slice none 0 0, .slice none 0 0, .slice none 0 0, .int .i64 0, .int .i64 0, .slice none 0 0] 35))) := HN.out.trans (hba.mono HN.out.size)
    replace TA : Hid (EnLq (w6.alloc (.cells #[.slice none 0 0, .slice none 0 0, .slice none 0 0, .int .i64 0, .int .i64 0, .slice none 0 0] 35)) (w5.heap.size) w6.heap.size da3) := TA.out.below hba
    clear hba
    have BOX : Hid (Bx (w6.alloc (.cells #[.slice none 0 0, .slice none 0 0, .slice none 0 0, .int .i64 0, .int .i64 0, .slice none 0 0] 35)) (w6.heap.size) [.slice none 0 0, .slice none 0 0, .slice none 0 0, .int .i64 0, .int .i64 0, .slice none 0 0]) := Bx.new w6 [.slice none 0 0, .slice none 0 0, .slice none 0 0, .int .i64 0, .int .i64 0, .slice none 0 0] 35
    (try go_wp2_with fail)
    refine hK.out _ _ ⟨BX.out.c0, BX.out.c1, BX.out.c2, BX.out.c3, BX.out.c4, BX.out.c5, BR.out.c0, BR.out.c1, BR.out.c2⟩ (fun hHeldB => ?_)
    clear hK K
    refine wpAnyH_ready (rs := [9]) (by kernel_rfl) (by simp) ?_
    refine AllReadyH.cons rfl (fun K hK => ?_) AllReadyH.nil
    go_simp
    have hbn : Below w6.heap.size w6 (w6.alloc (.cells #[.slice da3.b.va da3.b.vs.length da3.b.vc, .slice da3.b.pa da3.b.ps.length da3.b.pc, .slice da3.b.qa da3.b.qs.length da3.b.qc, .int .i64 da3.b.cs, .int .i64 da3.b.nx, .slice da3.oa da3.os.length da3.oc] 35)) := (belowRefl _).alloc (Nat.le_refl _) _
    have BXs := hide0 (BXq.out.below hbn)
    have BRs := hide0 (BRq.out.below hbn)
    refine hK.out _ _ ⟨BXs.out.c0, BXs.out.c1, BXs.out.c2, BXs.out.c3, BXs.out.c4, BXs.out.c5, BRs.out.c0, BRs.out.c1, BRs.out.c2⟩ (fun hHeldS => ?_)
    clear hK K
    (refine tk 10 ?_ rfl (Or.inl ⟨by rfl, ?_⟩) ?_; rotate_left; (focus (intro w h; (try dsimp only at h); go_simp; (try with_reducible rfl))); simp only [Act.put, tA, tB, tC, tD, tE, tF])
    refine wpAnyH_done (by kernel_rfl) ?_ _
    have OB : Hid (Bx (w6.alloc (.cells #[.slice da3.b.va da3.b.vs.length da3.b.vc, .slice da3.b.pa da3.b.ps.length da3.b.pc, .slice da3.b.qa da3.b.qs.length da3.b.qc, .int .i64 da3.b.cs, .int .i64 da3.b.nx, .slice da3.oa da3.os.length da3.oc] 35)) (w6.heap.size) [.slice da3.b.va da3.b.vs.length da3.b.vc, .slice da3.b.pa da3.b.ps.length da3.b.pc, .slice da3.b.qa da3.b.qs.length da3.b.qc, .int .i64 da3.b.cs, .int .i64 da3.b.nx, .slice da3.oa da3.os.length da3.oc]) := Bx.new w6 [.slice da3.b.va da3.b.vs.length da3.b.vc, .slice da3.b.pa da3.b.ps.length da3.b.pc, .slice da3.b.qa da3.b.qs.length da3.b.qc, .int .i64 da3.b.cs, .int .i64 da3.b.nx, .slice da3.oa da3.os.length da3.oc] 35
    have TT : Hid (EnLq (w6.alloc (.cells #[.slice da3.b.va da3.b.vs.length da3.b.vc, .slice da3.b.pa da3.b.ps.length da3.b.pc, .slice da3.b.qa da3.b.qs.length da3.b.qc, .int .i64 da3.b.cs, .int .i64 da3.b.nx, .slice da3.oa da3.os.length da3.oc] 35)) (w5.heap.size) (w6.heap.size) da3) := TAq.out.below hbn
    have NN : Hid (Below (wL.heap.size) wL (w6.alloc (.cells #[.slice da3.b.va da3.b.vs.length da3.b.vc, .slice da3.b.pa da3.b.ps.length da3.b.pc, .slice da3.b.qa da3.b.qs.length da3.b.qc, .int .i64 da3.b.cs, .int .i64 da3.b.nx, .slice da3.oa da3.os.length da3.oc] 35))) := HNq.out.trans (hbn.mono HNq.out.size)
    have SS : Hid ((w6.alloc (.cells #[.slice da3.b.va da3.b.vs.length da3.b.vc, .slice da3.b.pa da3.b.ps.length da3.b.pc, .slice da3.b.qa da3.b.qs.length da3.b.qc, .int .i64 da3.b.cs, .int .i64 da3.b.nx, .slice da3.oa da3.os.length da3.oc] 35)).heap.size = w6.heap.size + 1) := World.size_alloc _ _
    clear hbn
    go_wp2_with fail
    go_meet
    exact ⟨w6.heap.size, w5.heap.size, w6.heap.size, da3, rfl, rfl, (by show _ ∧ _; have := Z1.out; have := Z2.out; have := Z3.out; have := ZZ1.out; have := Z4.out; have := ZwL.out; have := Z5.out; have := Z6.out; have := SS.out; omega), OB, TS, TT, NN⟩
   ·go_simp
    have hba : Below w5.heap.size w5 (w5.alloc (.cells #[.slice none 0 0, .slice none 0 0, .slice none 0 0, .int .i64 0, .int .i64 0, .slice none 0 0] 35)) := (belowRefl _).alloc (Nat.le_refl _) _
    replace BA : Hid (Bx (w5.alloc (.cells #[.slice none 0 0, .slice none 0 0, .slice none 0 0, .int .i64 0, .int .i64 0, .slice none 0 0] 35)) w.heap.size [.slice e.b.va e.b.vs.length e.b.vc, .slice e.b.pa e.b.ps.length e.b.pc, .slice e.b.qa e.b.qs.length e.b.qc, .int .i64 e.b.cs, .int .i64 e.b.nx, .slice e.oa e.os.length e.oc]) := BA.out.below hba
    replace BR : Hid (Bx (w5.alloc (.cells #[.slice none 0 0, .slice none 0 0, .slice none 0 0, .int .i64 0, .int .i64 0, .slice none 0 0] 35)) (w.heap.size + 1) [.string x.1, .string x.2.1, .bool x.2.2]) := BR.out.below hba
    replace HB : Hid (Below w.heap.size w (w5.alloc (.cells #[.slice none 0 0, .slice none 0 0, .slice none 0 0, .int .i64 0, .int .i64 0, .slice none 0 0] 35))) := HB.out.trans (hba.mono HB.out.size)
    replace AB : Hid (EnArg (w5.alloc (.cells #[.slice none 0 0, .slice none 0 0, .slice none 0 0, .int .i64 0, .int .i64 0, .slice none 0 0] 35)) e) := HPe.out.below HB.out
    replace OB1 : Hid (Bx (w5.alloc (.cells #[.slice none 0 0, .slice none 0 0, .slice none 0 0, .int .i64 0, .int .i64 0, .slice none 0 0] 35)) (ob1) [.slice d1.b.va d1.b.vs.length d1.b.vc, .slice d1.b.pa d1.b.ps.length d1.b.pc, .slice d1.b.qa d1.b.qs.length d1.b.qc, .int .i64 d1.b.cs, .int .i64 d1.b.nx, .slice d1.oa d1.os.length d1.oc]) := OB1.out.below hba
    replace M1 : Hid (EnLq (w5.alloc (.cells #[.slice none 0 0, .slice none 0 0, .slice none 0 0, .int .i64 0, .int .i64 0, .slice none 0 0] 35)) (lo1) (hi1) d1) := M1.out.below hba
    replace L2 : Hid (EnLie (w5.alloc (.cells #[.slice none 0 0, .slice none 0 0, .slice none 0 0, .int .i64 0, .int .i64 0, .slice none 0 0] 35)) (w3.heap.size) w4.heap.size c2) := L2.out.below hba
    replace BX : Hid (Bx (w5.alloc (.cells #[.slice none 0 0, .slice none 0 0, .slice none 0 0, .int .i64 0, .int .i64 0, .slice none 0 0] 35)) (w4.heap.size) [.slice c2.b.va c2.b.vs.length c2.b.vc, .slice c2.b.pa c2.b.ps.length c2.b.pc, .slice c2.b.qa c2.b.qs.length c2.b.qc, .int .i64 c2.b.cs, .int .i64 c2.b.nx, .slice c2.oa c2.os.length c2.oc]) := BX.out.below hba
    replace HN : Hid (Below (wL.heap.size) wL (w5.alloc (.cells #[.slice none 0 0, .slice none 0 0, .slice none 0 0, .int .i64 0, .int .i64 0, .slice none 0 0] 35))) := HN.out.trans (hba.mono HN.out.size)
    clear hba
    have BOX : Hid (Bx (w5.alloc (.cells #[.slice none 0 0, .slice none 0 0, .slice none 0 0, .int .i64 0, .int .i64 0, .slice none 0 0] 35)) (w5.heap.size) [.slice none 0 0, .slice none 0 0, .slice none 0 0, .int .i64 0, .int .i64 0, .slice none 0 0]) := Bx.new w5 [.slice none 0 0, .slice none 0 0, .slice none 0 0, .int .i64 0, .int .i64 0, .slice none 0 0] 35
    (try go_wp2_with fail)
    refine hK.out _ _ ⟨BX.out.c0, BX.out.c1, BX.out.c2, BX.out.c3, BX.out.c4, BX.out.c5, BR.out.c0, BR.out.c1, BR.out.c2⟩ (fun hHeldB => ?_)
    clear hK K
    refine wpAnyH_ready (rs := [4]) (by kernel_rfl) (by simp) ?_
    refine AllReadyH.cons rfl (fun K hK => ?_) AllReadyH.nil
    go_simp
    go_wp2_with fail
    refine (CI.out c2 _ C2.out L2.out.rows).mono ?_
    rintro e w6 ⟨da3, rfl, hs, hl, hb6⟩
    have Z6 : Hid (w5.heap.size + 1 ≤ w6.heap.size) := by show _ ≤ _; have h := hb6.size; simpa using h
    replace BA : Hid (Bx w6 w.heap.size [.slice e.b.va e.b.vs.length e.b.vc, .slice e.b.pa e.b.ps.length e.b.pc, .slice e.b.qa e.b.qs.length e.b.qc, .int .i64 e.b.cs, .int .i64 e.b.nx, .slice e.oa e.os.length e.oc]) := BA.out.below hb6
    replace BR : Hid (Bx w6 (w.heap.size + 1) [.string x.1, .string x.2.1, .bool x.2.2]) := BR.out.below hb6
    replace HB : Hid (Below w.heap.size w w6) := HB.out.trans (hb6.mono HB.out.size)
    replace AB : Hid (EnArg w6 e) := HPe.out.below HB.out
    replace OB1 : Hid (Bx w6 (ob1) [.slice d1.b.va d1.b.vs.length d1.b.vc, .slice d1.b.pa d1.b.ps.length d1.b.pc, .slice d1.b.qa d1.b.qs.length d1.b.qc, .int .i64 d1.b.cs, .int .i64 d1.b.nx, .slice d1.oa d1.os.length d1.oc]) := OB1.out.below hb6
    replace M1 : Hid (EnLq w6 (lo1) (hi1) d1) := M1.out.below hb6
    replace L2 : Hid (EnLie w6 (w3.heap.size) w4.heap.size c2) := L2.out.below hb6
    replace BX : Hid (Bx w6 (w4.heap.size) [.slice c2.b.va c2.b.vs.length c2.b.vc, .slice c2.b.pa c2.b.ps.length c2.b.pc, .slice c2.b.qa c2.b.qs.length c2.b.qc, .int .i64 c2.b.cs, .int .i64 c2.b.nx, .slice c2.oa c2.os.length c2.oc]) := BX.out.below hb6
    replace HN : Hid (Below (wL.heap.size) wL w6) := HN.out.trans (hb6.mono HN.out.size)
    replace BOX : Hid (Bx w6 (w5.heap.size) [.slice none 0 0, .slice none 0 0, .slice none 0 0, .int .i64 0, .int .i64 0, .slice none 0 0]) := BOX.out.below hb6
    have TA : Hid (EnLq w6 (w5.heap.size + 1) w6.heap.size da3) := (by show EnLq _ _ _ _; simpa using hl)
    have TS : Hid (EnSame DD da3) := hs
    clear hl hs
    go_wp2_with fail
    refine hK.out _ _ ⟨BX.out.c0, BX.out.c1, BX.out.c2, BX.out.c3, BX.out.c4, BX.out.c5, BR.out.c0, BR.out.c1, BR.out.c2⟩ (fun hHeld6 => ?_)
    clear hK K hb6
    (refine tk 5 ?_ rfl (Or.inl ⟨by rfl, ?_⟩) ?_; rotate_left; (focus (intro w h; (try dsimp only at h); go_simp; (try with_reducible rfl))); simp only [Act.put, tA, tB, tC, tD, tE, tF])
    (refine tk 6 ?_ rfl (Or.inl ⟨by rfl, ?_⟩) ?_; rotate_left; (focus (intro w h; (try dsimp only at h); go_simp; (try with_reducible rfl))); simp only [Act.put, tA, tB, tC, tD, tE, tF])
    (refine tk 7 ?_ rfl (Or.inl ⟨by rfl, ?_⟩) ?_; rotate_left; (focus (intro w h; (try dsimp only at h); go_simp; (try with_reducible rfl))); simp only [Act.put, tA, tB, tC, tD, tE, tF])
    have zc0 := BOX.out.c0
    have zc1 := BOX.out.c1
    have zc2 := BOX.out.c2
    have zc3 := BOX.out.c3
    have zc4 := BOX.out.c4
    have zc5 := BOX.out.c5
    have zf := BOX.out.fz
    refine wpAnyH_ready (rs := [9]) (by kernel_rfl) (by simp) ?_
    refine AllReadyH.cons rfl (fun K hK => ?_) AllReadyH.nil
    go_simp
    have hz6 : Zn (w5.heap.size) (w5.heap.size + 1) w6 ((((((w6.setCell ⟨w5.heap.size, 0, none⟩ (.slice da3.b.va da3.b.vs.length da3.b.vc)).setCell ⟨w5.heap.size, 1, none⟩ (.slice da3.b.pa da3.b.ps.length da3.b.pc)).setCell ⟨w5.heap.size, 2, none⟩ (.slice da3.b.qa da3.b.qs.length da3.b.qc)).setCell ⟨w5.heap.size, 3, none⟩ (.int .i64 da3.b.cs)).setCell ⟨w5.heap.size, 4, none⟩ (.int .i64 da3.b.nx)).setCell ⟨w5.heap.size, 5, none⟩ (.slice da3.oa da3.os.length da3.oc)) := zn_s6 w6 (w5.heap.size) (.slice da3.b.va da3.b.vs.length da3.b.vc) (.slice da3.b.pa da3.b.ps.length da3.b.pc) (.slice da3.b.qa da3.b.qs.length da3.b.qc) (.int .i64 da3.b.cs) (.int .i64 da3.b.nx) (.slice da3.oa da3.os.length da3.oc)
    have BXs := hide0 (BX.out.zn hz6 (by have := Z1.out; have := Z2.out; have := Z3.out; have := ZZ1.out; have := Z4.out; have := ZwL.out; have := Z5.out; have := Z6.out; omega))
    have BRs := hide0 (BR.out.zn hz6 (by have := Z1.out; have := Z2.out; have := Z3.out; have := ZZ1.out; have := Z4.out; have := ZwL.out; have := Z5.out; have := Z6.out; omega))
    refine hK.out _ _ ⟨BXs.out.c0, BXs.out.c1, BXs.out.c2, BXs.out.c3, BXs.out.c4, BXs.out.c5, BRs.out.c0, BRs.out.c1, BRs.out.c2⟩ (fun hHeldS => ?_)
    clear hK K zc0 zc1 zc2 zc3 zc4 zc5 zf
    (refine tk 10 ?_ rfl (Or.inl ⟨by rfl, ?_⟩) ?_; rotate_left; (focus (intro w h; (try dsimp only at h); go_simp; (try with_reducible rfl))); simp only [Act.put, tA, tB, tC, tD, tE, tF])
    refine wpAnyH_done (by kernel_rfl) ?_ _
    have OB : Hid (Bx ((((((w6.setCell ⟨w5.heap.size, 0, none⟩ (.slice da3.b.va da3.b.vs.length da3.b.vc)).setCell ⟨w5.heap.size, 1, none⟩ (.slice da3.b.pa da3.b.ps.length da3.b.pc)).setCell ⟨w5.heap.size, 2, none⟩ (.slice da3.b.qa da3.b.qs.length da3.b.qc)).setCell ⟨w5.heap.size, 3, none⟩ (.int .i64 da3.b.cs)).setCell ⟨w5.heap.size, 4, none⟩ (.int .i64 da3.b.nx)).setCell ⟨w5.heap.size, 5, none⟩ (.slice da3.oa da3.os.length da3.oc)) (w5.heap.size) [.slice da3.b.va da3.b.vs.length da3.b.vc, .slice da3.b.pa da3.b.ps.length da3.b.pc, .slice da3.b.qa da3.b.qs.length da3.b.qc, .int .i64 da3.b.cs, .int .i64 da3.b.nx, .slice da3.oa da3.os.length da3.oc]) := bx_s6 BOX.out (.slice da3.b.va da3.b.vs.length da3.b.vc) (.slice da3.b.pa da3.b.ps.length da3.b.pc) (.slice da3.b.qa da3.b.qs.length da3.b.qc) (.int .i64 da3.b.cs) (.int .i64 da3.b.nx) (.slice da3.oa da3.os.length da3.oc)
    have TT : Hid (EnLq ((((((w6.setCell ⟨w5.heap.size, 0, none⟩ (.slice da3.b.va da3.b.vs.length da3.b.vc)).setCell ⟨w5.heap.size, 1, none⟩ (.slice da3.b.pa da3.b.ps.length da3.b.pc)).setCell ⟨w5.heap.size, 2, none⟩ (.slice da3.b.qa da3.b.qs.length da3.b.qc)).setCell ⟨w5.heap.size, 3, none⟩ (.int .i64 da3.b.cs)).setCell ⟨w5.heap.size, 4, none⟩ (.int .i64 da3.b.nx)).setCell ⟨w5.heap.size, 5, none⟩ (.slice da3.oa da3.os.length da3.oc)) (w5.heap.size + 1) (w6.heap.size) da3) := TA.out.zn hz6 (by have := Z1.out; have := Z2.out; have := Z3.out; have := ZZ1.out; have := Z4.out; have := ZwL.out; have := Z5.out; have := Z6.out; omega)
    have NN : Hid (Below (wL.heap.size) wL ((((((w6.setCell ⟨w5.heap.size, 0, none⟩ (.slice da3.b.va da3.b.vs.length da3.b.vc)).setCell ⟨w5.heap.size, 1, none⟩ (.slice da3.b.pa da3.b.ps.length da3.b.pc)).setCell ⟨w5.heap.size, 2, none⟩ (.slice da3.b.qa da3.b.qs.length da3.b.qc)).setCell ⟨w5.heap.size, 3, none⟩ (.int .i64 da3.b.cs)).setCell ⟨w5.heap.size, 4, none⟩ (.int .i64 da3.b.nx)).setCell ⟨w5.heap.size, 5, none⟩ (.slice da3.oa da3.os.length da3.oc))) := HN.out.trans (hz6.below (by have := Z1.out; have := Z2.out; have := Z3.out; have := ZZ1.out; have := Z4.out; have := ZwL.out; have := Z5.out; have := Z6.out; omega) (by have := Z1.out; have := Z2.out; have := Z3.out; have := ZZ1.out; have := Z4.out; have := ZwL.out; have := Z5.out; have := Z6.out; omega))
    have SS : Hid (((((((w6.setCell ⟨w5.heap.size, 0, none⟩ (.slice da3.b.va da3.b.vs.length da3.b.vc)).setCell ⟨w5.heap.size, 1, none⟩ (.slice da3.b.pa da3.b.ps.length da3.b.pc)).setCell ⟨w5.heap.size, 2, none⟩ (.slice da3.b.qa da3.b.qs.length da3.b.qc)).setCell ⟨w5.heap.size, 3, none⟩ (.int .i64 da3.b.cs)).setCell ⟨w5.heap.size, 4, none⟩ (.int .i64 da3.b.nx)).setCell ⟨w5.heap.size, 5, none⟩ (.slice da3.oa da3.os.length da3.oc)).heap.size = w6.heap.size) := by show _ = _; simp [World.setCell]
    clear hz6
    go_wp2_with fail
    go_meet
    exact ⟨w5.heap.size, w5.heap.size + 1, w6.heap.size, da3, rfl, rfl, (by show _ ∧ _; have := Z1.out; have := Z2.out; have := Z3.out; have := ZZ1.out; have := Z4.out; have := ZwL.out; have := Z5.out; have := Z6.out; have := SS.out; omega), OB, TS, TT, NN⟩
  ·go_simp
   have hba : Below wL.heap.size wL (wL.alloc (.cells #[.slice none 0 0, .slice none 0 0, .slice none 0 0, .int .i64 0, .int .i64 0, .slice none 0 0] 35)) := (belowRefl _).alloc (Nat.le_refl _) _
   replace BA : Hid (Bx (wL.alloc (.cells #[.slice none 0 0, .slice none 0 0, .slice none 0 0, .int .i64 0, .int .i64 0, .slice none 0 0] 35)) w.heap.size [.slice e.b.va e.b.vs.length e.b.vc, .slice e.b.pa e.b.ps.length e.b.pc, .slice e.b.qa e.b.qs.length e.b.qc, .int .i64 e.b.cs, .int .i64 e.b.nx, .slice e.oa e.os.length e.oc]) := BA.out.below hba
   replace BR : Hid (Bx (wL.alloc (.cells #[.slice none 0 0, .slice none 0 0, .slice none 0 0, .int .i64 0, .int .i64 0, .slice none 0 0] 35)) (w.heap.size + 1) [.string x.1, .string x.2.1, .bool x.2.2]) := BR.out.below hba
   replace HB : Hid (Below w.heap.size w (wL.alloc (.cells #[.slice none 0 0, .slice none 0 0, .slice none 0 0, .int .i64 0, .int .i64 0, .slice none 0 0] 35))) := HB.out.trans (hba.mono HB.out.size)
   replace AB : Hid (EnArg (wL.alloc (.cells #[.slice none 0 0, .slice none 0 0, .slice none 0 0, .int .i64 0, .int .i64 0, .slice none 0 0] 35)) e) := HPe.out.below HB.out
   replace OB1 : Hid (Bx (wL.alloc (.cells #[.slice none 0 0, .slice none 0 0, .slice none 0 0, .int .i64 0, .int .i64 0, .slice none 0 0] 35)) (ob1) [.slice d1.b.va d1.b.vs.length d1.b.vc, .slice d1.b.pa d1.b.ps.length d1.b.pc, .slice d1.b.qa d1.b.qs.length d1.b.qc, .int .i64 d1.b.cs, .int .i64 d1.b.nx, .slice d1.oa d1.os.length d1.oc]) := OB1.out.below hba
   replace M1 : Hid (EnLq (wL.alloc (.cells #[.slice none 0 0, .slice none 0 0, .slice none 0 0, .int .i64 0, .int .i64 0, .slice none 0 0] 35)) (lo1) (hi1) d1) := M1.out.below hba
   replace L2 : Hid (EnLie (wL.alloc (.cells #[.slice none 0 0, .slice none 0 0, .slice none 0 0, .int .i64 0, .int .i64 0, .slice none 0 0] 35)) (w3.heap.size) w4.heap.size c2) := L2.out.below hba
   replace BX : Hid (Bx (wL.alloc (.cells #[.slice none 0 0, .slice none 0 0, .slice none 0 0, .int .i64 0, .int .i64 0, .slice none 0 0] 35)) (w4.heap.size) [.slice c2.b.va c2.b.vs.length c2.b.vc, .slice c2.b.pa c2.b.ps.length c2.b.pc, .slice c2.b.qa c2.b.qs.length c2.b.qc, .int .i64 c2.b.cs, .int .i64 c2.b.nx, .slice c2.oa c2.os.length c2.oc]) := BX.out.below hba
   replace HN : Hid (Below (wL.heap.size) wL (wL.alloc (.cells #[.slice none 0 0, .slice none 0 0, .slice none 0 0, .int .i64 0, .int .i64 0, .slice none 0 0] 35))) := HN.out.trans (hba.mono HN.out.size)
   clear hba
   have BOX : Hid (Bx (wL.alloc (.cells #[.slice none 0 0, .slice none 0 0, .slice none 0 0, .int .i64 0, .int .i64 0, .slice none 0 0] 35)) (wL.heap.size) [.slice none 0 0, .slice none 0 0, .slice none 0 0, .int .i64 0, .int .i64 0, .slice none 0 0]) := Bx.new wL [.slice none 0 0, .slice none 0 0, .slice none 0 0, .int .i64 0, .int .i64 0, .slice none 0 0] 35
   (try go_wp2_with fail)
   refine hK.out _ _ ⟨BX.out.drew.c0, BX.out.drew.c1, BX.out.drew.c2, BX.out.drew.c3, BX.out.drew.c4, BX.out.drew.c5, BR.out.drew.c0, BR.out.drew.c1, BR.out.drew.c2⟩ (fun hHeldB => ?_)
   clear hK K
   refine wpAnyH_ready (rs := [3]) (by kernel_rfl) (by simp) ?_
   refine AllReadyH.cons rfl (fun K hK => ?_) AllReadyH.nil
   go_simp
   go_wp2_with fail
   refine (TW.out _).mono ?_
   rintro e w5 ⟨rfl, hb5⟩
   have hbu5 := undrew hb5
   have Z5 : Hid (wL.heap.size + 1 ≤ w5.heap.size) := by show _ ≤ _; have h := hbu5.size; simpa using h
   replace BA : Hid (Bx w5 w.heap.size [.slice e.b.va e.b.vs.length e.b.vc, .slice e.b.pa e.b.ps.length e.b.pc, .slice e.b.qa e.b.qs.length e.b.qc, .int .i64 e.b.cs, .int .i64 e.b.nx, .slice e.oa e.os.length e.oc]) := BA.out.below hbu5
   replace BR : Hid (Bx w5 (w.heap.size + 1) [.string x.1, .string x.2.1, .bool x.2.2]) := BR.out.below hbu5
   replace HB : Hid (Below w.heap.size w w5) := HB.out.trans (hbu5.mono HB.out.size)
   replace AB : Hid (EnArg w5 e) := HPe.out.below HB.out
   replace OB1 : Hid (Bx w5 (ob1) [.slice d1.b.va d1.b.vs.length d1.b.vc, .slice d1.b.pa d1.b.ps.length d1.b.pc, .slice d1.b.qa d1.b.qs.length d1.b.qc, .int .i64 d1.b.cs, .int .i64 d1.b.nx, .slice d1.oa d1.os.length d1.oc]) := OB1.out.below hbu5
   replace M1 : Hid (EnLq w5 (lo1) (hi1) d1) := M1.out.below hbu5
   replace L2 : Hid (EnLie w5 (w3.heap.size) w4.heap.size c2) := L2.out.below hbu5
   replace BX : Hid (Bx w5 (w4.heap.size) [.slice c2.b.va c2.b.vs.length c2.b.vc, .slice c2.b.pa c2.b.ps.length c2.b.pc, .slice c2.b.qa c2.b.qs.length c2.b.qc, .int .i64 c2.b.cs, .int .i64 c2.b.nx, .slice c2.oa c2.os.length c2.oc]) := BX.out.below hbu5
   replace HN : Hid (Below (wL.heap.size) wL w5) := HN.out.trans (hbu5.mono HN.out.size)
   replace BOX : Hid (Bx w5 (wL.heap.size) [.slice none 0 0, .slice none 0 0, .slice none 0 0, .int .i64 0, .int .i64 0, .slice none 0 0]) := BOX.out.below hbu5
   go_wp2_with fail
   refine hK.out _ _ ⟨BX.out.c0, BX.out.c1, BX.out.c2, BX.out.c3, BX.out.c4, BX.out.c5, BR.out.c0, BR.out.c1, BR.out.c2⟩ (fun hHeld5 => ?_)
   clear hK K hb5 hbu5
   refine wpAnyH_ready (rs := [4]) (by kernel_rfl) (by simp) ?_
   refine AllReadyH.cons rfl (fun K hK => ?_) AllReadyH.nil
   go_simp
   go_wp2_with fail
   refine (CI.out c2 _ C2.out L2.out.rows).mono ?_
   rintro e w6 ⟨da3, rfl, hs, hl, hb6⟩
   have Z6 : Hid (w5.heap.size ≤ w6.heap.size) := by show _ ≤ _; have h := hb6.size; simpa using h
   replace BA : Hid (Bx w6 w.heap.size [.slice e.b.va e.b.vs.length e.b.vc, .slice e.b.pa e.b.ps.length e.b.pc, .slice e.b.qa e.b.qs.length e.b.qc, .int .i64 e.b.cs, .int .i64 e.b.nx, .slice e.oa e.os.length e.oc]) := BA.out.below hb6
   replace BR : Hid (Bx w6 (w.heap.size + 1) [.string x.1, .string x.2.1, .bool x.2.2]) := BR.out.below hb6
   replace HB : Hid (Below w.heap.size w w6) := HB.out.trans (hb6.mono HB.out.size)
   replace AB : Hid (EnArg w6 e) := HPe.out.below HB.out
   replace OB1 : Hid (Bx w6 (ob1) [.slice d1.b.va d1.b.vs.length d1.b.vc, .slice d1.b.pa d1.b.ps.length d1.b.pc, .slice d1.b.qa d1.b.qs.length d1.b.qc, .int .i64 d1.b.cs, .int .i64 d1.b.nx, .slice d1.oa d1.os.length d1.oc]) := OB1.out.below hb6
   replace M1 : Hid (EnLq w6 (lo1) (hi1) d1) := M1.out.below hb6
   replace L2 : Hid (EnLie w6 (w3.heap.size) w4.heap.size c2) := L2.out.below hb6
   replace BX : Hid (Bx w6 (w4.heap.size) [.slice c2.b.va c2.b.vs.length c2.b.vc, .slice c2.b.pa c2.b.ps.length c2.b.pc, .slice c2.b.qa c2.b.qs.length c2.b.qc, .int .i64 c2.b.cs, .int .i64 c2.b.nx, .slice c2.oa c2.os.length c2.oc]) := BX.out.below hb6
   replace HN : Hid (Below (wL.heap.size) wL w6) := HN.out.trans (hb6.mono HN.out.size)
   replace BOX : Hid (Bx w6 (wL.heap.size) [.slice none 0 0, .slice none 0 0, .slice none 0 0, .int .i64 0, .int .i64 0, .slice none 0 0]) := BOX.out.below hb6
   have TA : Hid (EnLq w6 (w5.heap.size) w6.heap.size da3) := hl
   have TS : Hid (EnSame DD da3) := hs
   clear hl hs
   go_wp2_with fail
   refine hK.out _ _ ⟨BX.out.c0, BX.out.c1, BX.out.c2, BX.out.c3, BX.out.c4, BX.out.c5, BR.out.c0, BR.out.c1, BR.out.c2⟩ (fun hHeld6 => ?_)
   clear hK K hb6
   (refine tk 5 ?_ rfl (Or.inl ⟨by rfl, ?_⟩) ?_; rotate_left; (focus (intro w h; (try dsimp only at h); go_simp; (try with_reducible rfl))); simp only [Act.put, tA, tB, tC, tD, tE, tF])
   (refine tk 6 ?_ rfl (Or.inl ⟨by rfl, ?_⟩) ?_; rotate_left; (focus (intro w h; (try dsimp only at h); go_simp; (try with_reducible rfl))); simp only [Act.put, tA, tB, tC, tD, tE, tF])
   (refine tk 7 ?_ rfl (Or.inl ⟨by rfl, ?_⟩) ?_; rotate_left; (focus (intro w h; (try dsimp only at h); go_simp; (try with_reducible rfl))); simp only [Act.put, tA, tB, tC, tD, tE, tF])
   have zc0 := BOX.out.c0
   have zc1 := BOX.out.c1
   have zc2 := BOX.out.c2
   have zc3 := BOX.out.c3
   have zc4 := BOX.out.c4
   have zc5 := BOX.out.c5
   have zf := BOX.out.fz
   refine wpAnyH_ready (rs := [9]) (by kernel_rfl) (by simp) ?_
   refine AllReadyH.cons rfl (fun K hK => ?_) AllReadyH.nil
   go_simp
   have hz6 : Zn (wL.heap.size) (wL.heap.size + 1) w6 ((((((w6.setCell ⟨wL.heap.size, 0, none⟩ (.slice da3.b.va da3.b.vs.length da3.b.vc)).setCell ⟨wL.heap.size, 1, none⟩ (.slice da3.b.pa da3.b.ps.length da3.b.pc)).setCell ⟨wL.heap.size, 2, none⟩ (.slice da3.b.qa da3.b.qs.length da3.b.qc)).setCell ⟨wL.heap.size, 3, none⟩ (.int .i64 da3.b.cs)).setCell ⟨wL.heap.size, 4, none⟩ (.int .i64 da3.b.nx)).setCell ⟨wL.heap.size, 5, none⟩ (.slice da3.oa da3.os.length da3.oc)) := zn_s6 w6 (wL.heap.size) (.slice da3.b.va da3.b.vs.length da3.b.vc) (.slice da3.b.pa da3.b.ps.length da3.b.pc) (.slice da3.b.qa da3.b.qs.length da3.b.qc) (.int .i64 da3.b.cs) (.int .i64 da3.b.nx) (.slice da3.oa da3.os.length da3.oc)
   have BXs := hide0 (BX.out.zn hz6 (by have := Z1.out; have := Z2.out; have := Z3.out; have := ZZ1.out; have := Z4.out; have := ZwL.out; have := Z5.out; have := Z6.out; omega))
   have BRs := hide0 (BR.out.zn hz6 (by have := Z1.out; have := Z2.out; have := Z3.out; have := ZZ1.out; have := Z4.out; have := ZwL.out; have := Z5.out; have := Z6.out; omega))
   refine hK.out _ _ ⟨BXs.out.c0, BXs.out.c1, BXs.out.c2, BXs.out.c3, BXs.out.c4, BXs.out.c5, BRs.out.c0, BRs.out.c1, BRs.out.c2⟩ (fun hHeldS => ?_)
   clear hK K zc0 zc1 zc2 zc3 zc4 zc5 zf
   (refine tk 10 ?_ rfl (Or.inl ⟨by rfl, ?_⟩) ?_; rotate_left; (focus (intro w h; (try dsimp only at h); go_simp; (try with_reducible rfl))); simp only [Act.put, tA, tB, tC, tD, tE, tF])
   refine wpAnyH_done (by kernel_rfl) ?_ _
   have OB : Hid (Bx ((((((w6.setCell ⟨wL.heap.size, 0, none⟩ (.slice da3.b.va da3.b.vs.length da3.b.vc)).setCell ⟨wL.heap.size, 1, none⟩ (.slice da3.b.pa da3.b.ps.length da3.b.pc)).setCell ⟨wL.heap.size, 2, none⟩ (.slice da3.b.qa da3.b.qs.length da3.b.qc)).setCell ⟨wL.heap.size, 3, none⟩ (.int .i64 da3.b.cs)).setCell ⟨wL.heap.size, 4, none⟩ (.int .i64 da3.b.nx)).setCell ⟨wL.heap.size, 5, none⟩ (.slice da3.oa da3.os.length da3.oc)) (wL.heap.size) [.slice da3.b.va da3.b.vs.length da3.b.vc, .slice da3.b.pa da3.b.ps.length da3.b.pc, .slice da3.b.qa da3.b.qs.length da3.b.qc, .int .i64 da3.b.cs, .int .i64 da3.b.nx, .slice da3.oa da3.os.length da3.oc]) := bx_s6 BOX.out (.slice da3.b.va da3.b.vs.length da3.b.vc) (.slice da3.b.pa da3.b.ps.length da3.b.pc) (.slice da3.b.qa da3.b.qs.length da3.b.qc) (.int .i64 da3.b.cs) (.int .i64 da3.b.nx) (.slice da3.oa da3.os.length da3.oc)
   have TT : Hid (EnLq ((((((w6.setCell ⟨wL.heap.size, 0, none⟩ (.slice da3.b.va da3.b.vs.length da3.b.vc)).setCell ⟨wL.heap.size, 1, none⟩ (.slice da3.b.pa da3.b.ps.length da3.b.pc)).setCell ⟨wL.heap.size, 2, none⟩ (.slice da3.b.qa da3.b.qs.length da3.b.qc)).setCell ⟨wL.heap.size, 3, none⟩ (.int .i64 da3.b.cs)).setCell ⟨wL.heap.size, 4, none⟩ (.int .i64 da3.b.nx)).setCell ⟨wL.heap.size, 5, none⟩ (.slice da3.oa da3.os.length da3.oc)) (w5.heap.size) (w6.heap.size) da3) := TA.out.zn hz6 (by have := Z1.out; have := Z2.out; have := Z3.out; have := ZZ1.out; have := Z4.out; have := ZwL.out; have := Z5.out; have := Z6.out; omega)
   have NN : Hid (Below (wL.heap.size) wL ((((((w6.setCell ⟨wL.heap.size, 0, none⟩ (.slice da3.b.va da3.b.vs.length da3.b.vc)).setCell ⟨wL.heap.size, 1, none⟩ (.slice da3.b.pa da3.b.ps.length da3.b.pc)).setCell ⟨wL.heap.size, 2, none⟩ (.slice da3.b.qa da3.b.qs.length da3.b.qc)).setCell ⟨wL.heap.size, 3, none⟩ (.int .i64 da3.b.cs)).setCell ⟨wL.heap.size, 4, none⟩ (.int .i64 da3.b.nx)).setCell ⟨wL.heap.size, 5, none⟩ (.slice da3.oa da3.os.length da3.oc))) := HN.out.trans (hz6.below (by have := Z1.out; have := Z2.out; have := Z3.out; have := ZZ1.out; have := Z4.out; have := ZwL.out; have := Z5.out; have := Z6.out; omega) (by have := Z1.out; have := Z2.out; have := Z3.out; have := ZZ1.out; have := Z4.out; have := ZwL.out; have := Z5.out; have := Z6.out; omega))
   have SS : Hid (((((((w6.setCell ⟨wL.heap.size, 0, none⟩ (.slice da3.b.va da3.b.vs.length da3.b.vc)).setCell ⟨wL.heap.size, 1, none⟩ (.slice da3.b.pa da3.b.ps.length da3.b.pc)).setCell ⟨wL.heap.size, 2, none⟩ (.slice da3.b.qa da3.b.qs.length da3.b.qc)).setCell ⟨wL.heap.size, 3, none⟩ (.int .i64 da3.b.cs)).setCell ⟨wL.heap.size, 4, none⟩ (.int .i64 da3.b.nx)).setCell ⟨wL.heap.size, 5, none⟩ (.slice da3.oa da3.os.length da3.oc)).heap.size = w6.heap.size) := by show _ = _; simp [World.setCell]
   clear hz6
   go_wp2_with fail
   go_meet
   exact ⟨wL.heap.size, w5.heap.size, w6.heap.size, da3, rfl, rfl, (by show _ ∧ _; have := Z1.out; have := Z2.out; have := Z3.out; have := ZZ1.out; have := Z4.out; have := ZwL.out; have := Z5.out; have := Z6.out; have := SS.out; omega), OB, TS, TT, NN⟩
 case rest =>
 obtain ⟨ob3, lo3, hi3, d3, rfl, rfl, ZZ3, OB3, D3, M3, hbn⟩ := hcut
 obtain ⟨w5, rfl⟩ : ∃ x, x = wc := ⟨_, rfl⟩
 have hb5 : Below wL.heap.size wL w5 := hbn.out
 have Z5 : Hid (wL.heap.size ≤ w5.heap.size) := by show _ ≤ _; have h := hb5.size; simpa using h
 replace BA : Hid (Bx w5 w.heap.size [.slice e.b.va e.b.vs.length e.b.vc, .slice e.b.pa e.b.ps.length e.b.pc, .slice e.b.qa e.b.qs.length e.b.qc, .int .i64 e.b.cs, .int .i64 e.b.nx, .slice e.oa e.os.length e.oc]) := BA.out.below hb5
 replace BR : Hid (Bx w5 (w.heap.size + 1) [.string x.1, .string x.2.1, .bool x.2.2]) := BR.out.below hb5
 replace HB : Hid (Below w.heap.size w w5) := HB.out.trans (hb5.mono HB.out.size)
 replace AB : Hid (EnArg w5 e) := HPe.out.below HB.out
 replace OB1 : Hid (Bx w5 (ob1) [.slice d1.b.va d1.b.vs.length d1.b.vc, .slice d1.b.pa d1.b.ps.length d1.b.pc, .slice d1.b.qa d1.b.qs.length d1.b.qc, .int .i64 d1.b.cs, .int .i64 d1.b.nx, .slice d1.oa d1.os.length d1.oc]) := OB1.out.below hb5
 replace M1 : Hid (EnLq w5 (lo1) (hi1) d1) := M1.out.below hb5
 replace L2 : Hid (EnLie w5 (w3.heap.size) w4.heap.size c2) := L2.out.below hb5
 replace BX : Hid (Bx w5 (w4.heap.size) [.slice c2.b.va c2.b.vs.length c2.b.vc, .slice c2.b.pa c2.b.ps.length c2.b.pc, .slice c2.b.qa c2.b.qs.length c2.b.qc, .int .i64 c2.b.cs, .int .i64 c2.b.nx, .slice c2.oa c2.os.length c2.oc]) := BX.out.below hb5
 clear hbn hb5
 have x0 := OB3.out.c0
 have x1 := OB3.out.c1
 have x2 := OB3.out.c2
 have x3 := OB3.out.c3
 have x4 := OB3.out.c4
 have x5 := OB3.out.c5
 have y0 := OB1.out.c0
 have y1 := OB1.out.c1
 have y2 := OB1.out.c2
 have y3 := OB1.out.c3
 have y4 := OB1.out.c4
 have y5 := OB1.out.c5
 go_wp2_with fail
 refine (eqE d3 d1 (D3.out.symm.trans D1.out) (D3.out.fit HFD.out) _ M3.out.rows M1.out.rows).mono ?_
 rintro e w6 ⟨rfl, hb6⟩
 have Z6 : Hid (w5.heap.size ≤ w6.heap.size) := by show _ ≤ _; have h := hb6.size; simpa using h
 replace BA : Hid (Bx w6 w.heap.size [.slice e.b.va e.b.vs.length e.b.vc, .slice e.b.pa e.b.ps.length e.b.pc, .slice e.b.qa e.b.qs.length e.b.qc, .int .i64 e.b.cs, .int .i64 e.b.nx, .slice e.oa e.os.length e.oc]) := BA.out.below hb6
 replace BR : Hid (Bx w6 (w.heap.size + 1) [.string x.1, .string x.2.1, .bool x.2.2]) := BR.out.below hb6
 replace HB : Hid (Below w.heap.size w w6) := HB.out.trans (hb6.mono HB.out.size)
 replace AB : Hid (EnArg w6 e) := HPe.out.below HB.out
 replace OB1 : Hid (Bx w6 (ob1) [.slice d1.b.va d1.b.vs.length d1.b.vc, .slice d1.b.pa d1.b.ps.length d1.b.pc, .slice d1.b.qa d1.b.qs.length d1.b.qc, .int .i64 d1.b.cs, .int .i64 d1.b.nx, .slice d1.oa d1.os.length d1.oc]) := OB1.out.below hb6
 replace M1 : Hid (EnLq w6 (lo1) (hi1) d1) := M1.out.below hb6
 replace L2 : Hid (EnLie w6 (w3.heap.size) w4.heap.size c2) := L2.out.below hb6
 replace BX : Hid (Bx w6 (w4.heap.size) [.slice c2.b.va c2.b.vs.length c2.b.vc, .slice c2.b.pa c2.b.ps.length c2.b.pc, .slice c2.b.qa c2.b.qs.length c2.b.qc, .int .i64 c2.b.cs, .int .i64 c2.b.nx, .slice c2.oa c2.os.length c2.oc]) := BX.out.below hb6
 replace OB3 : Hid (Bx w6 (ob3) [.slice d3.b.va d3.b.vs.length d3.b.vc, .slice d3.b.pa d3.b.ps.length d3.b.pc, .slice d3.b.qa d3.b.qs.length d3.b.qc, .int .i64 d3.b.cs, .int .i64 d3.b.nx, .slice d3.oa d3.os.length d3.oc]) := OB3.out.below hb6
 replace M3 : Hid (EnLq w6 (lo3) (hi3) d3) := M3.out.below hb6
 clear hb6 x0 x1 x2 x3 x4 x5 y0 y1 y2 y3 y4 y5
 go_wp2
 refine wp_region_held_drew (S := fun w' => w'.cell? ⟨w4.heap.size, 0, none⟩ = some (.slice c2.b.va c2.b.vs.length c2.b.vc) ∧ w'.cell? ⟨w4.heap.size, 1, none⟩ = some (.slice c2.b.pa c2.b.ps.length c2.b.pc) ∧ w'.cell? ⟨w4.heap.size, 2, none⟩ = some (.slice c2.b.qa c2.b.qs.length c2.b.qc) ∧ w'.cell? ⟨w4.heap.size, 3, none⟩ = some (.int .i64 c2.b.cs) ∧ w'.cell? ⟨w4.heap.size, 4, none⟩ = some (.int .i64 c2.b.nx) ∧ w'.cell? ⟨w4.heap.size, 5, none⟩ = some (.slice c2.oa c2.os.length c2.oc) ∧ w'.cell? ⟨w.heap.size, 0, none⟩ = some (.slice e.b.va e.b.vs.length e.b.vc) ∧ w'.cell? ⟨w.heap.size, 1, none⟩ = some (.slice e.b.pa e.b.ps.length e.b.pc) ∧ w'.cell? ⟨w.heap.size, 2, none⟩ = some (.slice e.b.qa e.b.qs.length e.b.qc) ∧ w'.cell? ⟨w.heap.size, 3, none⟩ = some (.int .i64 e.b.cs) ∧ w'.cell? ⟨w.heap.size, 4, none⟩ = some (.int .i64 e.b.nx) ∧ w'.cell? ⟨w.heap.size, 5, none⟩ = some (.slice e.oa e.os.length e.oc)) (by kernel_rfl) ⟨BX.out.c0, BX.out.c1, BX.out.c2, BX.out.c3, BX.out.c4, BX.out.c5, BA.out.c0, BA.out.c1, BA.out.c2, BA.out.c3, BA.out.c4, BA.out.c5⟩ (fun hHeld => ?_)
 (refine tk 0 ?_ rfl (Or.inl ⟨by rfl, ?_⟩) ?_; rotate_left; (focus (intro w h; (try dsimp only at h); go_simp; (try with_reducible rfl))); simp only [Act.put, tA, tB, tD, tE, tF])
 (refine tk 1 ?_ rfl (Or.inl ⟨by rfl, ?_⟩) ?_; rotate_left; (focus (intro w h; (try dsimp only at h); go_simp; (try with_reducible rfl))); simp only [Act.put, tA, tB, tC, tD, tE, tF])
 refine wpAnyH_ready (rs := [2]) (by kernel_rfl) (by simp) ?_
 refine AllReadyH.cons rfl (fun K hK => ?_) AllReadyH.nil
 go_simp
 go_wp2_with fail
 refine (toE e HF.out _ AB.out.rows.drewE).mono ?_
 rintro e w7 ⟨c5, rfl, hs5, hl5, hb7⟩
 have hbu7 := undrew hb7
 have Z7 : Hid (w6.heap.size ≤ w7.heap.size) := by show _ ≤ _; have h := hbu7.size; simpa using h
 replace BA : Hid (Bx w7 w.heap.size [.slice e.b.va e.b.vs.length e.b.vc, .slice e.b.pa e.b.ps.length e.b.pc, .slice e.b.qa e.b.qs.length e.b.qc, .int .i64 e.b.cs, .int .i64 e.b.nx, .slice e.oa e.os.length e.oc]) := BA.out.below hbu7
 replace BR : Hid (Bx w7 (w.heap.size + 1) [.string x.1, .string x.2.1, .bool x.2.2]) := BR.out.below hbu7
 replace HB : Hid (Below w.heap.size w w7) := HB.out.trans (hbu7.mono HB.out.size)
 replace AB : Hid (EnArg w7 e) := HPe.out.below HB.out
 replace OB1 : Hid (Bx w7 (ob1) [.slice d1.b.va d1.b.vs.length d1.b.vc, .slice d1.b.pa d1.b.ps.length d1.b.pc, .slice d1.b.qa d1.b.qs.length d1.b.qc, .int .i64 d1.b.cs, .int .i64 d1.b.nx, .slice d1.oa d1.os.length d1.oc]) := OB1.out.below hbu7
 replace M1 : Hid (EnLq w7 (lo1) (hi1) d1) := M1.out.below hbu7
 replace L2 : Hid (EnLie w7 (w3.heap.size) w4.heap.size c2) := L2.out.below hbu7
 replace BX : Hid (Bx w7 (w4.heap.size) [.slice c2.b.va c2.b.vs.length c2.b.vc, .slice c2.b.pa c2.b.ps.length c2.b.pc, .slice c2.b.qa c2.b.qs.length c2.b.qc, .int .i64 c2.b.cs, .int .i64 c2.b.nx, .slice c2.oa c2.os.length c2.oc]) := BX.out.below hbu7
 replace OB3 : Hid (Bx w7 (ob3) [.slice d3.b.va d3.b.vs.length d3.b.vc, .slice d3.b.pa d3.b.ps.length d3.b.pc, .slice d3.b.qa d3.b.qs.length d3.b.qc, .int .i64 d3.b.cs, .int .i64 d3.b.nx, .slice d3.oa d3.os.length d3.oc]) := OB3.out.below hbu7
 replace M3 : Hid (EnLq w7 (lo3) (hi3) d3) := M3.out.below hbu7
 have U := hide hl5.rows
 clear hl5
 go_wp2_with fail
 refine hK.out _ _ ⟨BX.out.c0, BX.out.c1, BX.out.c2, BX.out.c3, BX.out.c4, BX.out.c5, BA.out.c0, BA.out.c1, BA.out.c2, BA.out.c3, BA.out.c4, BA.out.c5⟩ (fun hHeld7 => ?_)
 clear hK K hb7 hbu7
 refine wpAnyH_ready (rs := [3]) (by kernel_rfl) (by simp) ?_
 refine AllReadyH.cons rfl (fun K hK => ?_) AllReadyH.nil
 go_simp
 go_wp2_with fail
 refine (eqE c2 c5 (C2.out.symm.trans hs5) (C2.out.fit HF.out) _ L2.out.rows U.out).mono ?_
 rintro e w8 ⟨rfl, hb8⟩
 have Z8 : Hid (w7.heap.size ≤ w8.heap.size) := by show _ ≤ _; have h := hb8.size; simpa using h
 replace BA : Hid (Bx w8 w.heap.size [.slice e.b.va e.b.vs.length e.b.vc, .slice e.b.pa e.b.ps.length e.b.pc, .slice e.b.qa e.b.qs.length e.b.qc, .int .i64 e.b.cs, .int .i64 e.b.nx, .slice e.oa e.os.length e.oc]) := BA.out.below hb8
 replace BR : Hid (Bx w8 (w.heap.size + 1) [.string x.1, .string x.2.1, .bool x.2.2]) := BR.out.below hb8
 replace HB : Hid (Below w.heap.size w w8) := HB.out.trans (hb8.mono HB.out.size)
 replace AB : Hid (EnArg w8 e) := HPe.out.below HB.out
 replace OB1 : Hid (Bx w8 (ob1) [.slice d1.b.va d1.b.vs.length d1.b.vc, .slice d1.b.pa d1.b.ps.length d1.b.pc, .slice d1.b.qa d1.b.qs.length d1.b.qc, .int .i64 d1.b.cs, .int .i64 d1.b.nx, .slice d1.oa d1.os.length d1.oc]) := OB1.out.below hb8
 replace M1 : Hid (EnLq w8 (lo1) (hi1) d1) := M1.out.below hb8
 replace L2 : Hid (EnLie w8 (w3.heap.size) w4.heap.size c2) := L2.out.below hb8
 replace BX : Hid (Bx w8 (w4.heap.size) [.slice c2.b.va c2.b.vs.length c2.b.vc, .slice c2.b.pa c2.b.ps.length c2.b.pc, .slice c2.b.qa c2.b.qs.length c2.b.qc, .int .i64 c2.b.cs, .int .i64 c2.b.nx, .slice c2.oa c2.os.length c2.oc]) := BX.out.below hb8
 replace OB3 : Hid (Bx w8 (ob3) [.slice d3.b.va d3.b.vs.length d3.b.vc, .slice d3.b.pa d3.b.ps.length d3.b.pc, .slice d3.b.qa d3.b.qs.length d3.b.qc, .int .i64 d3.b.cs, .int .i64 d3.b.nx, .slice d3.oa d3.os.length d3.oc]) := OB3.out.below hb8
 replace M3 : Hid (EnLq w8 (lo3) (hi3) d3) := M3.out.below hb8
 replace U : Hid (EnRows w8 c5) := U.out.below hb8
 go_wp2_with fail
 refine hK.out _ _ ⟨BX.out.c0, BX.out.c1, BX.out.c2, BX.out.c3, BX.out.c4, BX.out.c5, BA.out.c0, BA.out.c1, BA.out.c2, BA.out.c3, BA.out.c4, BA.out.c5⟩ (fun hHeld8 => ?_)
 clear hK K hb8
 (refine tk 4 ?_ rfl (Or.inl ⟨by rfl, ?_⟩) ?_; rotate_left; (focus (intro w h; (try dsimp only at h); go_simp; (try with_reducible rfl))); simp only [Act.put, tA, tB, tC, tD, tE, tF])
 refine wpAnyH_done (by kernel_rfl) ?_ _
 clear U
 clear hs5
 have x0 := BX.out.c0
 have x1 := BX.out.c1
 have x2 := BX.out.c2
 have x3 := BX.out.c3
 have x4 := BX.out.c4
 have x5 := BX.out.c5
 go_wp2_with fail
 refine (markE c2 (w3.heap.size) (w4.heap.size) (C2.out.fit HF.out) _ (by have := Z1.out; have := Z2.out; have := Z3.out; have := ZZ1.out; have := Z4.out; have := ZwL.out; have := Z5.out; have := ZZ3.out; have := Z6.out; have := Z7.out; have := Z8.out; omega) L2.out).mono ?_
 rintro e w9 ⟨q1, m1, rfl, _, hz9, _⟩
 have Z9 : Hid (w8.heap.size ≤ w9.heap.size) := hz9.size
 replace BA : Hid (Bx w9 w.heap.size [.slice e.b.va e.b.vs.length e.b.vc, .slice e.b.pa e.b.ps.length e.b.pc, .slice e.b.qa e.b.qs.length e.b.qc, .int .i64 e.b.cs, .int .i64 e.b.nx, .slice e.oa e.os.length e.oc]) := BA.out.zn hz9 (by have := Z1.out; have := Z2.out; have := Z3.out; have := ZZ1.out; have := Z4.out; have := ZwL.out; have := Z5.out; have := ZZ3.out; have := Z6.out; have := Z7.out; have := Z8.out; omega)
 replace BR : Hid (Bx w9 (w.heap.size + 1) [.string x.1, .string x.2.1, .bool x.2.2]) := BR.out.zn hz9 (by have := Z1.out; have := Z2.out; have := Z3.out; have := ZZ1.out; have := Z4.out; have := ZwL.out; have := Z5.out; have := ZZ3.out; have := Z6.out; have := Z7.out; have := Z8.out; omega)
 replace HB : Hid (Below w.heap.size w w9) := HB.out.trans (hz9.below (by have := Z1.out; have := Z2.out; have := Z3.out; have := ZZ1.out; have := Z4.out; have := ZwL.out; have := Z5.out; have := ZZ3.out; have := Z6.out; have := Z7.out; have := Z8.out; omega) HB.out.size)
 replace AB : Hid (EnArg w9 e) := HPe.out.below HB.out
 replace OB1 : Hid (Bx w9 (ob1) [.slice d1.b.va d1.b.vs.length d1.b.vc, .slice d1.b.pa d1.b.ps.length d1.b.pc, .slice d1.b.qa d1.b.qs.length d1.b.qc, .int .i64 d1.b.cs, .int .i64 d1.b.nx, .slice d1.oa d1.os.length d1.oc]) := OB1.out.zn hz9 (by have := Z1.out; have := Z2.out; have := Z3.out; have := ZZ1.out; have := Z4.out; have := ZwL.out; have := Z5.out; have := ZZ3.out; have := Z6.out; have := Z7.out; have := Z8.out; omega)
 replace M1 : Hid (EnLq w9 (lo1) (hi1) d1) := M1.out.zn hz9 (by have := Z1.out; have := Z2.out; have := Z3.out; have := ZZ1.out; have := Z4.out; have := ZwL.out; have := Z5.out; have := ZZ3.out; have := Z6.out; have := Z7.out; have := Z8.out; omega)
 replace BX : Hid (Bx w9 (w4.heap.size) [.slice c2.b.va c2.b.vs.length c2.b.vc, .slice c2.b.pa c2.b.ps.length c2.b.pc, .slice c2.b.qa c2.b.qs.length c2.b.qc, .int .i64 c2.b.cs, .int .i64 c2.b.nx, .slice c2.oa c2.os.length c2.oc]) := BX.out.zn hz9 (by have := Z1.out; have := Z2.out; have := Z3.out; have := ZZ1.out; have := Z4.out; have := ZwL.out; have := Z5.out; have := ZZ3.out; have := Z6.out; have := Z7.out; have := Z8.out; omega)
 replace OB3 : Hid (Bx w9 (ob3) [.slice d3.b.va d3.b.vs.length d3.b.vc, .slice d3.b.pa d3.b.ps.length d3.b.pc, .slice d3.b.qa d3.b.qs.length d3.b.qc, .int .i64 d3.b.cs, .int .i64 d3.b.nx, .slice d3.oa d3.os.length d3.oc]) := OB3.out.zn hz9 (by have := Z1.out; have := Z2.out; have := Z3.out; have := ZZ1.out; have := Z4.out; have := ZwL.out; have := Z5.out; have := ZZ3.out; have := Z6.out; have := Z7.out; have := Z8.out; omega)
 replace M3 : Hid (EnLq w9 (lo3) (hi3) d3) := M3.out.zn hz9 (by have := Z1.out; have := Z2.out; have := Z3.out; have := ZZ1.out; have := Z4.out; have := ZwL.out; have := Z5.out; have := ZZ3.out; have := Z6.out; have := Z7.out; have := Z8.out; omega)
 clear hz9 x0 x1 x2 x3 x4 x5 L2
 have hK1a : ¬ (q1 : Int) < 0 := by omega
 have hK1b : decide ((q1 : Int) < 0) = false := by simp
 have x0 := OB3.out.c0
 have x1 := OB3.out.c1
 have x2 := OB3.out.c2
 have x3 := OB3.out.c3
 have x4 := OB3.out.c4
 have x5 := OB3.out.c5
 have y0 := OB1.out.c0
 have y1 := OB1.out.c1
 have y2 := OB1.out.c2
 have y3 := OB1.out.c3
 have y4 := OB1.out.c4
 have y5 := OB1.out.c5
 go_wp2_with fail
 refine (eqE d3 d1 (D3.out.symm.trans D1.out) (D3.out.fit HFD.out) _ M3.out.rows M1.out.rows).mono ?_
 rintro e w10 ⟨rfl, hb10⟩
 have Z10 : Hid (w9.heap.size ≤ w10.heap.size) := by show _ ≤ _; have h := hb10.size; simpa using h
 replace BA : Hid (Bx w10 w.heap.size [.slice e.b.va e.b.vs.length e.b.vc, .slice e.b.pa e.b.ps.length e.b.pc, .slice e.b.qa e.b.qs.length e.b.qc, .int .i64 e.b.cs, .int .i64 e.b.nx, .slice e.oa e.os.length e.oc]) := BA.out.below hb10
 replace BR : Hid (Bx w10 (w.heap.size + 1) [.string x.1, .string x.2.1, .bool x.2.2]) := BR.out.below hb10
 replace HB : Hid (Below w.heap.size w w10) := HB.out.trans (hb10.mono HB.out.size)
 replace AB : Hid (EnArg w10 e) := HPe.out.below HB.out
 replace OB1 : Hid (Bx w10 (ob1) [.slice d1.b.va d1.b.vs.length d1.b.vc, .slice d1.b.pa d1.b.ps.length d1.b.pc, .slice d1.b.qa d1.b.qs.length d1.b.qc, .int .i64 d1.b.cs, .int .i64 d1.b.nx, .slice d1.oa d1.os.length d1.oc]) := OB1.out.below hb10
 replace M1 : Hid (EnLq w10 (lo1) (hi1) d1) := M1.out.below hb10
 replace BX : Hid (Bx w10 (w4.heap.size) [.slice c2.b.va c2.b.vs.length c2.b.vc, .slice c2.b.pa c2.b.ps.length c2.b.pc, .slice c2.b.qa c2.b.qs.length c2.b.qc, .int .i64 c2.b.cs, .int .i64 c2.b.nx, .slice c2.oa c2.os.length c2.oc]) := BX.out.below hb10
 replace OB3 : Hid (Bx w10 (ob3) [.slice d3.b.va d3.b.vs.length d3.b.vc, .slice d3.b.pa d3.b.ps.length d3.b.pc, .slice d3.b.qa d3.b.qs.length d3.b.qc, .int .i64 d3.b.cs, .int .i64 d3.b.nx, .slice d3.oa d3.os.length d3.oc]) := OB3.out.below hb10
 replace M3 : Hid (EnLq w10 (lo3) (hi3) d3) := M3.out.below hb10
 clear hb10 x0 x1 x2 x3 x4 x5 y0 y1 y2 y3 y4 y5
 have x0 := OB3.out.c0
 have x1 := OB3.out.c1
 have x2 := OB3.out.c2
 have x3 := OB3.out.c3
 have x4 := OB3.out.c4
 have x5 := OB3.out.c5
 go_wp2_with fail
 refine (markEq d3 (lo3) (hi3) (D3.out.fit HFD.out) _ (by have := Z1.out; have := Z2.out; have := Z3.out; have := ZZ1.out; have := Z4.out; have := ZwL.out; have := Z5.out; have := ZZ3.out; have := Z6.out; have := Z7.out; have := Z8.out; have := Z9.out; have := Z10.out; omega) M3.out).mono ?_
 rintro e w11 ⟨q3, mm, rfl, hm, hz11, hh⟩
 have Z11 : Hid (w10.heap.size ≤ w11.heap.size) := hz11.size
 replace BA : Hid (Bx w11 w.heap.size [.slice e.b.va e.b.vs.length e.b.vc, .slice e.b.pa e.b.ps.length e.b.pc, .slice e.b.qa e.b.qs.length e.b.qc, .int .i64 e.b.cs, .int .i64 e.b.nx, .slice e.oa e.os.length e.oc]) := BA.out.zn hz11 (by have := Z1.out; have := Z2.out; have := Z3.out; have := ZZ1.out; have := Z4.out; have := ZwL.out; have := Z5.out; have := ZZ3.out; have := Z6.out; have := Z7.out; have := Z8.out; have := Z9.out; have := Z10.out; omega)
 replace BR : Hid (Bx w11 (w.heap.size + 1) [.string x.1, .string x.2.1, .bool x.2.2]) := BR.out.zn hz11 (by have := Z1.out; have := Z2.out; have := Z3.out; have := ZZ1.out; have := Z4.out; have := ZwL.out; have := Z5.out; have := ZZ3.out; have := Z6.out; have := Z7.out; have := Z8.out; have := Z9.out; have := Z10.out; omega)
 replace HB : Hid (Below w.heap.size w w11) := HB.out.trans (hz11.below (by have := Z1.out; have := Z2.out; have := Z3.out; have := ZZ1.out; have := Z4.out; have := ZwL.out; have := Z5.out; have := ZZ3.out; have := Z6.out; have := Z7.out; have := Z8.out; have := Z9.out; have := Z10.out; omega) HB.out.size)
 replace AB : Hid (EnArg w11 e) := HPe.out.below HB.out
 replace OB1 : Hid (Bx w11 (ob1) [.slice d1.b.va d1.b.vs.length d1.b.vc, .slice d1.b.pa d1.b.ps.length d1.b.pc, .slice d1.b.qa d1.b.qs.length d1.b.qc, .int .i64 d1.b.cs, .int .i64 d1.b.nx, .slice d1.oa d1.os.length d1.oc]) := OB1.out.zn hz11 (by have := Z1.out; have := Z2.out; have := Z3.out; have := ZZ1.out; have := Z4.out; have := ZwL.out; have := Z5.out; have := ZZ3.out; have := Z6.out; have := Z7.out; have := Z8.out; have := Z9.out; have := Z10.out; omega)
 replace M1 : Hid (EnLq w11 (lo1) (hi1) d1) := M1.out.zn hz11 (by have := Z1.out; have := Z2.out; have := Z3.out; have := ZZ1.out; have := Z4.out; have := ZwL.out; have := Z5.out; have := ZZ3.out; have := Z6.out; have := Z7.out; have := Z8.out; have := Z9.out; have := Z10.out; omega)
 replace BX : Hid (Bx w11 (w4.heap.size) [.slice c2.b.va c2.b.vs.length c2.b.vc, .slice c2.b.pa c2.b.ps.length c2.b.pc, .slice c2.b.qa c2.b.qs.length c2.b.qc, .int .i64 c2.b.cs, .int .i64 c2.b.nx, .slice c2.oa c2.os.length c2.oc]) := BX.out.zn hz11 (by have := Z1.out; have := Z2.out; have := Z3.out; have := ZZ1.out; have := Z4.out; have := ZwL.out; have := Z5.out; have := ZZ3.out; have := Z6.out; have := Z7.out; have := Z8.out; have := Z9.out; have := Z10.out; omega)
 replace OB3 : Hid (Bx w11 (ob3) [.slice d3.b.va d3.b.vs.length d3.b.vc, .slice d3.b.pa d3.b.ps.length d3.b.pc, .slice d3.b.qa d3.b.qs.length d3.b.qc, .int .i64 d3.b.cs, .int .i64 d3.b.nx, .slice d3.oa d3.os.length d3.oc]) := OB3.out.zn hz11 (by have := Z1.out; have := Z2.out; have := Z3.out; have := ZZ1.out; have := Z4.out; have := ZwL.out; have := Z5.out; have := ZZ3.out; have := Z6.out; have := Z7.out; have := Z8.out; have := Z9.out; have := Z10.out; omega)
 have MM : Hid (EnLq w11 (lo3) (hi3) mm) := hm
 have HH := hide hh
 clear hm hh
 clear hz11 x0 x1 x2 x3 x4 x5 M3
 have hK3a : ¬ (q3 : Int) < 0 := by omega
 have hK3b := ne_self_int (q3 : Int)
 have x0 := OB3.out.c0
 have x1 := OB3.out.c1
 have x2 := OB3.out.c2
 have x3 := OB3.out.c3
 have x4 := OB3.out.c4
 have x5 := OB3.out.c5
 go_wp2_with fail
 refine (HH.out _ MM.out.rows).mono ?_
 rintro e w12 ⟨rfl, hb12⟩
 have Z12 : Hid (w11.heap.size ≤ w12.heap.size) := by show _ ≤ _; have h := hb12.size; simpa using h
 replace BA : Hid (Bx w12 w.heap.size [.slice e.b.va e.b.vs.length e.b.vc, .slice e.b.pa e.b.ps.length e.b.pc, .slice e.b.qa e.b.qs.length e.b.qc, .int .i64 e.b.cs, .int .i64 e.b.nx, .slice e.oa e.os.length e.oc]) := BA.out.below hb12
 replace BR : Hid (Bx w12 (w.heap.size + 1) [.string x.1, .string x.2.1, .bool x.2.2]) := BR.out.below hb12
 replace HB : Hid (Below w.heap.size w w12) := HB.out.trans (hb12.mono HB.out.size)
 replace AB : Hid (EnArg w12 e) := HPe.out.below HB.out
 replace OB1 : Hid (Bx w12 (ob1) [.slice d1.b.va d1.b.vs.length d1.b.vc, .slice d1.b.pa d1.b.ps.length d1.b.pc, .slice d1.b.qa d1.b.qs.length d1.b.qc, .int .i64 d1.b.cs, .int .i64 d1.b.nx, .slice d1.oa d1.os.length d1.oc]) := OB1.out.below hb12
 replace M1 : Hid (EnLq w12 (lo1) (hi1) d1) := M1.out.below hb12
 replace BX : Hid (Bx w12 (w4.heap.size) [.slice c2.b.va c2.b.vs.length c2.b.vc, .slice c2.b.pa c2.b.ps.length c2.b.pc, .slice c2.b.qa c2.b.qs.length c2.b.qc, .int .i64 c2.b.cs, .int .i64 c2.b.nx, .slice c2.oa c2.os.length c2.oc]) := BX.out.below hb12
 replace OB3 : Hid (Bx w12 (ob3) [.slice d3.b.va d3.b.vs.length d3.b.vc, .slice d3.b.pa d3.b.ps.length d3.b.pc, .slice d3.b.qa d3.b.qs.length d3.b.qc, .int .i64 d3.b.cs, .int .i64 d3.b.nx, .slice d3.oa d3.os.length d3.oc]) := OB3.out.below hb12
 replace MM : Hid (EnLq w12 (lo3) (hi3) mm) := MM.out.below hb12
 clear hb12 x0 x1 x2 x3 x4 x5
 go_wp2
 go_cut [16, 17] from 88 to 96 (fun p q wx => ∃ (ob lo hi : Nat) (d : En), p = .pointer (some ⟨ob, 0, none⟩) ∧ q = .int .i64 KK ∧ Hid (w12.heap.size ≤ ob ∧ ob < wx.heap.size ∧ w12.heap.size ≤ lo ∧ lo ≤ hi ∧ hi ≤ wx.heap.size ∧ (ob < lo ∨ hi ≤ ob)) ∧ Hid (Bx wx ob [.slice d.b.va d.b.vs.length d.b.vc, .slice d.b.pa d.b.ps.length d.b.pc, .slice d.b.qa d.b.qs.length d.b.qc, .int .i64 d.b.cs, .int .i64 d.b.nx, .slice d.oa d.os.length d.oc]) ∧ Hid (EnSame DD d) ∧ Hid (EnLq wx (lo) (hi) d) ∧ Hid (Below (w12.heap.size) w12 wx))
 case first =>
  have HN : Hid (Below (w12.heap.size) w12 w12) := belowRefl w12
  refine wp_region_held_drew (S := fun w' => w'.cell? ⟨w.heap.size, 0, none⟩ = some (.slice e.b.va e.b.vs.length e.b.vc) ∧ w'.cell? ⟨w.heap.size, 1, none⟩ = some (.slice e.b.pa e.b.ps.length e.b.pc) ∧ w'.cell? ⟨w.heap.size, 2, none⟩ = some (.slice e.b.qa e.b.qs.length e.b.qc) ∧ w'.cell? ⟨w.heap.size, 3, none⟩ = some (.int .i64 e.b.cs) ∧ w'.cell? ⟨w.heap.size, 4, none⟩ = some (.int .i64 e.b.nx) ∧ w'.cell? ⟨w.heap.size, 5, none⟩ = some (.slice e.oa e.os.length e.oc) ∧ w'.cell? ⟨w.heap.size + 1, 0, none⟩ = some (.string x.1) ∧ w'.cell? ⟨w.heap.size + 1, 1, none⟩ = some (.string x.2.1) ∧ w'.cell? ⟨w.heap.size + 1, 2, none⟩ = some (.bool x.2.2)) (by kernel_rfl) ⟨BA.out.c0, BA.out.c1, BA.out.c2, BA.out.c3, BA.out.c4, BA.out.c5, BR.out.c0, BR.out.c1, BR.out.c2⟩ (fun hHeld => ?_)
  (refine tk 0 ?_ rfl (Or.inl ⟨by rfl, ?_⟩) ?_; rotate_left; (focus (intro w h; (try dsimp only at h); go_simp; (try with_reducible rfl))); simp only [Act.put, tA, tB, tD, tE, tF])
  (refine tk 2 ?_ rfl (Or.inl ⟨by rfl, ?_⟩) ?_; rotate_left; (focus (intro w h; (try dsimp only at h); go_simp; (try with_reducible rfl))); simp only [Act.put, tA, tB, tC, tD, tE, tF])
  (refine tk 3 ?_ rfl (Or.inl ⟨by rfl, ?_⟩) ?_; rotate_left; (focus (intro w h; (try dsimp only at h); go_simp; (try with_reducible rfl))); simp only [Act.put, tA, tB, tC, tD, tE, tF])
  refine wpAnyH_ready (rs := [1, 9]) (by kernel_rfl) (by simp) ?_
  refine AllReadyH.cons rfl (fun K hK => ?_) (AllReadyH.cons rfl (fun K hK => ?_) AllReadyH.nil)
  ·go_simp
   go_wp2_with fail
   refine (toE e HF.out _ AB.out.rows.drewE).mono ?_
   rintro e w13 ⟨c6, rfl, hs, hl, hb13⟩
   have hbu13 := undrew hb13
   have Z13 : Hid (w12.heap.size ≤ w13.heap.size) := by show _ ≤ _; have h := hbu13.size; simpa using h
   replace BA : Hid (Bx w13 w.heap.size [.slice e.b.va e.b.vs.length e.b.vc, .slice e.b.pa e.b.ps.length e.b.pc, .slice e.b.qa e.b.qs.length e.b.qc, .int .i64 e.b.cs, .int .i64 e.b.nx, .slice e.oa e.os.length e.oc]) := BA.out.below hbu13
   replace BR : Hid (Bx w13 (w.heap.size + 1) [.string x.1, .string x.2.1, .bool x.2.2]) := BR.out.below hbu13
   replace HB : Hid (Below w.heap.size w w13) := HB.out.trans (hbu13.mono HB.out.size)
   replace AB : Hid (EnArg w13 e) := HPe.out.below HB.out
   replace OB1 : Hid (Bx w13 (ob1) [.slice d1.b.va d1.b.vs.length d1.b.vc, .slice d1.b.pa d1.b.ps.length d1.b.pc, .slice d1.b.qa d1.b.qs.length d1.b.qc, .int .i64 d1.b.cs, .int .i64 d1.b.nx, .slice d1.oa d1.os.length d1.oc]) := OB1.out.below hbu13
   replace M1 : Hid (EnLq w13 (lo1) (hi1) d1) := M1.out.below hbu13
   replace BX : Hid (Bx w13 (w4.heap.size) [.slice c2.b.va c2.b.vs.length c2.b.vc, .slice c2.b.pa c2.b.ps.length c2.b.pc, .slice c2.b.qa c2.b.qs.length c2.b.qc, .int .i64 c2.b.cs, .int .i64 c2.b.nx, .slice c2.oa c2.os.length c2.oc]) := BX.out.below hbu13
   replace OB3 : Hid (Bx w13 (ob3) [.slice d3.b.va d3.b.vs.length d3.b.vc, .slice d3.b.pa d3.b.ps.length d3.b.pc, .slice d3.b.qa d3.b.qs.length d3.b.qc, .int .i64 d3.b.cs, .int .i64 d3.b.nx, .slice d3.oa d3.os.length d3.oc]) := OB3.out.below hbu13
   replace MM : Hid (EnLq w13 (lo3) (hi3) mm) := MM.out.below hbu13
   replace HN : Hid (Below (w12.heap.size) w12 w13) := HN.out.trans (hbu13.mono HN.out.size)
   have L6 : Hid (EnLie w13 (w12.heap.size) w13.heap.size c6) := hl
   have C6 : Hid (EnSame e c6) := hs
   clear hl hs
   go_wp2_with fail
   refine hK.out _ _ ⟨BA.out.c0, BA.out.c1, BA.out.c2, BA.out.c3, BA.out.c4, BA.out.c5, BR.out.c0, BR.out.c1, BR.out.c2⟩ (fun hHeld13 => ?_)
   clear hK K hb13 hbu13
   refine wpAnyH_ready (rs := [4, 9]) (by kernel_rfl) (by simp) ?_
   refine AllReadyH.cons rfl (fun K hK => ?_) (AllReadyH.cons rfl (fun K hK => ?_) AllReadyH.nil)
   ·go_simp
    go_wp2_with fail
    refine (TW.out _).mono ?_
    rintro e w14 ⟨rfl, hb14⟩
    have Z14 : Hid (w13.heap.size ≤ w14.heap.size) := by show _ ≤ _; have h := hb14.size; simpa using h
    replace BA : Hid (Bx w14 w.heap.size [.slice e.b.va e.b.vs.length e.b.vc, .slice e.b.pa e.b.ps.length e.b.pc, .slice e.b.qa e.b.qs.length e.b.qc, .int .i64 e.b.cs, .int .i64 e.b.nx, .slice e.oa e.os.length e.oc]) := BA.out.below hb14
    replace BR : Hid (Bx w14 (w.heap.size + 1) [.string x.1, .string x.2.1, .bool x.2.2]) := BR.out.below hb14
    replace HB : Hid (Below w.heap.size w w14) := HB.out.trans (hb14.mono HB.out.size)
    replace AB : Hid (EnArg w14 e) := HPe.out.below HB.out
    replace OB1 : Hid (Bx w14 (ob1) [.slice d1.b.va d1.b.vs.length d1.b.vc, .slice d1.b.pa d1.b.ps.length d1.b.pc, .slice d1.b.qa d1.b.qs.length d1.b.qc, .int .i64 d1.b.cs, .int .i64 d1.b.nx, .slice d1.oa d1.os.length d1.oc]) := OB1.out.below hb14
    replace M1 : Hid (EnLq w14 (lo1) (hi1) d1) := M1.out.below hb14
    replace BX : Hid (Bx w14 (w4.heap.size) [.slice c2.b.va c2.b.vs.length c2.b.vc, .slice c2.b.pa c2.b.ps.length c2.b.pc, .slice c2.b.qa c2.b.qs.length c2.b.qc, .int .i64 c2.b.cs, .int .i64 c2.b.nx, .slice c2.oa c2.os.length c2.oc]) := BX.out.below hb14
    replace OB3 : Hid (Bx w14 (ob3) [.slice d3.b.va d3.b.vs.length d3.b.vc, .slice d3.b.pa d3.b.ps.length d3.b.pc, .slice d3.b.qa d3.b.qs.length d3.b.qc, .int .i64 d3.b.cs, .int .i64 d3.b.nx, .slice d3.oa d3.os.length d3.oc]) := OB3.out.below hb14
    replace MM : Hid (EnLq w14 (lo3) (hi3) mm) := MM.out.below hb14
    replace HN : Hid (Below (w12.heap.size) w12 w14) := HN.out.trans (hb14.mono HN.out.size)
    replace L6 : Hid (EnLie w14 (w12.heap.size) w13.heap.size c6) := L6.out.below hb14
    go_wp2_with fail
    refine hK.out _ _ ⟨BA.out.c0, BA.out.c1, BA.out.c2, BA.out.c3, BA.out.c4, BA.out.c5, BR.out.c0, BR.out.c1, BR.out.c2⟩ (fun hHeld14 => ?_)
    clear hK K hb14
    refine wpAnyH_ready (rs := [5, 9]) (by kernel_rfl) (by simp) ?_
    refine AllReadyH.cons rfl (fun K hK => ?_) (AllReadyH.cons rfl (fun K hK => ?_) AllReadyH.nil)
    ·go_simp
     go_wp2_with fail
     refine (CI.out c6 _ C6.out L6.out.rows).mono ?_
     rintro e w15 ⟨da4, rfl, hs, hl, hb15⟩
     have Z15 : Hid (w14.heap.size ≤ w15.heap.size) := by show _ ≤ _; have h := hb15.size; simpa using h
     replace BA : Hid (Bx w15 w.heap.size [.slice e.b.va e.b.vs.length e.b.vc, .slice e.b.pa e.b.ps.length e.b.pc, .slice e.b.qa e.b.qs.length e.b.qc, .int .i64 e.b.cs, .int .i64 e.b.nx, .slice e.oa e.os.length e.oc]) := BA.out.below hb15
     replace BR : Hid (Bx w15 (w.heap.size + 1) [.string x.1, .string x.2.1, .bool x.2.2]) := BR.out.below hb15
     replace HB : Hid (Below w.heap.size w w15) := HB.out.trans (hb15.mono HB.out.size)
     replace AB : Hid (EnArg w15 e) := HPe.out.below HB.out
     replace OB1 : Hid (Bx w15 (ob1) [.slice d1.b.va d1.b.vs.length d1.b.vc, .slice d1.b.pa d1.b.ps.length d1.b.pc, .slice d1.b.qa d1.b.qs.length d1.b.qc, .int .i64 d1.b.cs, .int .i64 d1.b.nx, .slice d1.oa d1.os.length d1.oc]) := OB1.out.below hb15
     replace M1 : Hid (EnLq w15 (lo1) (hi1) d1) := M1.out.below hb15
     replace BX : Hid (Bx w15 (w4.heap.size) [.slice c2.b.va c2.b.vs.length c2.b.vc, .slice c2.b.pa c2.b.ps.length c2.b.pc, .slice c2.b.qa c2.b.qs.length c2.b.qc, .int .i64 c2.b.cs, .int .i64 c2.b.nx, .slice c2.oa c2.os.length c2.oc]) := BX.out.below hb15
     replace OB3 : Hid (Bx w15 (ob3) [.slice d3.b.va d3.b.vs.length d3.b.vc, .slice d3.b.pa d3.b.ps.length d3.b.pc, .slice d3.b.qa d3.b.qs.length d3.b.qc, .int .i64 d3.b.cs, .int .i64 d3.b.nx, .slice d3.oa d3.os.length d3.oc]) := OB3.out.below hb15
     replace MM : Hid (EnLq w15 (lo3) (hi3) mm) := MM.out.below hb15
     replace HN : Hid (Below (w12.heap.size) w12 w15) := HN.out.trans (hb15.mono HN.out.size)
     replace L6 : Hid (EnLie w15 (w12.heap.size) w13.heap.size c6) := L6.out.below hb15
     have TA : Hid (EnLq w15 (w14.heap.size) w15.heap.size da4) := hl
     have TS : Hid (EnSame DD da4) := hs
     clear hl hs
     go_wp2_with fail
     refine hK.out _ _ ⟨BA.out.c0, BA.out.c1, BA.out.c2, BA.out.c3, BA.out.c4, BA.out.c5, BR.out.c0, BR.out.c1, BR.out.c2⟩ (fun hHeld15 => ?_)
     clear hK K hb15
     (refine tk 6 ?_ rfl (Or.inl ⟨by rfl, ?_⟩) ?_; rotate_left; (focus (intro w h; (try dsimp only at h); go_simp; (try with_reducible rfl))); simp only [Act.put, tA, tB, tC, tD, tE, tF])
     (refine tk 7 ?_ rfl (Or.inl ⟨by rfl, ?_⟩) ?_; rotate_left; (focus (intro w h; (try dsimp only at h); go_simp; (try with_reducible rfl))); simp only [Act.put, tA, tB, tC, tD, tE, tF])
     (refine tk 8 ?_ rfl (Or.inl ⟨by rfl, ?_⟩) ?_; rotate_left; (focus (intro w h; (try dsimp only at h); go_simp; (try with_reducible rfl))); simp only [Act.put, tA, tB, tC, tD, tE, tF])
     refine wpAnyH_ready (rs := [9]) (by kernel_rfl) (by simp) ?_
     refine AllReadyH.cons rfl (fun K hK => ?_) AllReadyH.nil
     go_simp
     have BAq := BA
     have BRq := BR
     have TAq := TA
     have HNq := HN
     have hba : Below w15.heap.size w15 (w15.alloc (.cells #[.slice none 0 0, .slice none 0 0, .slice none 0 0, .int .i64 0, .int .i64 0, .slice none 0 0] 35)) := (belowRefl _).alloc (Nat.le_refl _) _
     replace BA : Hid (Bx (w15.alloc (.cells #[.slice none 0 0, .slice none 0 0, .slice none 0 0, .int .i64 0, .int .i64 0, .slice none 0 0] 35)) w.heap.size [.slice e.b.va e.b.vs.length e.b.vc, .slice e.b.pa e.b.ps.length e.b.pc, .slice e.b.qa e.b.qs.length e.b.qc, .int .i64 e.b.cs, .int .i64 e.b.nx, .slice e.oa e.os.length e.oc]) := BA.out.below hba
     replace BR : Hid (Bx (w15.alloc (.cells #[.slice none 0 0, .slice none 0 0, .slice none 0 0, .int .i64 0, .int .i64 0, .slice none 0 0] 35)) (w.heap.size + 1) [.string x.1, .string x.2.1, .bool x.2.2]) := BR.out.below hba
     replace HB : Hid (Below w.heap.size w (w15.alloc (.cells #[.slice none 0 0, .slice none 0 0, .slice none 0 0, .int .i64 0, .int .i64 0, .slice none 0 0] 35))) := HB.out.trans (hba.mono HB.out.size)
     replace AB : Hid (EnArg (w15.alloc (.cells #[.slice none 0 0, .slice none 0 0, .slice none 0 0, .int .i64 0, .int .i64 0, .slice none 0 0] 35)) e) := HPe.out.below HB.out
     replace OB1 : Hid (Bx (w15.alloc (.cells #[.slice none 0 0, .slice none 0 0, .slice none 0 0, .int .i64 0, .int .i64 0, .slice none 0 0] 35)) (ob1) [.slice d1.b.va d1.b.vs.length d1.b.vc, .slice d1.b.pa d1.b.ps.length d1.b.pc, .slice d1.b.qa d1.b.qs.length d1.b.qc, .int .i64 d1.b.cs, .int .i64 d1.b.nx, .slice d1.oa d1.os.length d1.oc]) := OB1.out.below hba
     replace M1 : Hid (EnLq (w15.alloc (.cells #[.slice none 0 0, .slice none 0 0, .slice none 0 0, .int .i64 0, .int .i64 0, .slice none 0 0] 35)) (lo1) (hi1) d1) := M1.out.below hba
     replace BX : Hid (Bx (w15.alloc (.cells #[.slice none 0 0, .slice none 0 0, .slice none 0 0, .int .i64 0, .int .i64 0, .slice none 0 0] 35)) (w4.heap.size) [.slice c2.b.va c2.b.vs.length c2.b.vc, .slice c2.b.pa c2.b.ps.length c2.b.pc, .slice c2.b.qa c2.b.qs.length c2.b.qc, .int .i64 c2.b.cs, .int .i64 c2.b.nx, .slice c2.oa c2.os.length c2.oc]) := BX.out.below hba
     replace OB3 : Hid (Bx (w15.alloc (.cells #[.slice none 0 0, .slice none 0 0, .slice none 0 0, .int .i64 0, .int .i64 0, .slice none 0 0] 35)) (ob3) [.slice d3.b.va d3.b.vs.length d3.b.vc, .slice d3.b.pa d3.b.ps.length d3.b.pc, .slice d3.b.qa d3.b.qs.length d3.b.qc, .int .i64 d3.b.cs, .int .i64 d3.b.nx, .slice d3.oa d3.os.length d3.oc]) := OB3.out.below hba
     replace MM : Hid (EnLq (w15.alloc (.cells #[.slice none 0 0, .slice none 0 0, .slice none 0 0, .int .i64 0, .int .i64 0, .slice none 0 0] 35)) (lo3) (hi3) mm) := MM.out.below hba
     replace HN : Hid (Below (w12.heap.size) w12 (w15.alloc (.cells #[.slice none 0 0, .slice none 0 0, .slice none 0 0, .int .i64 0, .int .i64 0, .slice none 0 0] 35))) := HN.out.trans (hba.mono HN.out.size)
     replace L6 : Hid (EnLie (w15.alloc (.cells #[.slice none 0 0, .slice none 0 0, .slice none 0 0, .int .i64 0, .int .i64 0, .slice none 0 0] 35)) (w12.heap.size) w13.heap.size c6) := L6.out.below hba
     replace TA : Hid (EnLq (w15.alloc (.cells #[.slice none 0 0, .slice none 0 0, .slice none 0 0, .int .i64 0, .int .i64 0, .slice none 0 0] 35)) (w14.heap.size) w15.heap.size da4) := TA.out.below hba
     clear hba
     have BOX : Hid (Bx (w15.alloc (.cells #[.slice none 0 0, .slice none 0 0, .slice none 0 0, .int .i64 0, .int .i64 0, .slice none 0 0] 35)) (w15.heap.size) [.slice none 0 0, .slice none 0 0, .slice none 0 0, .int .i64 0, .int .i64 0, .slice none 0 0]) := Bx.new w15 [.slice none 0 0, .slice none 0 0, .slice none 0 0, .int .i64 0, .int .i64 0, .slice none 0 0] 35
     (try go_wp2_with fail)
     refine hK.out _ _ ⟨BA.out.c0, BA.out.c1, BA.out.c2, BA.out.c3, BA.out.c4, BA.out.c5, BR.out.c0, BR.out.c1, BR.out.c2⟩ (fun hHeldB => ?_)
     clear hK K
     refine wpAnyH_ready (rs := [10]) (by kernel_rfl) (by simp) ?_
     refine AllReadyH.cons rfl (fun K hK => ?_) AllReadyH.nil
     go_simp
     have hbn : Below w15.heap.size w15 (w15.alloc (.cells #[.slice da4.b.va da4.b.vs.length da4.b.vc, .slice da4.b.pa da4.b.ps.length da4.b.pc, .slice da4.b.qa da4.b.qs.length da4.b.qc, .int .i64 da4.b.cs, .int .i64 da4.b.nx, .slice da4.oa da4.os.length da4.oc] 35)) := (belowRefl _).alloc (Nat.le_refl _) _
     have BAs := hide0 (BAq.out.below hbn)
     have BRs := hide0 (BRq.out.below hbn)
     refine hK.out _ _ ⟨BAs.out.c0, BAs.out.c1, BAs.out.c2, BAs.out.c3, BAs.out.c4, BAs.out.c5, BRs.out.c0, BRs.out.c1, BRs.out.c2⟩ (fun hHeldS => ?_)
     clear hK K
     (refine tk 11 ?_ rfl (Or.inl ⟨by rfl, ?_⟩) ?_; rotate_left; (focus (intro w h; (try dsimp only at h); go_simp; (try with_reducible rfl))); simp only [Act.put, tA, tB, tC, tD, tE, tF])
     refine wpAnyH_done (by kernel_rfl) ?_ _
     have OB : Hid (Bx (w15.alloc (.cells #[.slice da4.b.va da4.b.vs.length da4.b.vc, .slice da4.b.pa da4.b.ps.length da4.b.pc, .slice da4.b.qa da4.b.qs.length da4.b.qc, .int .i64 da4.b.cs, .int .i64 da4.b.nx, .slice da4.oa da4.os.length da4.oc] 35)) (w15.heap.size) [.slice da4.b.va da4.b.vs.length da4.b.vc, .slice da4.b.pa da4.b.ps.length da4.b.pc, .slice da4.b.qa da4.b.qs.length da4.b.qc, .int .i64 da4.b.cs, .int .i64 da4.b.nx, .slice da4.oa da4.os.length da4.oc]) := Bx.new w15 [.slice da4.b.va da4.b.vs.length da4.b.vc, .slice da4.b.pa da4.b.ps.length da4.b.pc, .slice da4.b.qa da4.b.qs.length da4.b.qc, .int .i64 da4.b.cs, .int .i64 da4.b.nx, .slice da4.oa da4.os.length da4.oc] 35
     have TT : Hid (EnLq (w15.alloc (.cells #[.slice da4.b.va da4.b.vs.length da4.b.vc, .slice da4.b.pa da4.b.ps.length da4.b.pc, .slice da4.b.qa da4.b.qs.length da4.b.qc, .int .i64 da4.b.cs, .int .i64 da4.b.nx, .slice da4.oa da4.os.length da4.oc] 35)) (w14.heap.size) (w15.heap.size) da4) := TAq.out.below hbn
     have NN : Hid (Below (w12.heap.size) w12 (w15.alloc (.cells #[.slice da4.b.va da4.b.vs.length da4.b.vc, .slice da4.b.pa da4.b.ps.length da4.b.pc, .slice da4.b.qa da4.b.qs.length da4.b.qc, .int .i64 da4.b.cs, .int .i64 da4.b.nx, .slice da4.oa da4.os.length da4.oc] 35))) := HNq.out.trans (hbn.mono HNq.out.size)
     have SS : Hid ((w15.alloc (.cells #[.slice da4.b.va da4.b.vs.length da4.b.vc, .slice da4.b.pa da4.b.ps.length da4.b.pc, .slice da4.b.qa da4.b.qs.length da4.b.qc, .int .i64 da4.b.cs, .int .i64 da4.b.nx, .slice da4.oa da4.os.length da4.oc] 35)).heap.size = w15.heap.size + 1) := World.size_alloc _ _
     clear hbn
     go_wp2_with fail
     go_meet
     exact ⟨w15.heap.size, w14.heap.size, w15.heap.size, da4, rfl, rfl, (by show _ ∧ _; have := Z1.out; have := Z2.out; have := Z3.out; have := ZZ1.out; have := Z4.out; have := ZwL.out; have := Z5.out; have := ZZ3.out; have := Z6.out; have := Z7.out; have := Z8.out; have := Z9.out; have := Z10.out; have := Z11.out; have := Z12.out; have := Z13.out; have := Z14.out; have := Z15.out; have := SS.out; omega), OB, TS, TT, NN⟩
    ·go_simp
     have hba : Below w14.heap.size w14 (w14.alloc (.cells #[.slice none 0 0, .slice none 0 0, .slice none 0 0, .int .i64 0, .int .i64 0, .slice none 0 0] 35)) := (belowRefl _).alloc (Nat.le_refl _) _
     replace BA : Hid (Bx (w14.alloc (.cells #[.slice none 0 0, .slice none 0 0, .slice none 0 0, .int .i64 0, .int .i64 0, .slice none 0 0] 35)) w.heap.size [.slice e.b.va e.b.vs.length e.b.vc, .slice e.b.pa e.b.ps.length e.b.pc, .slice e.b.qa e.b.qs.length e.b.qc, .int .i64 e.b.cs, .int .i64 e.b.nx, .slice e.oa e.os.length e.oc]) := BA.out.below hba
     replace BR : Hid (Bx (w14.alloc (.cells #[.slice none 0 0, .slice none 0 0, .slice none 0 0, .int .i64 0, .int .i64 0, .slice none 0 0] 35)) (w.heap.size + 1) [.string x.1, .string x.2.1, .bool x.2.2]) := BR.out.below hba
     replace HB : Hid (Below w.heap.size w (w14.alloc (.cells #[.slice none 0 0, .slice none 0 0, .slice none 0 0, .int .i64 0, .int .i64 0, .slice none 0 0] 35))) := HB.out.trans (hba.mono HB.out.size)
     replace AB : Hid (EnArg (w14.alloc (.cells #[.slice none 0 0, .slice none 0 0, .slice none 0 0, .int .i64 0, .int .i64 0, .slice none 0 0] 35)) e) := HPe.out.below HB.out
     replace OB1 : Hid (Bx (w14.alloc (.cells #[.slice none 0 0, .slice none 0 0, .slice none 0 0, .int .i64 0, .int .i64 0, .slice none 0 0] 35)) (ob1) [.slice d1.b.va d1.b.vs.length d1.b.vc, .slice d1.b.pa d1.b.ps.length d1.b.pc, .slice d1.b.qa d1.b.qs.length d1.b.qc, .int .i64 d1.b.cs, .int .i64 d1.b.nx, .slice d1.oa d1.os.length d1.oc]) := OB1.out.below hba
     replace M1 : Hid (EnLq (w14.alloc (.cells #[.slice none 0 0, .slice none 0 0, .slice none 0 0, .int .i64 0, .int .i64 0, .slice none 0 0] 35)) (lo1) (hi1) d1) := M1.out.below hba
     replace BX : Hid (Bx (w14.alloc (.cells #[.slice none 0 0, .slice none 0 0, .slice none 0 0, .int .i64 0, .int .i64 0, .slice none 0 0] 35)) (w4.heap.size) [.slice c2.b.va c2.b.vs.length c2.b.vc, .slice c2.b.pa c2.b.ps.length c2.b.pc, .slice c2.b.qa c2.b.qs.length c2.b.qc, .int .i64 c2.b.cs, .int .i64 c2.b.nx, .slice c2.oa c2.os.length c2.oc]) := BX.out.below hba
     replace OB3 : Hid (Bx (w14.alloc (.cells #[.slice none 0 0, .slice none 0 0, .slice none 0 0, .int .i64 0, .int .i64 0, .slice none 0 0] 35)) (ob3) [.slice d3.b.va d3.b.vs.length d3.b.vc, .slice d3.b.pa d3.b.ps.length d3.b.pc, .slice d3.b.qa d3.b.qs.length d3.b.qc, .int .i64 d3.b.cs, .int .i64 d3.b.nx, .slice d3.oa d3.os.length d3.oc]) := OB3.out.below hba
     replace MM : Hid (EnLq (w14.alloc (.cells #[.slice none 0 0, .slice none 0 0, .slice none 0 0, .int .i64 0, .int .i64 0, .slice none 0 0] 35)) (lo3) (hi3) mm) := MM.out.below hba
     replace HN : Hid (Below (w12.heap.size) w12 (w14.alloc (.cells #[.slice none 0 0, .slice none 0 0, .slice none 0 0, .int .i64 0, .int .i64 0, .slice none 0 0] 35))) := HN.out.trans (hba.mono HN.out.size)
     replace L6 : Hid (EnLie (w14.alloc (.cells #[.slice none 0 0, .slice none 0 0, .slice none 0 0, .int .i64 0, .int .i64 0, .slice none 0 0] 35)) (w12.heap.size) w13.heap.size c6) := L6.out.below hba
     clear hba
     have BOX : Hid (Bx (w14.alloc (.cells #[.slice none 0 0, .slice none 0 0, .slice none 0 0, .int .i64 0, .int .i64 0, .slice none 0 0] 35)) (w14.heap.size) [.slice none 0 0, .slice none 0 0, .slice none 0 0, .int .i64 0, .int .i64 0, .slice none 0 0]) := Bx.new w14 [.slice none 0 0, .slice none 0 0, .slice none 0 0, .int .i64 0, .int .i64 0, .slice none 0 0] 35
     (try go_wp2_with fail)
     refine hK.out _ _ ⟨BA.out.c0, BA.out.c1, BA.out.c2, BA.out.c3, BA.out.c4, BA.out.c5, BR.out.c0, BR.out.c1, BR.out.c2⟩ (fun hHeldB => ?_)
     clear hK K
     refine wpAnyH_ready (rs := [5]) (by kernel_rfl) (by simp) ?_
     refine AllReadyH.cons rfl (fun K hK => ?_) AllReadyH.nil
     go_simp
     go_wp2_with fail
     refine (CI.out c6 _ C6.out L6.out.rows).mono ?_
     rintro e w15 ⟨da4, rfl, hs, hl, hb15⟩
     have Z15 : Hid (w14.heap.size + 1 ≤ w15.heap.size) := by show _ ≤ _; have h := hb15.size; simpa using h
     replace BA : Hid (Bx w15 w.heap.size [.slice e.b.va e.b.vs.length e.b.vc, .slice e.b.pa e.b.ps.length e.b.pc, .slice e.b.qa e.b.qs.length e.b.qc, .int .i64 e.b.cs, .int .i64 e.b.nx, .slice e.oa e.os.length e.oc]) := BA.out.below hb15
     replace BR : Hid (Bx w15 (w.heap.size + 1) [.string x.1, .string x.2.1, .bool x.2.2]) := BR.out.below hb15
     replace HB : Hid (Below w.heap.size w w15) := HB.out.trans (hb15.mono HB.out.size)
     replace AB : Hid (EnArg w15 e) := HPe.out.below HB.out
     replace OB1 : Hid (Bx w15 (ob1) [.slice d1.b.va d1.b.vs.length d1.b.vc, .slice d1.b.pa d1.b.ps.length d1.b.pc, .slice d1.b.qa d1.b.qs.length d1.b.qc, .int .i64 d1.b.cs, .int .i64 d1.b.nx, .slice d1.oa d1.os.length d1.oc]) := OB1.out.below hb15
     replace M1 : Hid (EnLq w15 (lo1) (hi1) d1) := M1.out.below hb15
     replace BX : Hid (Bx w15 (w4.heap.size) [.slice c2.b.va c2.b.vs.length c2.b.vc, .slice c2.b.pa c2.b.ps.length c2.b.pc, .slice c2.b.qa c2.b.qs.length c2.b.qc, .int .i64 c2.b.cs, .int .i64 c2.b.nx, .slice c2.oa c2.os.length c2.oc]) := BX.out.below hb15
     replace OB3 : Hid (Bx w15 (ob3) [.slice d3.b.va d3.b.vs.length d3.b.vc, .slice d3.b.pa d3.b.ps.length d3.b.pc, .slice d3.b.qa d3.b.qs.length d3.b.qc, .int .i64 d3.b.cs, .int .i64 d3.b.nx, .slice d3.oa d3.os.length d3.oc]) := OB3.out.below hb15
     replace MM : Hid (EnLq w15 (lo3) (hi3) mm) := MM.out.below hb15
     replace HN : Hid (Below (w12.heap.size) w12 w15) := HN.out.trans (hb15.mono HN.out.size)
     replace L6 : Hid (EnLie w15 (w12.heap.size) w13.heap.size c6) := L6.out.below hb15
     replace BOX : Hid (Bx w15 (w14.heap.size) [.slice none 0 0, .slice none 0 0, .slice none 0 0, .int .i64 0, .int .i64 0, .slice none 0 0]) := BOX.out.below hb15
     have TA : Hid (EnLq w15 (w14.heap.size + 1) w15.heap.size da4) := (by show EnLq _ _ _ _; simpa using hl)
     have TS : Hid (EnSame DD da4) := hs
     clear hl hs
     go_wp2_with fail
     refine hK.out _ _ ⟨BA.out.c0, BA.out.c1, BA.out.c2, BA.out.c3, BA.out.c4, BA.out.c5, BR.out.c0, BR.out.c1, BR.out.c2⟩ (fun hHeld15 => ?_)
     clear hK K hb15
     (refine tk 6 ?_ rfl (Or.inl ⟨by rfl, ?_⟩) ?_; rotate_left; (focus (intro w h; (try dsimp only at h); go_simp; (try with_reducible rfl))); simp only [Act.put, tA, tB, tC, tD, tE, tF])
     (refine tk 7 ?_ rfl (Or.inl ⟨by rfl, ?_⟩) ?_; rotate_left; (focus (intro w h; (try dsimp only at h); go_simp; (try with_reducible rfl))); simp only [Act.put, tA, tB, tC, tD, tE, tF])
     (refine tk 8 ?_ rfl (Or.inl ⟨by rfl, ?_⟩) ?_; rotate_left; (focus (intro w h; (try dsimp only at h); go_simp; (try with_reducible rfl))); simp only [Act.put, tA, tB, tC, tD, tE, tF])
     have zc0 := BOX.out.c0
     have zc1 := BOX.out.c1
     have zc2 := BOX.out.c2
     have zc3 := BOX.out.c3
     have zc4 := BOX.out.c4
     have zc5 := BOX.out.c5
     have zf := BOX.out.fz
     refine wpAnyH_ready (rs := [10]) (by kernel_rfl) (by simp) ?_
     refine AllReadyH.cons rfl (fun K hK => ?_) AllReadyH.nil
     go_simp
     have hz6 : Zn (w14.heap.size) (w14.heap.size + 1) w15 ((((((w15.setCell ⟨w14.heap.size, 0, none⟩ (.slice da4.b.va da4.b.vs.length da4.b.vc)).setCell ⟨w14.heap.size, 1, none⟩ (.slice da4.b.pa da4.b.ps.length da4.b.pc)).setCell ⟨w14.heap.size, 2, none⟩ (.slice da4.b.qa da4.b.qs.length da4.b.qc)).setCell ⟨w14.heap.size, 3, none⟩ (.int .i64 da4.b.cs)).setCell ⟨w14.heap.size, 4, none⟩ (.int .i64 da4.b.nx)).setCell ⟨w14.heap.size, 5, none⟩ (.slice da4.oa da4.os.length da4.oc)) := zn_s6 w15 (w14.heap.size) (.slice da4.b.va da4.b.vs.length da4.b.vc) (.slice da4.b.pa da4.b.ps.length da4.b.pc) (.slice da4.b.qa da4.b.qs.length da4.b.qc) (.int .i64 da4.b.cs) (.int .i64 da4.b.nx) (.slice da4.oa da4.os.length da4.oc)
     have BAs := hide0 (BA.out.zn hz6 (by have := Z1.out; have := Z2.out; have := Z3.out; have := ZZ1.out; have := Z4.out; have := ZwL.out; have := Z5.out; have := ZZ3.out; have := Z6.out; have := Z7.out; have := Z8.out; have := Z9.out; have := Z10.out; have := Z11.out; have := Z12.out; have := Z13.out; have := Z14.out; have := Z15.out; omega))
     have BRs := hide0 (BR.out.zn hz6 (by have := Z1.out; have := Z2.out; have := Z3.out; have := ZZ1.out; have := Z4.out; have := ZwL.out; have := Z5.out; have := ZZ3.out; have := Z6.out; have := Z7.out; have := Z8.out; have := Z9.out; have := Z10.out; have := Z11.out; have := Z12.out; have := Z13.out; have := Z14.out; have := Z15.out; omega))
     refine hK.out _ _ ⟨BAs.out.c0, BAs.out.c1, BAs.out.c2, BAs.out.c3, BAs.out.c4, BAs.out.c5, BRs.out.c0, BRs.out.c1, BRs.out.c2⟩ (fun hHeldS => ?_)
     clear hK K zc0 zc1 zc2 zc3 zc4 zc5 zf
     (refine tk 11 ?_ rfl (Or.inl ⟨by rfl, ?_⟩) ?_; rotate_left; (focus (intro w h; (try dsimp only at h); go_simp; (try with_reducible rfl))); simp only [Act.put, tA, tB, tC, tD, tE, tF])
     refine wpAnyH_done (by kernel_rfl) ?_ _
     have OB : Hid (Bx ((((((w15.setCell ⟨w14.heap.size, 0, none⟩ (.slice da4.b.va da4.b.vs.length da4.b.vc)).setCell ⟨w14.heap.size, 1, none⟩ (.slice da4.b.pa da4.b.ps.length da4.b.pc)).setCell ⟨w14.heap.size, 2, none⟩ (.slice da4.b.qa da4.b.qs.length da4.b.qc)).setCell ⟨w14.heap.size, 3, none⟩ (.int .i64 da4.b.cs)).setCell ⟨w14.heap.size, 4, none⟩ (.int .i64 da4.b.nx)).setCell ⟨w14.heap.size, 5, none⟩ (.slice da4.oa da4.os.length da4.oc)) (w14.heap.size) [.slice da4.b.va da4.b.vs.length da4.b.vc, .slice da4.b.pa da4.b.ps.length da4.b.pc, .slice da4.b.qa da4.b.qs.length da4.b.qc, .int .i64 da4.b.cs, .int .i64 da4.b.nx, .slice da4.oa da4.os.length da4.oc]) := bx_s6 BOX.out (.slice da4.b.va da4.b.vs.length da4.b.vc) (.slice da4.b.pa da4.b.ps.length da4.b.pc) (.slice da4.b.qa da4.b.qs.length da4.b.qc) (.int .i64 da4.b.cs) (.int .i64 da4.b.nx) (.slice da4.oa da4.os.length da4.oc)
     have TT : Hid (EnLq ((((((w15.setCell ⟨w14.heap.size, 0, none⟩ (.slice da4.b.va da4.b.vs.length da4.b.vc)).setCell ⟨w14.heap.size, 1, none⟩ (.slice da4.b.pa da4.b.ps.length da4.b.pc)).setCell ⟨w14.heap.size, 2, none⟩ (.slice da4.b.qa da4.b.qs.length da4.b.qc)).setCell ⟨w14.heap.size, 3, none⟩ (.int .i64 da4.b.cs)).setCell ⟨w14.heap.size, 4, none⟩ (.int .i64 da4.b.nx)).setCell ⟨w14.heap.size, 5, none⟩ (.slice da4.oa da4.os.length da4.oc)) (w14.heap.size + 1) (w15.heap.size) da4) := TA.out.zn hz6 (by have := Z1.out; have := Z2.out; have := Z3.out; have := ZZ1.out; have := Z4.out; have := ZwL.out; have := Z5.out; have := ZZ3.out; have := Z6.out; have := Z7.out; have := Z8.out; have := Z9.out; have := Z10.out; have := Z11.out; have := Z12.out; have := Z13.out; have := Z14.out; have := Z15.out; omega)
     have NN : Hid (Below (w12.heap.size) w12 ((((((w15.setCell ⟨w14.heap.size, 0, none⟩ (.slice da4.b.va da4.b.vs.length da4.b.vc)).setCell ⟨w14.heap.size, 1, none⟩ (.slice da4.b.pa da4.b.ps.length da4.b.pc)).setCell ⟨w14.heap.size, 2, none⟩ (.slice da4.b.qa da4.b.qs.length da4.b.qc)).setCell ⟨w14.heap.size, 3, none⟩ (.int .i64 da4.b.cs)).setCell ⟨w14.heap.size, 4, none⟩ (.int .i64 da4.b.nx)).setCell ⟨w14.heap.size, 5, none⟩ (.slice da4.oa da4.os.length da4.oc))) := HN.out.trans (hz6.below (by have := Z1.out; have := Z2.out; have := Z3.out; have := ZZ1.out; have := Z4.out; have := ZwL.out; have := Z5.out; have := ZZ3.out; have := Z6.out; have := Z7.out; have := Z8.out; have := Z9.out; have := Z10.out; have := Z11.out; have := Z12.out; have := Z13.out; have := Z14.out; have := Z15.out; omega) (by have := Z1.out; have := Z2.out; have := Z3.out; have := ZZ1.out; have := Z4.out; have := ZwL.out; have := Z5.out; have := ZZ3.out; have := Z6.out; have := Z7.out; have := Z8.out; have := Z9.out; have := Z10.out; have := Z11.out; have := Z12.out; have := Z13.out; have := Z14.out; have := Z15.out; omega))
     have SS : Hid (((((((w15.setCell ⟨w14.heap.size, 0, none⟩ (.slice da4.b.va da4.b.vs.length da4.b.vc)).setCell ⟨w14.heap.size, 1, none⟩ (.slice da4.b.pa da4.b.ps.length da4.b.pc)).setCell ⟨w14.heap.size, 2, none⟩ (.slice da4.b.qa da4.b.qs.length da4.b.qc)).setCell ⟨w14.heap.size, 3, none⟩ (.int .i64 da4.b.cs)).setCell ⟨w14.heap.size, 4, none⟩ (.int .i64 da4.b.nx)).setCell ⟨w14.heap.size, 5, none⟩ (.slice da4.oa da4.os.length da4.oc)).heap.size = w15.heap.size) := by show _ = _; simp [World.setCell]
     clear hz6
     go_wp2_with fail
     go_meet
     exact ⟨w14.heap.size, w14.heap.size + 1, w15.heap.size, da4, rfl, rfl, (by show _ ∧ _; have := Z1.out; have := Z2.out; have := Z3.out; have := ZZ1.out; have := Z4.out; have := ZwL.out; have := Z5.out; have := ZZ3.out; have := Z6.out; have := Z7.out; have := Z8.out; have := Z9.out; have := Z10.out; have := Z11.out; have := Z12.out; have := Z13.out; have := Z14.out; have := Z15.out; have := SS.out; omega), OB, TS, TT, NN⟩
   ·go_simp
    have hba : Below w13.heap.size w13 (w13.alloc (.cells #[.slice none 0 0, .slice none 0 0, .slice none 0 0, .int .i64 0, .int .i64 0, .slice none 0 0] 35)) := (belowRefl _).alloc (Nat.le_refl _) _
    replace BA : Hid (Bx (w13.alloc (.cells #[.slice none 0 0, .slice none 0 0, .slice none 0 0, .int .i64 0, .int .i64 0, .slice none 0 0] 35)) w.heap.size [.slice e.b.va e.b.vs.length e.b.vc, .slice e.b.pa e.b.ps.length e.b.pc, .slice e.b.qa e.b.qs.length e.b.qc, .int .i64 e.b.cs, .int .i64 e.b.nx, .slice e.oa e.os.length e.oc]) := BA.out.below hba
    replace BR : Hid (Bx (w13.alloc (.cells #[.slice none 0 0, .slice none 0 0, .slice none 0 0, .int .i64 0, .int .i64 0, .slice none 0 0] 35)) (w.heap.size + 1) [.string x.1, .string x.2.1, .bool x.2.2]) := BR.out.below hba
    replace HB : Hid (Below w.heap.size w (w13.alloc (.cells #[.slice none 0 0, .slice none 0 0, .slice none 0 0, .int .i64 0, .int .i64 0, .slice none 0 0] 35))) := HB.out.trans (hba.mono HB.out.size)
    replace AB : Hid (EnArg (w13.alloc (.cells #[.slice none 0 0, .slice none 0 0, .slice none 0 0, .int .i64 0, .int .i64 0, .slice none 0 0] 35)) e) := HPe.out.below HB.out
    replace OB1 : Hid (Bx (w13.alloc (.cells #[.slice none 0 0, .slice none 0 0, .slice none 0 0, .int .i64 0, .int .i64 0, .slice none 0 0] 35)) (ob1) [.slice d1.b.va d1.b.vs.length d1.b.vc, .slice d1.b.pa d1.b.ps.length d1.b.pc, .slice d1.b.qa d1.b.qs.length d1.b.qc, .int .i64 d1.b.cs, .int .i64 d1.b.nx, .slice d1.oa d1.os.length d1.oc]) := OB1.out.below hba
    replace M1 : Hid (EnLq (w13.alloc (.cells #[.slice none 0 0, .slice none 0 0, .slice none 0 0, .int .i64 0, .int .i64 0, .slice none 0 0] 35)) (lo1) (hi1) d1) := M1.out.below hba
    replace BX : Hid (Bx (w13.alloc (.cells #[.slice none 0 0, .slice none 0 0, .slice none 0 0, .int .i64 0, .int .i64 0, .slice none 0 0] 35)) (w4.heap.size) [.slice c2.b.va c2.b.vs.length c2.b.vc, .slice c2.b.pa c2.b.ps.length c2.b.pc, .slice c2.b.qa c2.b.qs.length c2.b.qc, .int .i64 c2.b.cs, .int .i64 c2.b.nx, .slice c2.oa c2.os.length c2.oc]) := BX.out.below hba
    replace OB3 : Hid (Bx (w13.alloc (.cells #[.slice none 0 0, .slice none 0 0, .slice none 0 0, .int .i64 0, .int .i64 0, .slice none 0 0] 35)) (ob3) [.slice d3.b.va d3.b.vs.length d3.b.vc, .slice d3.b.pa d3.b.ps.length d3.b.pc, .slice d3.b.qa d3.b.qs.length d3.b.qc, .int .i64 d3.b.cs, .int .i64 d3.b.nx, .slice d3.oa d3.os.length d3.oc]) := OB3.out.below hba
    replace MM : Hid (EnLq (w13.alloc (.cells #[.slice none 0 0, .slice none 0 0, .slice none 0 0, .int .i64 0, .int .i64 0, .slice none 0 0] 35)) (lo3) (hi3) mm) := MM.out.below hba
    replace HN : Hid (Below (w12.heap.size) w12 (w13.alloc (.cells #[.slice none 0 0, .slice none 0 0, .slice none 0 0, .int .i64 0, .int .i64 0, .slice none 0 0] 35))) := HN.out.trans (hba.mono HN.out.size)
    replace L6 : Hid (EnLie (w13.alloc (.cells #[.slice none 0 0, .slice none 0 0, .slice none 0 0, .int .i64 0, .int .i64 0, .slice none 0 0] 35)) (w12.heap.size) w13.heap.size c6) := L6.out.below hba
    clear hba
    have BOX : Hid (Bx (w13.alloc (.cells #[.slice none 0 0, .slice none 0 0, .slice none 0 0, .int .i64 0, .int .i64 0, .slice none 0 0] 35)) (w13.heap.size) [.slice none 0 0, .slice none 0 0, .slice none 0 0, .int .i64 0, .int .i64 0, .slice none 0 0]) := Bx.new w13 [.slice none 0 0, .slice none 0 0, .slice none 0 0, .int .i64 0, .int .i64 0, .slice none 0 0] 35
    (try go_wp2_with fail)
    refine hK.out _ _ ⟨BA.out.c0, BA.out.c1, BA.out.c2, BA.out.c3, BA.out.c4, BA.out.c5, BR.out.c0, BR.out.c1, BR.out.c2⟩ (fun hHeldB => ?_)
    clear hK K
    refine wpAnyH_ready (rs := [4]) (by kernel_rfl) (by simp) ?_
    refine AllReadyH.cons rfl (fun K hK => ?_) AllReadyH.nil
    go_simp
    go_wp2_with fail
    refine (TW.out _).mono ?_
    rintro e w14 ⟨rfl, hb14⟩
    have Z14 : Hid (w13.heap.size + 1 ≤ w14.heap.size) := by show _ ≤ _; have h := hb14.size; simpa using h
    replace BA : Hid (Bx w14 w.heap.size [.slice e.b.va e.b.vs.length e.b.vc, .slice e.b.pa e.b.ps.length e.b.pc, .slice e.b.qa e.b.qs.length e.b.qc, .int .i64 e.b.cs, .int .i64 e.b.nx, .slice e.oa e.os.length e.oc]) := BA.out.below hb14
    replace BR : Hid (Bx w14 (w.heap.size + 1) [.string x.1, .string x.2.1, .bool x.2.2]) := BR.out.below hb14
    replace HB : Hid (Below w.heap.size w w14) := HB.out.trans (hb14.mono HB.out.size)
    replace AB : Hid (EnArg w14 e) := HPe.out.below HB.out
    replace OB1 : Hid (Bx w14 (ob1) [.slice d1.b.va d1.b.vs.length d1.b.vc, .slice d1.b.pa d1.b.ps.length d1.b.pc, .slice d1.b.qa d1.b.qs.length d1.b.qc, .int .i64 d1.b.cs, .int .i64 d1.b.nx, .slice d1.oa d1.os.length d1.oc]) := OB1.out.below hb14
    replace M1 : Hid (EnLq w14 (lo1) (hi1) d1) := M1.out.below hb14
    replace BX : Hid (Bx w14 (w4.heap.size) [.slice c2.b.va c2.b.vs.length c2.b.vc, .slice c2.b.pa c2.b.ps.length c2.b.pc, .slice c2.b.qa c2.b.qs.length c2.b.qc, .int .i64 c2.b.cs, .int .i64 c2.b.nx, .slice c2.oa c2.os.length c2.oc]) := BX.out.below hb14
    replace OB3 : Hid (Bx w14 (ob3) [.slice d3.b.va d3.b.vs.length d3.b.vc, .slice d3.b.pa d3.b.ps.length d3.b.pc, .slice d3.b.qa d3.b.qs.length d3.b.qc, .int .i64 d3.b.cs, .int .i64 d3.b.nx, .slice d3.oa d3.os.length d3.oc]) := OB3.out.below hb14
    replace MM : Hid (EnLq w14 (lo3) (hi3) mm) := MM.out.below hb14
    replace HN : Hid (Below (w12.heap.size) w12 w14) := HN.out.trans (hb14.mono HN.out.size)
    replace L6 : Hid (EnLie w14 (w12.heap.size) w13.heap.size c6) := L6.out.below hb14
    replace BOX : Hid (Bx w14 (w13.heap.size) [.slice none 0 0, .slice none 0 0, .slice none 0 0, .int .i64 0, .int .i64 0, .slice none 0 0]) := BOX.out.below hb14
    go_wp2_with fail
    refine hK.out _ _ ⟨BA.out.c0, BA.out.c1, BA.out.c2, BA.out.c3, BA.out.c4, BA.out.c5, BR.out.c0, BR.out.c1, BR.out.c2⟩ (fun hHeld14 => ?_)
    clear hK K hb14
    refine wpAnyH_ready (rs := [5]) (by kernel_rfl) (by simp) ?_
    refine AllReadyH.cons rfl (fun K hK => ?_) AllReadyH.nil
    go_simp
    go_wp2_with fail
    refine (CI.out c6 _ C6.out L6.out.rows).mono ?_
    rintro e w15 ⟨da4, rfl, hs, hl, hb15⟩
    have Z15 : Hid (w14.heap.size ≤ w15.heap.size) := by show _ ≤ _; have h := hb15.size; simpa using h
    replace BA : Hid (Bx w15 w.heap.size [.slice e.b.va e.b.vs.length e.b.vc, .slice e.b.pa e.b.ps.length e.b.pc, .slice e.b.qa e.b.qs.length e.b.qc, .int .i64 e.b.cs, .int .i64 e.b.nx, .slice e.oa e.os.length e.oc]) := BA.out.below hb15
    replace BR : Hid (Bx w15 (w.heap.size + 1) [.string x.1, .string x.2.1, .bool x.2.2]) := BR.out.below hb15
    replace HB : Hid (Below w.heap.size w w15) := HB.out.trans (hb15.mono HB.out.size)
    replace AB : Hid (EnArg w15 e) := HPe.out.below HB.out
    replace OB1 : Hid (Bx w15 (ob1) [.slice d1.b.va d1.b.vs.length d1.b.vc, .slice d1.b.pa d1.b.ps.length d1.b.pc, .slice d1.b.qa d1.b.qs.length d1.b.qc, .int .i64 d1.b.cs, .int .i64 d1.b.nx, .slice d1.oa d1.os.length d1.oc]) := OB1.out.below hb15
    replace M1 : Hid (EnLq w15 (lo1) (hi1) d1) := M1.out.below hb15
    replace BX : Hid (Bx w15 (w4.heap.size) [.slice c2.b.va c2.b.vs.length c2.b.vc, .slice c2.b.pa c2.b.ps.length c2.b.pc, .slice c2.b.qa c2.b.qs.length c2.b.qc, .int .i64 c2.b.cs, .int .i64 c2.b.nx, .slice c2.oa c2.os.length c2.oc]) := BX.out.below hb15
    replace OB3 : Hid (Bx w15 (ob3) [.slice d3.b.va d3.b.vs.length d3.b.vc, .slice d3.b.pa d3.b.ps.length d3.b.pc, .slice d3.b.qa d3.b.qs.length d3.b.qc, .int .i64 d3.b.cs, .int .i64 d3.b.nx, .slice d3.oa d3.os.length d3.oc]) := OB3.out.below hb15
    replace MM : Hid (EnLq w15 (lo3) (hi3) mm) := MM.out.below hb15
    replace HN : Hid (Below (w12.heap.size) w12 w15) := HN.out.trans (hb15.mono HN.out.size)
    replace L6 : Hid (EnLie w15 (w12.heap.size) w13.heap.size c6) := L6.out.below hb15
    replace BOX : Hid (Bx w15 (w13.heap.size) [.slice none 0 0, .slice none 0 0, .slice none 0 0, .int .i64 0, .int .i64 0, .slice none 0 0]) := BOX.out.below hb15
    have TA : Hid (EnLq w15 (w14.heap.size) w15.heap.size da4) := hl
    have TS : Hid (EnSame DD da4) := hs
    clear hl hs
    go_wp2_with fail
    refine hK.out _ _ ⟨BA.out.c0, BA.out.c1, BA.out.c2, BA.out.c3, BA.out.c4, BA.out.c5, BR.out.c0, BR.out.c1, BR.out.c2⟩ (fun hHeld15 => ?_)
    clear hK K hb15
    (refine tk 6 ?_ rfl (Or.inl ⟨by rfl, ?_⟩) ?_; rotate_left; (focus (intro w h; (try dsimp only at h); go_simp; (try with_reducible rfl))); simp only [Act.put, tA, tB, tC, tD, tE, tF])
    (refine tk 7 ?_ rfl (Or.inl ⟨by rfl, ?_⟩) ?_; rotate_left; (focus (intro w h; (try dsimp only at h); go_simp; (try with_reducible rfl))); simp only [Act.put, tA, tB, tC, tD, tE, tF])
    (refine tk 8 ?_ rfl (Or.inl ⟨by rfl, ?_⟩) ?_; rotate_left; (focus (intro w h; (try dsimp only at h); go_simp; (try with_reducible rfl))); simp only [Act.put, tA, tB, tC, tD, tE, tF])
    have zc0 := BOX.out.c0
    have zc1 := BOX.out.c1
    have zc2 := BOX.out.c2
    have zc3 := BOX.out.c3
    have zc4 := BOX.out.c4
    have zc5 := BOX.out.c5
    have zf := BOX.out.fz
    refine wpAnyH_ready (rs := [10]) (by kernel_rfl) (by simp) ?_
    refine AllReadyH.cons rfl (fun K hK => ?_) AllReadyH.nil
    go_simp
    have hz6 : Zn (w13.heap.size) (w13.heap.size + 1) w15 ((((((w15.setCell ⟨w13.heap.size, 0, none⟩ (.slice da4.b.va da4.b.vs.length da4.b.vc)).setCell ⟨w13.heap.size, 1, none⟩ (.slice da4.b.pa da4.b.ps.length da4.b.pc)).setCell ⟨w13.heap.size, 2, none⟩ (.slice da4.b.qa da4.b.qs.length da4.b.qc)).setCell ⟨w13.heap.size, 3, none⟩ (.int .i64 da4.b.cs)).setCell ⟨w13.heap.size, 4, none⟩ (.int .i64 da4.b.nx)).setCell ⟨w13.heap.size, 5, none⟩ (.slice da4.oa da4.os.length da4.oc)) := zn_s6 w15 (w13.heap.size) (.slice da4.b.va da4.b.vs.length da4.b.vc) (.slice da4.b.pa da4.b.ps.length da4.b.pc) (.slice da4.b.qa da4.b.qs.length da4.b.qc) (.int .i64 da4.b.cs) (.int .i64 da4.b.nx) (.slice da4.oa da4.os.length da4.oc)
    have BAs := hide0 (BA.out.zn hz6 (by have := Z1.out; have := Z2.out; have := Z3.out; have := ZZ1.out; have := Z4.out; have := ZwL.out; have := Z5.out; have := ZZ3.out; have := Z6.out; have := Z7.out; have := Z8.out; have := Z9.out; have := Z10.out; have := Z11.out; have := Z12.out; have := Z13.out; have := Z14.out; have := Z15.out; omega))
    have BRs := hide0 (BR.out.zn hz6 (by have := Z1.out; have := Z2.out; have := Z3.out; have := ZZ1.out; have := Z4.out; have := ZwL.out; have := Z5.out; have := ZZ3.out; have := Z6.out; have := Z7.out; have := Z8.out; have := Z9.out; have := Z10.out; have := Z11.out; have := Z12.out; have := Z13.out; have := Z14.out; have := Z15.out; omega))
    refine hK.out _ _ ⟨BAs.out.c0, BAs.out.c1, BAs.out.c2, BAs.out.c3, BAs.out.c4, BAs.out.c5, BRs.out.c0, BRs.out.c1, BRs.out.c2⟩ (fun hHeldS => ?_)
    clear hK K zc0 zc1 zc2 zc3 zc4 zc5 zf
    (refine tk 11 ?_ rfl (Or.inl ⟨by rfl, ?_⟩) ?_; rotate_left; (focus (intro w h; (try dsimp only at h); go_simp; (try with_reducible rfl))); simp only [Act.put, tA, tB, tC, tD, tE, tF])
    refine wpAnyH_done (by kernel_rfl) ?_ _
    have OB : Hid (Bx ((((((w15.setCell ⟨w13.heap.size, 0, none⟩ (.slice da4.b.va da4.b.vs.length da4.b.vc)).setCell ⟨w13.heap.size, 1, none⟩ (.slice da4.b.pa da4.b.ps.length da4.b.pc)).setCell ⟨w13.heap.size, 2, none⟩ (.slice da4.b.qa da4.b.qs.length da4.b.qc)).setCell ⟨w13.heap.size, 3, none⟩ (.int .i64 da4.b.cs)).setCell ⟨w13.heap.size, 4, none⟩ (.int .i64 da4.b.nx)).setCell ⟨w13.heap.size, 5, none⟩ (.slice da4.oa da4.os.length da4.oc)) (w13.heap.size) [.slice da4.b.va da4.b.vs.length da4.b.vc, .slice da4.b.pa da4.b.ps.length da4.b.pc, .slice da4.b.qa da4.b.qs.length da4.b.qc, .int .i64 da4.b.cs, .int .i64 da4.b.nx, .slice da4.oa da4.os.length da4.oc]) := bx_s6 BOX.out (.slice da4.b.va da4.b.vs.length da4.b.vc) (.slice da4.b.pa da4.b.ps.length da4.b.pc) (.slice da4.b.qa da4.b.qs.length da4.b.qc) (.int .i64 da4.b.cs) (.int .i64 da4.b.nx) (.slice da4.oa da4.os.length da4.oc)
    have TT : Hid (EnLq ((((((w15.setCell ⟨w13.heap.size, 0, none⟩ (.slice da4.b.va da4.b.vs.length da4.b.vc)).setCell ⟨w13.heap.size, 1, none⟩ (.slice da4.b.pa da4.b.ps.length da4.b.pc)).setCell ⟨w13.heap.size, 2, none⟩ (.slice da4.b.qa da4.b.qs.length da4.b.qc)).setCell ⟨w13.heap.size, 3, none⟩ (.int .i64 da4.b.cs)).setCell ⟨w13.heap.size, 4, none⟩ (.int .i64 da4.b.nx)).setCell ⟨w13.heap.size, 5, none⟩ (.slice da4.oa da4.os.length da4.oc)) (w14.heap.size) (w15.heap.size) da4) := TA.out.zn hz6 (by have := Z1.out; have := Z2.out; have := Z3.out; have := ZZ1.out; have := Z4.out; have := ZwL.out; have := Z5.out; have := ZZ3.out; have := Z6.out; have := Z7.out; have := Z8.out; have := Z9.out; have := Z10.out; have := Z11.out; have := Z12.out; have := Z13.out; have := Z14.out; have := Z15.out; omega)
    have NN : Hid (Below (w12.heap.size) w12 ((((((w15.setCell ⟨w13.heap.size, 0, none⟩ (.slice da4.b.va da4.b.vs.length da4.b.vc)).setCell ⟨w13.heap.size, 1, none⟩ (.slice da4.b.pa da4.b.ps.length da4.b.pc)).setCell ⟨w13.heap.size, 2, none⟩ (.slice da4.b.qa da4.b.qs.length da4.b.qc)).setCell ⟨w13.heap.size, 3, none⟩ (.int .i64 da4.b.cs)).setCell ⟨w13.heap.size, 4, none⟩ (.int .i64 da4.b.nx)).setCell ⟨w13.heap.size, 5, none⟩ (.slice da4.oa da4.os.length da4.oc))) := HN.out.trans (hz6.below (by have := Z1.out; have := Z2.out; have := Z3.out; have := ZZ1.out; have := Z4.out; have := ZwL.out; have := Z5.out; have := ZZ3.out; have := Z6.out; have := Z7.out; have := Z8.out; have := Z9.out; have := Z10.out; have := Z11.out; have := Z12.out; have := Z13.out; have := Z14.out; have := Z15.out; omega) (by have := Z1.out; have := Z2.out; have := Z3.out; have := ZZ1.out; have := Z4.out; have := ZwL.out; have := Z5.out; have := ZZ3.out; have := Z6.out; have := Z7.out; have := Z8.out; have := Z9.out; have := Z10.out; have := Z11.out; have := Z12.out; have := Z13.out; have := Z14.out; have := Z15.out; omega))
    have SS : Hid (((((((w15.setCell ⟨w13.heap.size, 0, none⟩ (.slice da4.b.va da4.b.vs.length da4.b.vc)).setCell ⟨w13.heap.size, 1, none⟩ (.slice da4.b.pa da4.b.ps.length da4.b.pc)).setCell ⟨w13.heap.size, 2, none⟩ (.slice da4.b.qa da4.b.qs.length da4.b.qc)).setCell ⟨w13.heap.size, 3, none⟩ (.int .i64 da4.b.cs)).setCell ⟨w13.heap.size, 4, none⟩ (.int .i64 da4.b.nx)).setCell ⟨w13.heap.size, 5, none⟩ (.slice da4.oa da4.os.length da4.oc)).heap.size = w15.heap.size) := by show _ = _; simp [World.setCell]
    clear hz6
    go_wp2_with fail
    go_meet
    exact ⟨w13.heap.size, w14.heap.size, w15.heap.size, da4, rfl, rfl, (by show _ ∧ _; have := Z1.out; have := Z2.out; have := Z3.out; have := ZZ1.out; have := Z4.out; have := ZwL.out; have := Z5.out; have := ZZ3.out; have := Z6.out; have := Z7.out; have := Z8.out; have := Z9.out; have := Z10.out; have := Z11.out; have := Z12.out; have := Z13.out; have := Z14.out; have := Z15.out; have := SS.out; omega), OB, TS, TT, NN⟩
  ·go_simp
   have hba : Below w12.heap.size w12 (w12.alloc (.cells #[.slice none 0 0, .slice none 0 0, .slice none 0 0, .int .i64 0, .int .i64 0, .slice none 0 0] 35)) := (belowRefl _).alloc (Nat.le_refl _) _
   replace BA : Hid (Bx (w12.alloc (.cells #[.slice none 0 0, .slice none 0 0, .slice none 0 0, .int .i64 0, .int .i64 0, .slice none 0 0] 35)) w.heap.size [.slice e.b.va e.b.vs.length e.b.vc, .slice e.b.pa e.b.ps.length e.b.pc, .slice e.b.qa e.b.qs.length e.b.qc, .int .i64 e.b.cs, .int .i64 e.b.nx, .slice e.oa e.os.length e.oc]) := BA.out.below hba
   replace BR : Hid (Bx (w12.alloc (.cells #[.slice none 0 0, .slice none 0 0, .slice none 0 0, .int .i64 0, .int .i64 0, .slice none 0 0] 35)) (w.heap.size + 1) [.string x.1, .string x.2.1, .bool x.2.2]) := BR.out.below hba
   replace HB : Hid (Below w.heap.size w (w12.alloc (.cells #[.slice none 0 0, .slice none 0 0, .slice none 0 0, .int .i64 0, .int .i64 0, .slice none 0 0] 35))) := HB.out.trans (hba.mono HB.out.size)
   replace AB : Hid (EnArg (w12.alloc (.cells #[.slice none 0 0, .slice none 0 0, .slice none 0 0, .int .i64 0, .int .i64 0, .slice none 0 0] 35)) e) := HPe.out.below HB.out
   replace OB1 : Hid (Bx (w12.alloc (.cells #[.slice none 0 0, .slice none 0 0, .slice none 0 0, .int .i64 0, .int .i64 0, .slice none 0 0] 35)) (ob1) [.slice d1.b.va d1.b.vs.length d1.b.vc, .slice d1.b.pa d1.b.ps.length d1.b.pc, .slice d1.b.qa d1.b.qs.length d1.b.qc, .int .i64 d1.b.cs, .int .i64 d1.b.nx, .slice d1.oa d1.os.length d1.oc]) := OB1.out.below hba
   replace M1 : Hid (EnLq (w12.alloc (.cells #[.slice none 0 0, .slice none 0 0, .slice none 0 0, .int .i64 0, .int .i64 0, .slice none 0 0] 35)) (lo1) (hi1) d1) := M1.out.below hba
   replace BX : Hid (Bx (w12.alloc (.cells #[.slice none 0 0, .slice none 0 0, .slice none 0 0, .int .i64 0, .int .i64 0, .slice none 0 0] 35)) (w4.heap.size) [.slice c2.b.va c2.b.vs.length c2.b.vc, .slice c2.b.pa c2.b.ps.length c2.b.pc, .slice c2.b.qa c2.b.qs.length c2.b.qc, .int .i64 c2.b.cs, .int .i64 c2.b.nx, .slice c2.oa c2.os.length c2.oc]) := BX.out.below hba
   replace OB3 : Hid (Bx (w12.alloc (.cells #[.slice none 0 0, .slice none 0 0, .slice none 0 0, .int .i64 0, .int .i64 0, .slice none 0 0] 35)) (ob3) [.slice d3.b.va d3.b.vs.length d3.b.vc, .slice d3.b.pa d3.b.ps.length d3.b.pc, .slice d3.b.qa d3.b.qs.length d3.b.qc, .int .i64 d3.b.cs, .int .i64 d3.b.nx, .slice d3.oa d3.os.length d3.oc]) := OB3.out.below hba
   replace MM : Hid (EnLq (w12.alloc (.cells #[.slice none 0 0, .slice none 0 0, .slice none 0 0, .int .i64 0, .int .i64 0, .slice none 0 0] 35)) (lo3) (hi3) mm) := MM.out.below hba
   replace HN : Hid (Below (w12.heap.size) w12 (w12.alloc (.cells #[.slice none 0 0, .slice none 0 0, .slice none 0 0, .int .i64 0, .int .i64 0, .slice none 0 0] 35))) := HN.out.trans (hba.mono HN.out.size)
   clear hba
   have BOX : Hid (Bx (w12.alloc (.cells #[.slice none 0 0, .slice none 0 0, .slice none 0 0, .int .i64 0, .int .i64 0, .slice none 0 0] 35)) (w12.heap.size) [.slice none 0 0, .slice none 0 0, .slice none 0 0, .int .i64 0, .int .i64 0, .slice none 0 0]) := Bx.new w12 [.slice none 0 0, .slice none 0 0, .slice none 0 0, .int .i64 0, .int .i64 0, .slice none 0 0] 35
   (try go_wp2_with fail)
   refine hK.out _ _ ⟨BA.out.drew.c0, BA.out.drew.c1, BA.out.drew.c2, BA.out.drew.c3, BA.out.drew.c4, BA.out.drew.c5, BR.out.drew.c0, BR.out.drew.c1, BR.out.drew.c2⟩ (fun hHeldB => ?_)
   clear hK K
   refine wpAnyH_ready (rs := [1]) (by kernel_rfl) (by simp) ?_
   refine AllReadyH.cons rfl (fun K hK => ?_) AllReadyH.nil
   go_simp
   go_wp2_with fail
   refine (toE e HF.out _ AB.out.rows.drewE).mono ?_
   rintro e w13 ⟨c6, rfl, hs, hl, hb13⟩
   have hbu13 := undrew hb13
   have Z13 : Hid (w12.heap.size + 1 ≤ w13.heap.size) := by show _ ≤ _; have h := hbu13.size; simpa using h
   replace BA : Hid (Bx w13 w.heap.size [.slice e.b.va e.b.vs.length e.b.vc, .slice e.b.pa e.b.ps.length e.b.pc, .slice e.b.qa e.b.qs.length e.b.qc, .int .i64 e.b.cs, .int .i64 e.b.nx, .slice e.oa e.os.length e.oc]) := BA.out.below hbu13
   replace BR : Hid (Bx w13 (w.heap.size + 1) [.string x.1, .string x.2.1, .bool x.2.2]) := BR.out.below hbu13
   replace HB : Hid (Below w.heap.size w w13) := HB.out.trans (hbu13.mono HB.out.size)
   replace AB : Hid (EnArg w13 e) := HPe.out.below HB.out
   replace OB1 : Hid (Bx w13 (ob1) [.slice d1.b.va d1.b.vs.length d1.b.vc, .slice d1.b.pa d1.b.ps.length d1.b.pc, .slice d1.b.qa d1.b.qs.length d1.b.qc, .int .i64 d1.b.cs, .int .i64 d1.b.nx, .slice d1.oa d1.os.length d1.oc]) := OB1.out.below hbu13
   replace M1 : Hid (EnLq w13 (lo1) (hi1) d1) := M1.out.below hbu13
   replace BX : Hid (Bx w13 (w4.heap.size) [.slice c2.b.va c2.b.vs.length c2.b.vc, .slice c2.b.pa c2.b.ps.length c2.b.pc, .slice c2.b.qa c2.b.qs.length c2.b.qc, .int .i64 c2.b.cs, .int .i64 c2.b.nx, .slice c2.oa c2.os.length c2.oc]) := BX.out.below hbu13
   replace OB3 : Hid (Bx w13 (ob3) [.slice d3.b.va d3.b.vs.length d3.b.vc, .slice d3.b.pa d3.b.ps.length d3.b.pc, .slice d3.b.qa d3.b.qs.length d3.b.qc, .int .i64 d3.b.cs, .int .i64 d3.b.nx, .slice d3.oa d3.os.length d3.oc]) := OB3.out.below hbu13
   replace MM : Hid (EnLq w13 (lo3) (hi3) mm) := MM.out.below hbu13
   replace HN : Hid (Below (w12.heap.size) w12 w13) := HN.out.trans (hbu13.mono HN.out.size)
   replace BOX : Hid (Bx w13 (w12.heap.size) [.slice none 0 0, .slice none 0 0, .slice none 0 0, .int .i64 0, .int .i64 0, .slice none 0 0]) := BOX.out.below hbu13
   have L6 : Hid (EnLie w13 (w12.heap.size + 1) w13.heap.size c6) := (by show EnLie _ _ _ _; simpa using hl)
   have C6 : Hid (EnSame e c6) := hs
   clear hl hs
   go_wp2_with fail
   refine hK.out _ _ ⟨BA.out.c0, BA.out.c1, BA.out.c2, BA.out.c3, BA.out.c4, BA.out.c5, BR.out.c0, BR.out.c1, BR.out.c2⟩ (fun hHeld13 => ?_)
   clear hK K hb13 hbu13
   refine wpAnyH_ready (rs := [4]) (by kernel_rfl) (by simp) ?_
   refine AllReadyH.cons rfl (fun K hK => ?_) AllReadyH.nil
   go_simp
   go_wp2_with fail
   refine (TW.out _).mono ?_
   rintro e w14 ⟨rfl, hb14⟩
   have Z14 : Hid (w13.heap.size ≤ w14.heap.size) := by show _ ≤ _; have h := hb14.size; simpa using h
   replace BA : Hid (Bx w14 w.heap.size [.slice e.b.va e.b.vs.length e.b.vc, .slice e.b.pa e.b.ps.length e.b.pc, .slice e.b.qa e.b.qs.length e.b.qc, .int .i64 e.b.cs, .int .i64 e.b.nx, .slice e.oa e.os.length e.oc]) := BA.out.below hb14
   replace BR : Hid (Bx w14 (w.heap.size + 1) [.string x.1, .string x.2.1, .bool x.2.2]) := BR.out.below hb14
   replace HB : Hid (Below w.heap.size w w14) := HB.out.trans (hb14.mono HB.out.size)
   replace AB : Hid (EnArg w14 e) := HPe.out.below HB.out
   replace OB1 : Hid (Bx w14 (ob1) [.slice d1.b.va d1.b.vs.length d1.b.vc, .slice d1.b.pa d1.b.ps.length d1.b.pc, .slice d1.b.qa d1.b.qs.length d1.b.qc, .int .i64 d1.b.cs, .int .i64 d1.b.nx, .slice d1.oa d1.os.length d1.oc]) := OB1.out.below hb14
   replace M1 : Hid (EnLq w14 (lo1) (hi1) d1) := M1.out.below hb14
   replace BX : Hid (Bx w14 (w4.heap.size) [.slice c2.b.va c2.b.vs.length c2.b.vc, .slice c2.b.pa c2.b.ps.length c2.b.pc, .slice c2.b.qa c2.b.qs.length c2.b.qc, .int .i64 c2.b.cs, .int .i64 c2.b.nx, .slice c2.oa c2.os.length c2.oc]) := BX.out.below hb14
   replace OB3 : Hid (Bx w14 (ob3) [.slice d3.b.va d3.b.vs.length d3.b.vc, .slice d3.b.pa d3.b.ps.length d3.b.pc, .slice d3.b.qa d3.b.qs.length d3.b.qc, .int .i64 d3.b.cs, .int .i64 d3.b.nx, .slice d3.oa d3.os.length d3.oc]) := OB3.out.below hb14
   replace MM : Hid (EnLq w14 (lo3) (hi3) mm) := MM.out.below hb14
   replace HN : Hid (Below (w12.heap.size) w12 w14) := HN.out.trans (hb14.mono HN.out.size)
   replace BOX : Hid (Bx w14 (w12.heap.size) [.slice none 0 0, .slice none 0 0, .slice none 0 0, .int .i64 0, .int .i64 0, .slice none 0 0]) := BOX.out.below hb14
   replace L6 : Hid (EnLie w14 (w12.heap.size + 1) w13.heap.size c6) := L6.out.below hb14
   go_wp2_with fail
   refine hK.out _ _ ⟨BA.out.c0, BA.out.c1, BA.out.c2, BA.out.c3, BA.out.c4, BA.out.c5, BR.out.c0, BR.out.c1, BR.out.c2⟩ (fun hHeld14 => ?_)
   clear hK K hb14
   refine wpAnyH_ready (rs := [5]) (by kernel_rfl) (by simp) ?_
   refine AllReadyH.cons rfl (fun K hK => ?_) AllReadyH.nil
   go_simp
   go_wp2_with fail
   refine (CI.out c6 _ C6.out L6.out.rows).mono ?_
   rintro e w15 ⟨da4, rfl, hs, hl, hb15⟩
   have Z15 : Hid (w14.heap.size ≤ w15.heap.size) := by show _ ≤ _; have h := hb15.size; simpa using h
   replace BA : Hid (Bx w15 w.heap.size [.slice e.b.va e.b.vs.length e.b.vc, .slice e.b.pa e.b.ps.length e.b.pc, .slice e.b.qa e.b.qs.length e.b.qc, .int .i64 e.b.cs, .int .i64 e.b.nx, .slice e.oa e.os.length e.oc]) := BA.out.below hb15
   replace BR : Hid (Bx w15 (w.heap.size + 1) [.string x.1, .string x.2.1, .bool x.2.2]) := BR.out.below hb15
   replace HB : Hid (Below w.heap.size w w15) := HB.out.trans (hb15.mono HB.out.size)
   replace AB : Hid (EnArg w15 e) := HPe.out.below HB.out
   replace OB1 : Hid (Bx w15 (ob1) [.slice d1.b.va d1.b.vs.length d1.b.vc, .slice d1.b.pa d1.b.ps.length d1.b.pc, .slice d1.b.qa d1.b.qs.length d1.b.qc, .int .i64 d1.b.cs, .int .i64 d1.b.nx, .slice d1.oa d1.os.length d1.oc]) := OB1.out.below hb15
   replace M1 : Hid (EnLq w15 (lo1) (hi1) d1) := M1.out.below hb15
   replace BX : Hid (Bx w15 (w4.heap.size) [.slice c2.b.va c2.b.vs.length c2.b.vc, .slice c2.b.pa c2.b.ps.length c2.b.pc, .slice c2.b.qa c2.b.qs.length c2.b.qc, .int .i64 c2.b.cs, .int .i64 c2.b.nx, .slice c2.oa c2.os.length c2.oc]) := BX.out.below hb15
   replace OB3 : Hid (Bx w15 (ob3) [.slice d3.b.va d3.b.vs.length d3.b.vc, .slice d3.b.pa d3.b.ps.length d3.b.pc, .slice d3.b.qa d3.b.qs.length d3.b.qc, .int .i64 d3.b.cs, .int .i64 d3.b.nx, .slice d3.oa d3.os.length d3.oc]) := OB3.out.below hb15
   replace MM : Hid (EnLq w15 (lo3) (hi3) mm) := MM.out.below hb15
   replace HN : Hid (Below (w12.heap.size) w12 w15) := HN.out.trans (hb15.mono HN.out.size)
   replace BOX : Hid (Bx w15 (w12.heap.size) [.slice none 0 0, .slice none 0 0, .slice none 0 0, .int .i64 0, .int .i64 0, .slice none 0 0]) := BOX.out.below hb15
   replace L6 : Hid (EnLie w15 (w12.heap.size + 1) w13.heap.size c6) := L6.out.below hb15
   have TA : Hid (EnLq w15 (w14.heap.size) w15.heap.size da4) := hl
   have TS : Hid (EnSame DD da4) := hs
   clear hl hs
   go_wp2_with fail
   refine hK.out _ _ ⟨BA.out.c0, BA.out.c1, BA.out.c2, BA.out.c3, BA.out.c4, BA.out.c5, BR.out.c0, BR.out.c1, BR.out.c2⟩ (fun hHeld15 => ?_)
   clear hK K hb15
   (refine tk 6 ?_ rfl (Or.inl ⟨by rfl, ?_⟩) ?_; rotate_left; (focus (intro w h; (try dsimp only at h); go_simp; (try with_reducible rfl))); simp only [Act.put, tA, tB, tC, tD, tE, tF])
   (refine tk 7 ?_ rfl (Or.inl ⟨by rfl, ?_⟩) ?_; rotate_left; (focus (intro w h; (try dsimp only at h); go_simp; (try with_reducible rfl))); simp only [Act.put, tA, tB, tC, tD, tE, tF])
   (refine tk 8 ?_ rfl (Or.inl ⟨by rfl, ?_⟩) ?_; rotate_left; (focus (intro w h; (try dsimp only at h); go_simp; (try with_reducible rfl))); simp only [Act.put, tA, tB, tC, tD, tE, tF])
   have zc0 := BOX.out.c0
   have zc1 := BOX.out.c1
   have zc2 := BOX.out.c2
   have zc3 := BOX.out.c3
   have zc4 := BOX.out.c4
   have zc5 := BOX.out.c5
   have zf := BOX.out.fz
   refine wpAnyH_ready (rs := [10]) (by kernel_rfl) (by simp) ?_
   refine AllReadyH.cons rfl (fun K hK => ?_) AllReadyH.nil
   go_simp
   have hz6 : Zn (w12.heap.size) (w12.heap.size + 1) w15 ((((((w15.setCell ⟨w12.heap.size, 0, none⟩ (.slice da4.b.va da4.b.vs.length da4.b.vc)).setCell ⟨w12.heap.size, 1, none⟩ (.slice da4.b.pa da4.b.ps.length da4.b.pc)).setCell ⟨w12.heap.size, 2, none⟩ (.slice da4.b.qa da4.b.qs.length da4.b.qc)).setCell ⟨w12.heap.size, 3, none⟩ (.int .i64 da4.b.cs)).setCell ⟨w12.heap.size, 4, none⟩ (.int .i64 da4.b.nx)).setCell ⟨w12.heap.size, 5, none⟩ (.slice da4.oa da4.os.length da4.oc)) := zn_s6 w15 (w12.heap.size) (.slice da4.b.va da4.b.vs.length da4.b.vc) (.slice da4.b.pa da4.b.ps.length da4.b.pc) (.slice da4.b.qa da4.b.qs.length da4.b.qc) (.int .i64 da4.b.cs) (.int .i64 da4.b.nx) (.slice da4.oa da4.os.length da4.oc)
   have BAs := hide0 (BA.out.zn hz6 (by have := Z1.out; have := Z2.out; have := Z3.out; have := ZZ1.out; have := Z4.out; have := ZwL.out; have := Z5.out; have := ZZ3.out; have := Z6.out; have := Z7.out; have := Z8.out; have := Z9.out; have := Z10.out; have := Z11.out; have := Z12.out; have := Z13.out; have := Z14.out; have := Z15.out; omega))
   have BRs := hide0 (BR.out.zn hz6 (by have := Z1.out; have := Z2.out; have := Z3.out; have := ZZ1.out; have := Z4.out; have := ZwL.out; have := Z5.out; have := ZZ3.out; have := Z6.out; have := Z7.out; have := Z8.out; have := Z9.out; have := Z10.out; have := Z11.out; have := Z12.out; have := Z13.out; have := Z14.out; have := Z15.out; omega))
   refine hK.out _ _ ⟨BAs.out.c0, BAs.out.c1, BAs.out.c2, BAs.out.c3, BAs.out.c4, BAs.out.c5, BRs.out.c0, BRs.out.c1, BRs.out.c2⟩ (fun hHeldS => ?_)
   clear hK K zc0 zc1 zc2 zc3 zc4 zc5 zf
   (refine tk 11 ?_ rfl (Or.inl ⟨by rfl, ?_⟩) ?_; rotate_left; (focus (intro w h; (try dsimp only at h); go_simp; (try with_reducible rfl))); simp only [Act.put, tA, tB, tC, tD, tE, tF])
   refine wpAnyH_done (by kernel_rfl) ?_ _
   have OB : Hid (Bx ((((((w15.setCell ⟨w12.heap.size, 0, none⟩ (.slice da4.b.va da4.b.vs.length da4.b.vc)).setCell ⟨w12.heap.size, 1, none⟩ (.slice da4.b.pa da4.b.ps.length da4.b.pc)).setCell ⟨w12.heap.size, 2, none⟩ (.slice da4.b.qa da4.b.qs.length da4.b.qc)).setCell ⟨w12.heap.size, 3, none⟩ (.int .i64 da4.b.cs)).setCell ⟨w12.heap.size, 4, none⟩ (.int .i64 da4.b.nx)).setCell ⟨w12.heap.size, 5, none⟩ (.slice da4.oa da4.os.length da4.oc)) (w12.heap.size) [.slice da4.b.va da4.b.vs.length da4.b.vc, .slice da4.b.pa da4.b.ps.length da4.b.pc, .slice da4.b.qa da4.b.qs.length da4.b.qc, .int .i64 da4.b.cs, .int .i64 da4.b.nx, .slice da4.oa da4.os.length da4.oc]) := bx_s6 BOX.out (.slice da4.b.va da4.b.vs.length da4.b.vc) (.slice da4.b.pa da4.b.ps.length da4.b.pc) (.slice da4.b.qa da4.b.qs.length da4.b.qc) (.int .i64 da4.b.cs) (.int .i64 da4.b.nx) (.slice da4.oa da4.os.length da4.oc)
   have TT : Hid (EnLq ((((((w15.setCell ⟨w12.heap.size, 0, none⟩ (.slice da4.b.va da4.b.vs.length da4.b.vc)).setCell ⟨w12.heap.size, 1, none⟩ (.slice da4.b.pa da4.b.ps.length da4.b.pc)).setCell ⟨w12.heap.size, 2, none⟩ (.slice da4.b.qa da4.b.qs.length da4.b.qc)).setCell ⟨w12.heap.size, 3, none⟩ (.int .i64 da4.b.cs)).setCell ⟨w12.heap.size, 4, none⟩ (.int .i64 da4.b.nx)).setCell ⟨w12.heap.size, 5, none⟩ (.slice da4.oa da4.os.length da4.oc)) (w14.heap.size) (w15.heap.size) da4) := TA.out.zn hz6 (by have := Z1.out; have := Z2.out; have := Z3.out; have := ZZ1.out; have := Z4.out; have := ZwL.out; have := Z5.out; have := ZZ3.out; have := Z6.out; have := Z7.out; have := Z8.out; have := Z9.out; have := Z10.out; have := Z11.out; have := Z12.out; have := Z13.out; have := Z14.out; have := Z15.out; omega)
   have NN : Hid (Below (w12.heap.size) w12 ((((((w15.setCell ⟨w12.heap.size, 0, none⟩ (.slice da4.b.va da4.b.vs.length da4.b.vc)).setCell ⟨w12.heap.size, 1, none⟩ (.slice da4.b.pa da4.b.ps.length da4.b.pc)).setCell ⟨w12.heap.size, 2, none⟩ (.slice da4.b.qa da4.b.qs.length da4.b.qc)).setCell ⟨w12.heap.size, 3, none⟩ (.int .i64 da4.b.cs)).setCell ⟨w12.heap.size, 4, none⟩ (.int .i64 da4.b.nx)).setCell ⟨w12.heap.size, 5, none⟩ (.slice da4.oa da4.os.length da4.oc))) := HN.out.trans (hz6.below (by have := Z1.out; have := Z2.out; have := Z3.out; have := ZZ1.out; have := Z4.out; have := ZwL.out; have := Z5.out; have := ZZ3.out; have := Z6.out; have := Z7.out; have := Z8.out; have := Z9.out; have := Z10.out; have := Z11.out; have := Z12.out; have := Z13.out; have := Z14.out; have := Z15.out; omega) (by have := Z1.out; have := Z2.out; have := Z3.out; have := ZZ1.out; have := Z4.out; have := ZwL.out; have := Z5.out; have := ZZ3.out; have := Z6.out; have := Z7.out; have := Z8.out; have := Z9.out; have := Z10.out; have := Z11.out; have := Z12.out; have := Z13.out; have := Z14.out; have := Z15.out; omega))
   have SS : Hid (((((((w15.setCell ⟨w12.heap.size, 0, none⟩ (.slice da4.b.va da4.b.vs.length da4.b.vc)).setCell ⟨w12.heap.size, 1, none⟩ (.slice da4.b.pa da4.b.ps.length da4.b.pc)).setCell ⟨w12.heap.size, 2, none⟩ (.slice da4.b.qa da4.b.qs.length da4.b.qc)).setCell ⟨w12.heap.size, 3, none⟩ (.int .i64 da4.b.cs)).setCell ⟨w12.heap.size, 4, none⟩ (.int .i64 da4.b.nx)).setCell ⟨w12.heap.size, 5, none⟩ (.slice da4.oa da4.os.length da4.oc)).heap.size = w15.heap.size) := by show _ = _; simp [World.setCell]
   clear hz6
   go_wp2_with fail
   go_meet
   exact ⟨w12.heap.size, w14.heap.size, w15.heap.size, da4, rfl, rfl, (by show _ ∧ _; have := Z1.out; have := Z2.out; have := Z3.out; have := ZZ1.out; have := Z4.out; have := ZwL.out; have := Z5.out; have := ZZ3.out; have := Z6.out; have := Z7.out; have := Z8.out; have := Z9.out; have := Z10.out; have := Z11.out; have := Z12.out; have := Z13.out; have := Z14.out; have := Z15.out; have := SS.out; omega), OB, TS, TT, NN⟩
 case rest =>
 obtain ⟨ob4, lo4, hi4, d4, rfl, rfl, ZZ4, OB4, D4, M4, hbn⟩ := hcut
 obtain ⟨w13, rfl⟩ : ∃ x, x = wc := ⟨_, rfl⟩
 have hb13 : Below w12.heap.size w12 w13 := hbn.out
 have Z13 : Hid (w12.heap.size ≤ w13.heap.size) := by show _ ≤ _; have h := hb13.size; simpa using h
 replace BA : Hid (Bx w13 w.heap.size [.slice e.b.va e.b.vs.length e.b.vc, .slice e.b.pa e.b.ps.length e.b.pc, .slice e.b.qa e.b.qs.length e.b.qc, .int .i64 e.b.cs, .int .i64 e.b.nx, .slice e.oa e.os.length e.oc]) := BA.out.below hb13
 replace BR : Hid (Bx w13 (w.heap.size + 1) [.string x.1, .string x.2.1, .bool x.2.2]) := BR.out.below hb13
 replace HB : Hid (Below w.heap.size w w13) := HB.out.trans (hb13.mono HB.out.size)
 replace AB : Hid (EnArg w13 e) := HPe.out.below HB.out
 replace OB1 : Hid (Bx w13 (ob1) [.slice d1.b.va d1.b.vs.length d1.b.vc, .slice d1.b.pa d1.b.ps.length d1.b.pc, .slice d1.b.qa d1.b.qs.length d1.b.qc, .int .i64 d1.b.cs, .int .i64 d1.b.nx, .slice d1.oa d1.os.length d1.oc]) := OB1.out.below hb13
 replace M1 : Hid (EnLq w13 (lo1) (hi1) d1) := M1.out.below hb13
 replace BX : Hid (Bx w13 (w4.heap.size) [.slice c2.b.va c2.b.vs.length c2.b.vc, .slice c2.b.pa c2.b.ps.length c2.b.pc, .slice c2.b.qa c2.b.qs.length c2.b.qc, .int .i64 c2.b.cs, .int .i64 c2.b.nx, .slice c2.oa c2.os.length c2.oc]) := BX.out.below hb13
 replace OB3 : Hid (Bx w13 (ob3) [.slice d3.b.va d3.b.vs.length d3.b.vc, .slice d3.b.pa d3.b.ps.length d3.b.pc, .slice d3.b.qa d3.b.qs.length d3.b.qc, .int .i64 d3.b.cs, .int .i64 d3.b.nx, .slice d3.oa d3.os.length d3.oc]) := OB3.out.below hb13
 replace MM : Hid (EnLq w13 (lo3) (hi3) mm) := MM.out.below hb13
 clear hbn hb13
 have x0 := OB4.out.c0
 have x1 := OB4.out.c1
 have x2 := OB4.out.c2
 have x3 := OB4.out.c3
 have x4 := OB4.out.c4
 have x5 := OB4.out.c5
 have y0 := OB1.out.c0
 have y1 := OB1.out.c1
 have y2 := OB1.out.c2
 have y3 := OB1.out.c3
 have y4 := OB1.out.c4
 have y5 := OB1.out.c5
 go_wp2_with fail
 refine (eqE d4 d1 (D4.out.symm.trans D1.out) (D4.out.fit HFD.out) _ M4.out.rows M1.out.rows).mono ?_
 rintro e w14 ⟨rfl, hb14⟩
 have Z14 : Hid (w13.heap.size ≤ w14.heap.size) := by show _ ≤ _; have h := hb14.size; simpa using h
 replace BA : Hid (Bx w14 w.heap.size [.slice e.b.va e.b.vs.length e.b.vc, .slice e.b.pa e.b.ps.length e.b.pc, .slice e.b.qa e.b.qs.length e.b.qc, .int .i64 e.b.cs, .int .i64 e.b.nx, .slice e.oa e.os.length e.oc]) := BA.out.below hb14
 replace BR : Hid (Bx w14 (w.heap.size + 1) [.string x.1, .string x.2.1, .bool x.2.2]) := BR.out.below hb14
 replace HB : Hid (Below w.heap.size w w14) := HB.out.trans (hb14.mono HB.out.size)
 replace AB : Hid (EnArg w14 e) := HPe.out.below HB.out
 replace OB1 : Hid (Bx w14 (ob1) [.slice d1.b.va d1.b.vs.length d1.b.vc, .slice d1.b.pa d1.b.ps.length d1.b.pc, .slice d1.b.qa d1.b.qs.length d1.b.qc, .int .i64 d1.b.cs, .int .i64 d1.b.nx, .slice d1.oa d1.os.length d1.oc]) := OB1.out.below hb14
 replace M1 : Hid (EnLq w14 (lo1) (hi1) d1) := M1.out.below hb14
 replace BX : Hid (Bx w14 (w4.heap.size) [.slice c2.b.va c2.b.vs.length c2.b.vc, .slice c2.b.pa c2.b.ps.length c2.b.pc, .slice c2.b.qa c2.b.qs.length c2.b.qc, .int .i64 c2.b.cs, .int .i64 c2.b.nx, .slice c2.oa c2.os.length c2.oc]) := BX.out.below hb14
 replace OB3 : Hid (Bx w14 (ob3) [.slice d3.b.va d3.b.vs.length d3.b.vc, .slice d3.b.pa d3.b.ps.length d3.b.pc, .slice d3.b.qa d3.b.qs.length d3.b.qc, .int .i64 d3.b.cs, .int .i64 d3.b.nx, .slice d3.oa d3.os.length d3.oc]) := OB3.out.below hb14
 replace MM : Hid (EnLq w14 (lo3) (hi3) mm) := MM.out.below hb14
 replace OB4 : Hid (Bx w14 (ob4) [.slice d4.b.va d4.b.vs.length d4.b.vc, .slice d4.b.pa d4.b.ps.length d4.b.pc, .slice d4.b.qa d4.b.qs.length d4.b.qc, .int .i64 d4.b.cs, .int .i64 d4.b.nx, .slice d4.oa d4.os.length d4.oc]) := OB4.out.below hb14
 replace M4 : Hid (EnLq w14 (lo4) (hi4) d4) := M4.out.below hb14
 clear hb14 x0 x1 x2 x3 x4 x5 y0 y1 y2 y3 y4 y5
 have x0 := OB3.out.c0
 have x1 := OB3.out.c1
 have x2 := OB3.out.c2
 have x3 := OB3.out.c3
 have x4 := OB3.out.c4
 have x5 := OB3.out.c5
 go_wp2_with fail
 refine (HH.out _ MM.out.rows).mono ?_
 rintro e w15 ⟨rfl, hb15⟩
 have Z15 : Hid (w14.heap.size ≤ w15.heap.size) := by show _ ≤ _; have h := hb15.size; simpa using h
 replace BA : Hid (Bx w15 w.heap.size [.slice e.b.va e.b.vs.length e.b.vc, .slice e.b.pa e.b.ps.length e.b.pc, .slice e.b.qa e.b.qs.length e.b.qc, .int .i64 e.b.cs, .int .i64 e.b.nx, .slice e.oa e.os.length e.oc]) := BA.out.below hb15
 replace BR : Hid (Bx w15 (w.heap.size + 1) [.string x.1, .string x.2.1, .bool x.2.2]) := BR.out.below hb15
 replace HB : Hid (Below w.heap.size w w15) := HB.out.trans (hb15.mono HB.out.size)
 replace AB : Hid (EnArg w15 e) := HPe.out.below HB.out
 replace OB1 : Hid (Bx w15 (ob1) [.slice d1.b.va d1.b.vs.length d1.b.vc, .slice d1.b.pa d1.b.ps.length d1.b.pc, .slice d1.b.qa d1.b.qs.length d1.b.qc, .int .i64 d1.b.cs, .int .i64 d1.b.nx, .slice d1.oa d1.os.length d1.oc]) := OB1.out.below hb15
 replace M1 : Hid (EnLq w15 (lo1) (hi1) d1) := M1.out.below hb15
 replace BX : Hid (Bx w15 (w4.heap.size) [.slice c2.b.va c2.b.vs.length c2.b.vc, .slice c2.b.pa c2.b.ps.length c2.b.pc, .slice c2.b.qa c2.b.qs.length c2.b.qc, .int .i64 c2.b.cs, .int .i64 c2.b.nx, .slice c2.oa c2.os.length c2.oc]) := BX.out.below hb15
 replace OB3 : Hid (Bx w15 (ob3) [.slice d3.b.va d3.b.vs.length d3.b.vc, .slice d3.b.pa d3.b.ps.length d3.b.pc, .slice d3.b.qa d3.b.qs.length d3.b.qc, .int .i64 d3.b.cs, .int .i64 d3.b.nx, .slice d3.oa d3.os.length d3.oc]) := OB3.out.below hb15
 replace MM : Hid (EnLq w15 (lo3) (hi3) mm) := MM.out.below hb15
 replace OB4 : Hid (Bx w15 (ob4) [.slice d4.b.va d4.b.vs.length d4.b.vc, .slice d4.b.pa d4.b.ps.length d4.b.pc, .slice d4.b.qa d4.b.qs.length d4.b.qc, .int .i64 d4.b.cs, .int .i64 d4.b.nx, .slice d4.oa d4.os.length d4.oc]) := OB4.out.below hb15
 replace M4 : Hid (EnLq w15 (lo4) (hi4) d4) := M4.out.below hb15
 clear hb15 x0 x1 x2 x3 x4 x5
 go_wp2
 go_ret
 exact ⟨rfl, HB.out⟩

end Go.Proofs.YtjeicgibddfifaaGreat

/- The law FnExactWriteKey, walked. -/
import Derived.Test.YtblfljmcbpodbaaC4
import Derived.Test.YtblfljmcbpodbaaE4
import Derived.Test.YtblfljmcbpodbaaZn
import Derived.Deep.Cut
import Derived.Deep.CutRange
namespace Go.Proofs.Ytblfljmcbpodbaa
open Go.RowKit
open KM
open VM
attribute [local go_sem ↓] Go.wp_at_zero Go.wp_at_succ

theorem TLie.setz {w : World} {lo hi : Nat} {t : Tx} {ra wa : Option Addr} {rc wc : Nat} (h : TLie w lo hi t ra rc wa wc) {a : Addr} (ha : a.block < lo ∨ hi ≤ a.block) (u : Value) : TLie (w.setCell a u) lo hi t ra rc wa wc := by
  obtain ⟨m, p, q, h1, h2⟩ := h.ex
  exact ⟨m, p, q, h1.setx (fun g hg => by have := h1.lo g hg; omega) u, h2.setx (fun g hg => by have := h2.lo g hg; omega) u⟩
theorem below_s8 {base : Nat} {a w : World} (h : Below base a w) {ob : Nat} (hb : base ≤ ob) (v0 v1 v2 v3 v4 v5 v6 v7 : Value) : Below base a ((((((((w.setCell ⟨ob, 0, none⟩ v0).setCell ⟨ob, 1, none⟩ v1).setCell ⟨ob, 2, none⟩ v2).setCell ⟨ob, 3, none⟩ v3).setCell ⟨ob, 4, none⟩ v4).setCell ⟨ob, 5, none⟩ v5).setCell ⟨ob, 6, none⟩ v6).setCell ⟨ob, 7, none⟩ v7) := ((((((((h.setCell (show base ≤ (⟨ob, 0, none⟩ : Addr).block from hb) v0).setCell (show base ≤ (⟨ob, 1, none⟩ : Addr).block from hb) v1).setCell (show base ≤ (⟨ob, 2, none⟩ : Addr).block from hb) v2).setCell (show base ≤ (⟨ob, 3, none⟩ : Addr).block from hb) v3).setCell (show base ≤ (⟨ob, 4, none⟩ : Addr).block from hb) v4).setCell (show base ≤ (⟨ob, 5, none⟩ : Addr).block from hb) v5).setCell (show base ≤ (⟨ob, 6, none⟩ : Addr).block from hb) v6).setCell (show base ≤ (⟨ob, 7, none⟩ : Addr).block from hb) v7)
theorem TLie.s8 {w : World} {lo hi : Nat} {t : Tx} {ra wa : Option Addr} {rc wc : Nat} (h : TLie w lo hi t ra rc wa wc) {ob : Nat} (hn : ob < lo ∨ hi ≤ ob) (v0 v1 v2 v3 v4 v5 v6 v7 : Value) : TLie ((((((((w.setCell ⟨ob, 0, none⟩ v0).setCell ⟨ob, 1, none⟩ v1).setCell ⟨ob, 2, none⟩ v2).setCell ⟨ob, 3, none⟩ v3).setCell ⟨ob, 4, none⟩ v4).setCell ⟨ob, 5, none⟩ v5).setCell ⟨ob, 6, none⟩ v6).setCell ⟨ob, 7, none⟩ v7) lo hi t ra rc wa wc := ((((((((h.setz (a := ⟨ob, 0, none⟩) hn v0).setz (a := ⟨ob, 1, none⟩) hn v1).setz (a := ⟨ob, 2, none⟩) hn v2).setz (a := ⟨ob, 3, none⟩) hn v3).setz (a := ⟨ob, 4, none⟩) hn v4).setz (a := ⟨ob, 5, none⟩) hn v5).setz (a := ⟨ob, 6, none⟩) hn v6).setz (a := ⟨ob, 7, none⟩) hn v7)
theorem Bx.o8 {w : World} {b : Nat} {cs : List Value} (h : Bx w b cs) {ob : Nat} (hn : ob ≠ b) (v0 v1 v2 v3 v4 v5 v6 v7 : Value) : Bx ((((((((w.setCell ⟨ob, 0, none⟩ v0).setCell ⟨ob, 1, none⟩ v1).setCell ⟨ob, 2, none⟩ v2).setCell ⟨ob, 3, none⟩ v3).setCell ⟨ob, 4, none⟩ v4).setCell ⟨ob, 5, none⟩ v5).setCell ⟨ob, 6, none⟩ v6).setCell ⟨ob, 7, none⟩ v7) b cs := ((((((((h.setO (p := ⟨ob, 0, none⟩) hn v0).setO (p := ⟨ob, 1, none⟩) hn v1).setO (p := ⟨ob, 2, none⟩) hn v2).setO (p := ⟨ob, 3, none⟩) hn v3).setO (p := ⟨ob, 4, none⟩) hn v4).setO (p := ⟨ob, 5, none⟩) hn v5).setO (p := ⟨ob, 6, none⟩) hn v6).setO (p := ⟨ob, 7, none⟩) hn v7)
theorem Bx.s8 {w : World} {ob : Nat} {x0 x1 x2 x3 x4 x5 x6 x7 : Value} (h : Bx w ob [x0, x1, x2, x3, x4, x5, x6, x7]) (v0 v1 v2 v3 v4 v5 v6 v7 : Value) : Bx ((((((((w.setCell ⟨ob, 0, none⟩ v0).setCell ⟨ob, 1, none⟩ v1).setCell ⟨ob, 2, none⟩ v2).setCell ⟨ob, 3, none⟩ v3).setCell ⟨ob, 4, none⟩ v4).setCell ⟨ob, 5, none⟩ v5).setCell ⟨ob, 6, none⟩ v6).setCell ⟨ob, 7, none⟩ v7) ob [v0, v1, v2, v3, v4, v5, v6, v7] := ((((((((h.set 0 v0).set 1 v1).set 2 v2).set 3 v3).set 4 v4).set 5 v5).set 6 v6).set 7 v7)

set_option maxRecDepth 100000 in
set_option maxHeartbeats 8000000 in
theorem law6 (t : Tx) (ra wa : Option Addr) (rc wc : Nat) (f t2 : ByteArray) (gone : Bool) (w : World) (hp : TArg w t ra wa) (hf : f.size ≤ maxLen) (ht : t2.size ≤ maxLen) : Calls Try.prog 6 #[.agg #[.int .i64 t.id, .int .i64 t.st, .int .i64 t.snap, .int .i64 t.cs, .slice ra t.rs.length rc, .slice wa t.ws.length wc, .bool t.out, .string t.nm], .agg #[.string f, .string t2, .bool gone]] w fun e w' => e = .returned (.bool true) ∧ Below w.heap.size w w' := by
  obtain ⟨x, hxx⟩ : ∃ x : Wt, x = (f, t2, gone) := ⟨_, rfl⟩
  have e1 : f = x.1 := by rw [hxx]
  have e2 : t2 = x.2.1 := by rw [hxx]
  have e3 : gone = x.2.2 := by rw [hxx]
  rw [e1] at hf
  rw [e2] at ht
  rw [e1, e2, e3]
  clear e1 e2 e3 hxx
  have HP : Hid (TArg w t ra wa) := hp
  clear hp
  have BA : Hid (Bx ((w.alloc (.cells #[.int .i64 t.id, .int .i64 t.st, .int .i64 t.snap, .int .i64 t.cs, .slice ra t.rs.length rc, .slice wa t.ws.length wc, .bool t.out, .string t.nm] 47)).alloc (.cells #[.string x.1, .string x.2.1, .bool x.2.2] 60)) (w.heap.size) [.int .i64 t.id, .int .i64 t.st, .int .i64 t.snap, .int .i64 t.cs, .slice ra t.rs.length rc, .slice wa t.ws.length wc, .bool t.out, .string t.nm]) := (Bx.new w [.int .i64 t.id, .int .i64 t.st, .int .i64 t.snap, .int .i64 t.cs, .slice ra t.rs.length rc, .slice wa t.ws.length wc, .bool t.out, .string t.nm] 47).alloc _
  have BR : Hid (Bx ((w.alloc (.cells #[.int .i64 t.id, .int .i64 t.st, .int .i64 t.snap, .int .i64 t.cs, .slice ra t.rs.length rc, .slice wa t.ws.length wc, .bool t.out, .string t.nm] 47)).alloc (.cells #[.string x.1, .string x.2.1, .bool x.2.2] 60)) (w.heap.size + 1) [.string x.1, .string x.2.1, .bool x.2.2]) := by
    have h := Bx.new (w.alloc (.cells #[.int .i64 t.id, .int .i64 t.st, .int .i64 t.snap, .int .i64 t.cs, .slice ra t.rs.length rc, .slice wa t.ws.length wc, .bool t.out, .string t.nm] 47)) [.string x.1, .string x.2.1, .bool x.2.2] 60
    rw [World.size_alloc] at h
    exact h
  have HB : Hid (Below w.heap.size w ((w.alloc (.cells #[.int .i64 t.id, .int .i64 t.st, .int .i64 t.snap, .int .i64 t.cs, .slice ra t.rs.length rc, .slice wa t.ws.length wc, .bool t.out, .string t.nm] 47)).alloc (.cells #[.string x.1, .string x.2.1, .bool x.2.2] 60))) := ((belowRefl w).alloc (Nat.le_refl _) _).alloc (by simp) _
  have TR : Hid (TRow ((w.alloc (.cells #[.int .i64 t.id, .int .i64 t.st, .int .i64 t.snap, .int .i64 t.cs, .slice ra t.rs.length rc, .slice wa t.ws.length wc, .bool t.out, .string t.nm] 47)).alloc (.cells #[.string x.1, .string x.2.1, .bool x.2.2] 60)) t ra wa) := HP.out.row.below HB.out
  go_enter Try.func6, Try.ntmps6
  go_wp2_with fail
  refine (szT t ra wa rc wc 1048576 (by omega) (by omega) _ ⟨HP.out.rl, HP.out.rf, HP.out.wl, HP.out.wf, HP.out.nm, TR.out⟩).mono ?_
  rintro e w1 ⟨hb1, r0, rfl, hu0, hr0⟩
  have Z1 : Hid (w.heap.size + 1 + 1 ≤ w1.heap.size) := by show _ ≤ _; have h := hb1.size; simpa using h
  replace BA : Hid (Bx w1 (w.heap.size) [.int .i64 t.id, .int .i64 t.st, .int .i64 t.snap, .int .i64 t.cs, .slice ra t.rs.length rc, .slice wa t.ws.length wc, .bool t.out, .string t.nm]) := BA.out.below hb1
  replace BR : Hid (Bx w1 (w.heap.size + 1) [.string x.1, .string x.2.1, .bool x.2.2]) := BR.out.below hb1
  replace HB : Hid (Below w.heap.size w w1) := HB.out.trans (hb1.mono HB.out.size)
  replace TR : Hid (TRow w1 t ra wa) := HP.out.row.below HB.out
  clear hb1
  by_cases hneg : r0 < 0
  · clear hr0
    go_wp2
    go_ret
    exact ⟨rfl, HB.out⟩
  have hpos : ¬ r0 < 0 := hneg
  have hpos' : 0 ≤ r0 := by omega
  have HF : Hid (TFit t) := hr0 (by omega)
  clear hr0 hneg
  have hrl : t.rs.length ≤ 1048576 := HF.out.1
  have hwl : t.ws.length ≤ 1048576 := HF.out.2.2.1
  have y0 := BR.out.c0
  have y1 := BR.out.c1
  have y2 := BR.out.c2
  go_wp2_with fail
  refine (szw x.1 x.2.1 x.2.2 r0 hpos' hu0 hf ht _).mono ?_
  rintro e w2 ⟨r1, rfl, hr1, hb2⟩
  have Z2 : Hid (w1.heap.size ≤ w2.heap.size) := by show _ ≤ _; have h := hb2.size; simpa using h
  replace BA : Hid (Bx w2 (w.heap.size) [.int .i64 t.id, .int .i64 t.st, .int .i64 t.snap, .int .i64 t.cs, .slice ra t.rs.length rc, .slice wa t.ws.length wc, .bool t.out, .string t.nm]) := BA.out.below hb2
  replace BR : Hid (Bx w2 (w.heap.size + 1) [.string x.1, .string x.2.1, .bool x.2.2]) := BR.out.below hb2
  replace HB : Hid (Below w.heap.size w w2) := HB.out.trans (hb2.mono HB.out.size)
  replace TR : Hid (TRow w2 t ra wa) := HP.out.row.below HB.out
  clear hb2 y0 y1 y2
  by_cases hneg1 : r1 < 0
  · clear hr1
    go_wp2
    go_ret
    exact ⟨rfl, HB.out⟩
  have hpos1 : ¬ r1 < 0 := hneg1
  have HX : Hid (x.1.size ≤ 1048576 ∧ x.2.1.size ≤ 1048576) := by
    show _ ∧ _
    rcases hr1 with h | h <;> omega
  clear hr1 hneg1
  have hcon : ∃ (l : List Wt) (b : Bool), l.length ≤ 2097153 ∧ (∀ pa pc qa qc w, TRow w t pa qa → Calls Try.prog 34 #[.agg #[.int .i64 t.id, .int .i64 t.st, .int .i64 t.snap, .int .i64 t.cs, .slice pa t.rs.length pc, .slice qa t.ws.length qc, .bool t.out, .string t.nm], .agg #[.string x.1, .string x.2.1, .bool x.2.2]] w fun e w' => ∃ ra1 rc1 wa1 wc1, e = .returned (.tuple #[.agg #[.int .i64 t.id, .int .i64 t.st, .int .i64 t.snap, .int .i64 t.cs, .slice ra1 t.rs.length rc1, .slice wa1 l.length wc1, .bool t.out, .string t.nm], .bool b]) ∧ TLie w' w.heap.size w'.heap.size (setW t l) ra1 rc1 wa1 wc1 ∧ Below w.heap.size w w') ∧ (∀ pa pc qa qc lo hi w, TLie w lo hi t pa pc qa qc → Calls Try.prog 32 #[.agg #[.int .i64 t.id, .int .i64 t.st, .int .i64 t.snap, .int .i64 t.cs, .slice pa t.rs.length pc, .slice qa t.ws.length qc, .bool t.out, .string t.nm], .agg #[.string x.1, .string x.2.1, .bool x.2.2]] w fun e w' => ∃ ra1 rc1 wa1 wc1, e = .returned (.tuple #[.agg #[.int .i64 t.id, .int .i64 t.st, .int .i64 t.snap, .int .i64 t.cs, .slice ra1 t.rs.length rc1, .slice wa1 l.length wc1, .bool t.out, .string t.nm], .bool b]) ∧ TLie w' w.heap.size w'.heap.size (setW t l) ra1 rc1 wa1 wc1 ∧ Below w.heap.size w w') := by
    cases hb : wkB t x
    · exact ⟨t.ws, false, by omega, fun pa pc qa qc w h => iwk_no t pa qa pc qc x HF.out HX.out hb w h, fun pa pc qa qc lo hi w h => swk_no t pa qa pc qc x lo hi HF.out HX.out hb w h⟩
    · exact ⟨putS t.ws x, true, by have := len_putS t.ws x; omega, fun pa pc qa qc w h => iwk_yes t pa qa pc qc x HF.out HX.out hb w h, fun pa pc qa qc lo hi w h => swk_ok t pa qa pc qc x lo hi HF.out HX.out hb w h⟩
  obtain ⟨l, b, hll, ci, cs⟩ := hcon
  have CI := hide0 ci
  have CS := hide0 cs
  clear ci cs
  have hbn := bne_self' b
  have TW : Hid (∀ w, Calls Try.prog 33 #[.agg #[.string x.1, .string x.2.1, .bool x.2.2]] w fun e w' => e = .returned (.agg #[.string x.1, .string x.2.1, .bool x.2.2]) ∧ Below w.heap.size w w') := fun w => tow x.1 x.2.1 x.2.2 w
  go_wp2
  go_cut [6, 7] from 26 to 33 (fun p q wx => ∃ (ob lo hi : Nat) (ra1 wa1 : Option Addr) (rc1 wc1 : Nat), p = .pointer (some ⟨ob, 0, none⟩) ∧ q = .bool b ∧ Hid (w2.heap.size ≤ ob ∧ ob < wx.heap.size ∧ w2.heap.size ≤ lo ∧ lo ≤ hi ∧ hi ≤ wx.heap.size ∧ (ob < lo ∨ hi ≤ ob)) ∧ Hid (Bx wx ob [.int .i64 t.id, .int .i64 t.st, .int .i64 t.snap, .int .i64 t.cs, .slice ra1 t.rs.length rc1, .slice wa1 l.length wc1, .bool t.out, .string t.nm]) ∧ Hid (TLie wx lo hi (setW t l) ra1 rc1 wa1 wc1) ∧ Hid (Below (w2.heap.size) w2 wx))
  case first =>
    have HN : Hid (Below (w2.heap.size) w2 w2) := belowRefl w2
    refine wp_region_held_drew (S := fun w' => w'.cell? ⟨w.heap.size, 0, none⟩ = some (.int .i64 t.id) ∧ w'.cell? ⟨w.heap.size, 1, none⟩ = some (.int .i64 t.st) ∧ w'.cell? ⟨w.heap.size, 2, none⟩ = some (.int .i64 t.snap) ∧ w'.cell? ⟨w.heap.size, 3, none⟩ = some (.int .i64 t.cs) ∧ w'.cell? ⟨w.heap.size, 4, none⟩ = some (.slice ra t.rs.length rc) ∧ w'.cell? ⟨w.heap.size, 5, none⟩ = some (.slice wa t.ws.length wc) ∧ w'.cell? ⟨w.heap.size, 6, none⟩ = some (.bool t.out) ∧ w'.cell? ⟨w.heap.size, 7, none⟩ = some (.string t.nm) ∧ w'.cell? ⟨w.heap.size + 1, 0, none⟩ = some (.string x.1) ∧ w'.cell? ⟨w.heap.size + 1, 1, none⟩ = some (.string x.2.1) ∧ w'.cell? ⟨w.heap.size + 1, 2, none⟩ = some (.bool x.2.2)) (by kernel_rfl) ⟨BA.out.c0, BA.out.c1, BA.out.c2, BA.out.c3, BA.out.c4, BA.out.c5, BA.out.c6, BA.out.c7, BR.out.c0, BR.out.c1, BR.out.c2⟩ (fun hHeld => ?_)
    (refine wpAnyH_take (i := 0) (v := ?_) rfl (by kernel_rfl) (by kernel_rfl) (by kernel_rfl) (fun _ _ _ h => h) (Or.inl ⟨by rfl, ?_⟩) (by assumption) ?_; rotate_left; (focus (intro w hSw; (try dsimp only at hSw); go_simp; (try with_reducible rfl); done)); simp only [Act.put, List.getElem_toArray, List.getElem_cons_zero, List.setIfInBounds_toArray, List.set_cons_zero, List.set_cons_succ])
    (refine wpAnyH_take (i := 2) (v := ?_) rfl (by kernel_rfl) (by kernel_rfl) (by kernel_rfl) (fun _ _ _ h => h) (Or.inl ⟨by rfl, ?_⟩) (by assumption) ?_; rotate_left; (focus (intro w hSw; (try dsimp only at hSw); go_simp; (try with_reducible rfl); done)); simp only [Act.put, List.getElem_toArray, List.getElem_cons_zero, List.getElem_cons_succ, List.setIfInBounds_toArray, List.set_cons_zero, List.set_cons_succ])
    refine wpAnyH_ready (rs := [1, 8]) (by kernel_rfl) (by simp) ?_
    refine AllReadyH.cons rfl (fun K hK => ?_) (AllReadyH.cons rfl (fun K hK => ?_) AllReadyH.nil)
    · go_simp
      go_wp2_with fail
      refine (toT t ra wa rc wc (by omega) (by omega) _ TR.out.drewT).mono ?_
      rintro e w3 ⟨pa1, pc1, qa1, qc1, rfl, hl, hb3⟩
      have hbu3 := undrew hb3
      have Z3 : Hid (w2.heap.size ≤ w3.heap.size) := by show _ ≤ _; have h := hbu3.size; simpa using h
      replace BA : Hid (Bx w3 (w.heap.size) [.int .i64 t.id, .int .i64 t.st, .int .i64 t.snap, .int .i64 t.cs, .slice ra t.rs.length rc, .slice wa t.ws.length wc, .bool t.out, .string t.nm]) := BA.out.below hbu3
      replace BR : Hid (Bx w3 (w.heap.size + 1) [.string x.1, .string x.2.1, .bool x.2.2]) := BR.out.below hbu3
      replace HB : Hid (Below w.heap.size w w3) := HB.out.trans (hbu3.mono HB.out.size)
      replace TR : Hid (TRow w3 t ra wa) := HP.out.row.below HB.out
      replace HN : Hid (Below (w2.heap.size) w2 w3) := HN.out.trans (hbu3.mono HN.out.size)
      have T1 : Hid (TLie w3 (w2.heap.size) w3.heap.size t pa1 pc1 qa1 qc1) := hl
      clear hl
      go_wp2_with fail
      refine hK.out _ _ ⟨BA.out.c0, BA.out.c1, BA.out.c2, BA.out.c3, BA.out.c4, BA.out.c5, BA.out.c6, BA.out.c7, BR.out.c0, BR.out.c1, BR.out.c2⟩ (fun hHeld3 => ?_)
      clear hK K hb3 hbu3
      refine wpAnyH_ready (rs := [3, 8]) (by kernel_rfl) (by simp) ?_
      refine AllReadyH.cons rfl (fun K hK => ?_) (AllReadyH.cons rfl (fun K hK => ?_) AllReadyH.nil)
      · go_simp
        go_wp2_with fail
        refine (TW.out _).mono ?_
        rintro e w4 ⟨rfl, hb4⟩
        have Z4 : Hid (w3.heap.size ≤ w4.heap.size) := by show _ ≤ _; have h := hb4.size; simpa using h
        replace BA : Hid (Bx w4 (w.heap.size) [.int .i64 t.id, .int .i64 t.st, .int .i64 t.snap, .int .i64 t.cs, .slice ra t.rs.length rc, .slice wa t.ws.length wc, .bool t.out, .string t.nm]) := BA.out.below hb4
        replace BR : Hid (Bx w4 (w.heap.size + 1) [.string x.1, .string x.2.1, .bool x.2.2]) := BR.out.below hb4
        replace HB : Hid (Below w.heap.size w w4) := HB.out.trans (hb4.mono HB.out.size)
        replace TR : Hid (TRow w4 t ra wa) := HP.out.row.below HB.out
        replace HN : Hid (Below (w2.heap.size) w2 w4) := HN.out.trans (hb4.mono HN.out.size)
        replace T1 : Hid (TLie w4 (w2.heap.size) w3.heap.size t pa1 pc1 qa1 qc1) := T1.out.below hb4
        go_wp2_with fail
        refine hK.out _ _ ⟨BA.out.c0, BA.out.c1, BA.out.c2, BA.out.c3, BA.out.c4, BA.out.c5, BA.out.c6, BA.out.c7, BR.out.c0, BR.out.c1, BR.out.c2⟩ (fun hHeld4 => ?_)
        clear hK K hb4
        refine wpAnyH_ready (rs := [4, 8]) (by kernel_rfl) (by simp) ?_
        refine AllReadyH.cons rfl (fun K hK => ?_) (AllReadyH.cons rfl (fun K hK => ?_) AllReadyH.nil)
        · go_simp
          go_wp2_with fail
          refine (CS.out pa1 pc1 qa1 qc1 _ _ _ T1.out).mono ?_
          rintro e w5 ⟨ra1, rc1, wa1, wc1, rfl, hl, hb5⟩
          have Z5 : Hid (w4.heap.size ≤ w5.heap.size) := by show _ ≤ _; have h := hb5.size; simpa using h
          replace BA : Hid (Bx w5 (w.heap.size) [.int .i64 t.id, .int .i64 t.st, .int .i64 t.snap, .int .i64 t.cs, .slice ra t.rs.length rc, .slice wa t.ws.length wc, .bool t.out, .string t.nm]) := BA.out.below hb5
          replace BR : Hid (Bx w5 (w.heap.size + 1) [.string x.1, .string x.2.1, .bool x.2.2]) := BR.out.below hb5
          replace HB : Hid (Below w.heap.size w w5) := HB.out.trans (hb5.mono HB.out.size)
          replace TR : Hid (TRow w5 t ra wa) := HP.out.row.below HB.out
          replace HN : Hid (Below (w2.heap.size) w2 w5) := HN.out.trans (hb5.mono HN.out.size)
          replace T1 : Hid (TLie w5 (w2.heap.size) w3.heap.size t pa1 pc1 qa1 qc1) := T1.out.below hb5
          have TA : Hid (TLie w5 (w4.heap.size) w5.heap.size (setW t l) ra1 rc1 wa1 wc1) := hl
          clear hl
          go_wp2_with fail
          refine hK.out _ _ ⟨BA.out.c0, BA.out.c1, BA.out.c2, BA.out.c3, BA.out.c4, BA.out.c5, BA.out.c6, BA.out.c7, BR.out.c0, BR.out.c1, BR.out.c2⟩ (fun hHeld5 => ?_)
          clear hK K hb5
          (refine wpAnyH_take (i := 5) (v := ?_) rfl (by kernel_rfl) (by kernel_rfl) (by kernel_rfl) (fun _ _ _ h => h) (Or.inl ⟨by rfl, ?_⟩) (by assumption) ?_; rotate_left; (focus (intro w hSw; (try dsimp only at hSw); go_simp; (try with_reducible rfl); done)); simp only [Act.put, List.getElem_toArray, List.getElem_cons_zero, List.getElem_cons_succ, List.setIfInBounds_toArray, List.set_cons_zero, List.set_cons_succ])
          (refine wpAnyH_take (i := 6) (v := ?_) rfl (by kernel_rfl) (by kernel_rfl) (by kernel_rfl) (fun _ _ _ h => h) (Or.inl ⟨by rfl, ?_⟩) (by assumption) ?_; rotate_left; (focus (intro w hSw; (try dsimp only at hSw); go_simp; (try with_reducible rfl); done)); simp only [Act.put, List.getElem_toArray, List.getElem_cons_zero, List.getElem_cons_succ, List.setIfInBounds_toArray, List.set_cons_zero, List.set_cons_succ])
          (refine wpAnyH_take (i := 7) (v := ?_) rfl (by kernel_rfl) (by kernel_rfl) (by kernel_rfl) (fun _ _ _ h => h) (Or.inl ⟨by rfl, ?_⟩) (by assumption) ?_; rotate_left; (focus (intro w hSw; (try dsimp only at hSw); go_simp; (try with_reducible rfl); done)); simp only [Act.put, List.getElem_toArray, List.getElem_cons_zero, List.getElem_cons_succ, List.setIfInBounds_toArray, List.set_cons_zero, List.set_cons_succ])
          refine wpAnyH_ready (rs := [8]) (by kernel_rfl) (by simp) ?_
          refine AllReadyH.cons rfl (fun K hK => ?_) AllReadyH.nil
          go_simp
          have BAq := BA
          have BRq := BR
          have TAq := TA
          have HNq := HN
          have hba : Below w5.heap.size w5 (w5.alloc (.cells #[.int .i64 0, .int .i64 0, .int .i64 0, .int .i64 0, .slice none 0 0, .slice none 0 0, .bool false, .string ⟨#[]⟩] 27)) := (belowRefl _).alloc (Nat.le_refl _) _
          replace BA : Hid (Bx (w5.alloc (.cells #[.int .i64 0, .int .i64 0, .int .i64 0, .int .i64 0, .slice none 0 0, .slice none 0 0, .bool false, .string ⟨#[]⟩] 27)) (w.heap.size) [.int .i64 t.id, .int .i64 t.st, .int .i64 t.snap, .int .i64 t.cs, .slice ra t.rs.length rc, .slice wa t.ws.length wc, .bool t.out, .string t.nm]) := BA.out.below hba
          replace BR : Hid (Bx (w5.alloc (.cells #[.int .i64 0, .int .i64 0, .int .i64 0, .int .i64 0, .slice none 0 0, .slice none 0 0, .bool false, .string ⟨#[]⟩] 27)) (w.heap.size + 1) [.string x.1, .string x.2.1, .bool x.2.2]) := BR.out.below hba
          replace HB : Hid (Below w.heap.size w (w5.alloc (.cells #[.int .i64 0, .int .i64 0, .int .i64 0, .int .i64 0, .slice none 0 0, .slice none 0 0, .bool false, .string ⟨#[]⟩] 27))) := HB.out.trans (hba.mono HB.out.size)
          replace TR : Hid (TRow (w5.alloc (.cells #[.int .i64 0, .int .i64 0, .int .i64 0, .int .i64 0, .slice none 0 0, .slice none 0 0, .bool false, .string ⟨#[]⟩] 27)) t ra wa) := HP.out.row.below HB.out
          replace HN : Hid (Below (w2.heap.size) w2 (w5.alloc (.cells #[.int .i64 0, .int .i64 0, .int .i64 0, .int .i64 0, .slice none 0 0, .slice none 0 0, .bool false, .string ⟨#[]⟩] 27))) := HN.out.trans (hba.mono HN.out.size)
          replace T1 : Hid (TLie (w5.alloc (.cells #[.int .i64 0, .int .i64 0, .int .i64 0, .int .i64 0, .slice none 0 0, .slice none 0 0, .bool false, .string ⟨#[]⟩] 27)) (w2.heap.size) w3.heap.size t pa1 pc1 qa1 qc1) := T1.out.below hba
          replace TA : Hid (TLie (w5.alloc (.cells #[.int .i64 0, .int .i64 0, .int .i64 0, .int .i64 0, .slice none 0 0, .slice none 0 0, .bool false, .string ⟨#[]⟩] 27)) (w4.heap.size) w5.heap.size (setW t l) ra1 rc1 wa1 wc1) := TA.out.below hba
          clear hba
          have BOX : Hid (Bx (w5.alloc (.cells #[.int .i64 0, .int .i64 0, .int .i64 0, .int .i64 0, .slice none 0 0, .slice none 0 0, .bool false, .string ⟨#[]⟩] 27)) (w5.heap.size) [.int .i64 0, .int .i64 0, .int .i64 0, .int .i64 0, .slice none 0 0, .slice none 0 0, .bool false, .string ⟨#[]⟩]) := Bx.new w5 [.int .i64 0, .int .i64 0, .int .i64 0, .int .i64 0, .slice none 0 0, .slice none 0 0, .bool false, .string ⟨#[]⟩] 27
          (try go_wp2_with fail)
          refine hK.out _ _ ⟨BA.out.c0, BA.out.c1, BA.out.c2, BA.out.c3, BA.out.c4, BA.out.c5, BA.out.c6, BA.out.c7, BR.out.c0, BR.out.c1, BR.out.c2⟩ (fun hHeldB => ?_)
          clear hK K
          refine wpAnyH_ready (rs := [9]) (by kernel_rfl) (by simp) ?_
          refine AllReadyH.cons rfl (fun K hK => ?_) AllReadyH.nil
          go_simp
          have hbn : Below w5.heap.size w5 (w5.alloc (.cells #[.int .i64 t.id, .int .i64 t.st, .int .i64 t.snap, .int .i64 t.cs, .slice ra1 t.rs.length rc1, .slice wa1 l.length wc1, .bool t.out, .string t.nm] 27)) := (belowRefl _).alloc (Nat.le_refl _) _
          have BAs := hide0 (BAq.out.below hbn)
          have BRs := hide0 (BRq.out.below hbn)
          refine hK.out _ _ ⟨BAs.out.c0, BAs.out.c1, BAs.out.c2, BAs.out.c3, BAs.out.c4, BAs.out.c5, BAs.out.c6, BAs.out.c7, BRs.out.c0, BRs.out.c1, BRs.out.c2⟩ (fun hHeldS => ?_)
          clear hK K
          (refine wpAnyH_take (i := 10) (v := ?_) rfl (by kernel_rfl) (by kernel_rfl) (by kernel_rfl) (fun _ _ _ h => h) (Or.inl ⟨by rfl, ?_⟩) (by assumption) ?_; rotate_left; (focus (intro w hSw; (try dsimp only at hSw); go_simp; (try with_reducible rfl); done)); simp only [Act.put, List.getElem_toArray, List.getElem_cons_zero, List.getElem_cons_succ, List.setIfInBounds_toArray, List.set_cons_zero, List.set_cons_succ])
          refine wpAnyH_done (by kernel_rfl) ?_ _
          have OB : Hid (Bx (w5.alloc (.cells #[.int .i64 t.id, .int .i64 t.st, .int .i64 t.snap, .int .i64 t.cs, .slice ra1 t.rs.length rc1, .slice wa1 l.length wc1, .bool t.out, .string t.nm] 27)) (w5.heap.size) [.int .i64 t.id, .int .i64 t.st, .int .i64 t.snap, .int .i64 t.cs, .slice ra1 t.rs.length rc1, .slice wa1 l.length wc1, .bool t.out, .string t.nm]) := Bx.new w5 [.int .i64 t.id, .int .i64 t.st, .int .i64 t.snap, .int .i64 t.cs, .slice ra1 t.rs.length rc1, .slice wa1 l.length wc1, .bool t.out, .string t.nm] 27
          have TT : Hid (TLie (w5.alloc (.cells #[.int .i64 t.id, .int .i64 t.st, .int .i64 t.snap, .int .i64 t.cs, .slice ra1 t.rs.length rc1, .slice wa1 l.length wc1, .bool t.out, .string t.nm] 27)) (w4.heap.size) (w5.heap.size) (setW t l) ra1 rc1 wa1 wc1) := TAq.out.below hbn
          have NN : Hid (Below (w2.heap.size) w2 (w5.alloc (.cells #[.int .i64 t.id, .int .i64 t.st, .int .i64 t.snap, .int .i64 t.cs, .slice ra1 t.rs.length rc1, .slice wa1 l.length wc1, .bool t.out, .string t.nm] 27))) := HNq.out.trans (hbn.mono HNq.out.size)
          have SS : Hid ((w5.alloc (.cells #[.int .i64 t.id, .int .i64 t.st, .int .i64 t.snap, .int .i64 t.cs, .slice ra1 t.rs.length rc1, .slice wa1 l.length wc1, .bool t.out, .string t.nm] 27)).heap.size = w5.heap.size + 1) := World.size_alloc _ _
          clear hbn
          go_wp2_with fail
          go_meet
          exact ⟨w5.heap.size, w4.heap.size, w5.heap.size, ra1, wa1, rc1, wc1, rfl, rfl, (by show _ ∧ _; have := Z1.out; have := Z2.out; have := Z3.out; have := Z4.out; have := Z5.out; have := SS.out; omega), OB, TT, NN⟩
        · go_simp
          have hba : Below w4.heap.size w4 (w4.alloc (.cells #[.int .i64 0, .int .i64 0, .int .i64 0, .int .i64 0, .slice none 0 0, .slice none 0 0, .bool false, .string ⟨#[]⟩] 27)) := (belowRefl _).alloc (Nat.le_refl _) _
          replace BA : Hid (Bx (w4.alloc (.cells #[.int .i64 0, .int .i64 0, .int .i64 0, .int .i64 0, .slice none 0 0, .slice none 0 0, .bool false, .string ⟨#[]⟩] 27)) (w.heap.size) [.int .i64 t.id, .int .i64 t.st, .int .i64 t.snap, .int .i64 t.cs, .slice ra t.rs.length rc, .slice wa t.ws.length wc, .bool t.out, .string t.nm]) := BA.out.below hba
          replace BR : Hid (Bx (w4.alloc (.cells #[.int .i64 0, .int .i64 0, .int .i64 0, .int .i64 0, .slice none 0 0, .slice none 0 0, .bool false, .string ⟨#[]⟩] 27)) (w.heap.size + 1) [.string x.1, .string x.2.1, .bool x.2.2]) := BR.out.below hba
          replace HB : Hid (Below w.heap.size w (w4.alloc (.cells #[.int .i64 0, .int .i64 0, .int .i64 0, .int .i64 0, .slice none 0 0, .slice none 0 0, .bool false, .string ⟨#[]⟩] 27))) := HB.out.trans (hba.mono HB.out.size)
          replace TR : Hid (TRow (w4.alloc (.cells #[.int .i64 0, .int .i64 0, .int .i64 0, .int .i64 0, .slice none 0 0, .slice none 0 0, .bool false, .string ⟨#[]⟩] 27)) t ra wa) := HP.out.row.below HB.out
          replace HN : Hid (Below (w2.heap.size) w2 (w4.alloc (.cells #[.int .i64 0, .int .i64 0, .int .i64 0, .int .i64 0, .slice none 0 0, .slice none 0 0, .bool false, .string ⟨#[]⟩] 27))) := HN.out.trans (hba.mono HN.out.size)
          replace T1 : Hid (TLie (w4.alloc (.cells #[.int .i64 0, .int .i64 0, .int .i64 0, .int .i64 0, .slice none 0 0, .slice none 0 0, .bool false, .string ⟨#[]⟩] 27)) (w2.heap.size) w3.heap.size t pa1 pc1 qa1 qc1) := T1.out.below hba
          clear hba
          have BOX : Hid (Bx (w4.alloc (.cells #[.int .i64 0, .int .i64 0, .int .i64 0, .int .i64 0, .slice none 0 0, .slice none 0 0, .bool false, .string ⟨#[]⟩] 27)) (w4.heap.size) [.int .i64 0, .int .i64 0, .int .i64 0, .int .i64 0, .slice none 0 0, .slice none 0 0, .bool false, .string ⟨#[]⟩]) := Bx.new w4 [.int .i64 0, .int .i64 0, .int .i64 0, .int .i64 0, .slice none 0 0, .slice none 0 0, .bool false, .string ⟨#[]⟩] 27
          (try go_wp2_with fail)
          refine hK.out _ _ ⟨BA.out.c0, BA.out.c1, BA.out.c2, BA.out.c3, BA.out.c4, BA.out.c5, BA.out.c6, BA.out.c7, BR.out.c0, BR.out.c1, BR.out.c2⟩ (fun hHeldB => ?_)
          clear hK K
          refine wpAnyH_ready (rs := [4]) (by kernel_rfl) (by simp) ?_
          refine AllReadyH.cons rfl (fun K hK => ?_) AllReadyH.nil
          go_simp
          go_wp2_with fail
          refine (CS.out pa1 pc1 qa1 qc1 _ _ _ T1.out).mono ?_
          rintro e w5 ⟨ra1, rc1, wa1, wc1, rfl, hl, hb5⟩
          have Z5 : Hid (w4.heap.size + 1 ≤ w5.heap.size) := by show _ ≤ _; have h := hb5.size; simpa using h
          replace BA : Hid (Bx w5 (w.heap.size) [.int .i64 t.id, .int .i64 t.st, .int .i64 t.snap, .int .i64 t.cs, .slice ra t.rs.length rc, .slice wa t.ws.length wc, .bool t.out, .string t.nm]) := BA.out.below hb5
          replace BR : Hid (Bx w5 (w.heap.size + 1) [.string x.1, .string x.2.1, .bool x.2.2]) := BR.out.below hb5
          replace HB : Hid (Below w.heap.size w w5) := HB.out.trans (hb5.mono HB.out.size)
          replace TR : Hid (TRow w5 t ra wa) := HP.out.row.below HB.out
          replace HN : Hid (Below (w2.heap.size) w2 w5) := HN.out.trans (hb5.mono HN.out.size)
          replace T1 : Hid (TLie w5 (w2.heap.size) w3.heap.size t pa1 pc1 qa1 qc1) := T1.out.below hb5
          replace BOX : Hid (Bx w5 (w4.heap.size) [.int .i64 0, .int .i64 0, .int .i64 0, .int .i64 0, .slice none 0 0, .slice none 0 0, .bool false, .string ⟨#[]⟩]) := BOX.out.below hb5
          have TA : Hid (TLie w5 (w4.heap.size + 1) w5.heap.size (setW t l) ra1 rc1 wa1 wc1) := (by show TLie _ _ _ _ _ _ _ _; simpa using hl)
          clear hl
          go_wp2_with fail
          refine hK.out _ _ ⟨BA.out.c0, BA.out.c1, BA.out.c2, BA.out.c3, BA.out.c4, BA.out.c5, BA.out.c6, BA.out.c7, BR.out.c0, BR.out.c1, BR.out.c2⟩ (fun hHeld5 => ?_)
          clear hK K hb5
          (refine wpAnyH_take (i := 5) (v := ?_) rfl (by kernel_rfl) (by kernel_rfl) (by kernel_rfl) (fun _ _ _ h => h) (Or.inl ⟨by rfl, ?_⟩) (by assumption) ?_; rotate_left; (focus (intro w hSw; (try dsimp only at hSw); go_simp; (try with_reducible rfl); done)); simp only [Act.put, List.getElem_toArray, List.getElem_cons_zero, List.getElem_cons_succ, List.setIfInBounds_toArray, List.set_cons_zero, List.set_cons_succ])
          (refine wpAnyH_take (i := 6) (v := ?_) rfl (by kernel_rfl) (by kernel_rfl) (by kernel_rfl) (fun _ _ _ h => h) (Or.inl ⟨by rfl, ?_⟩) (by assumption) ?_; rotate_left; (focus (intro w hSw; (try dsimp only at hSw); go_simp; (try with_reducible rfl); done)); simp only [Act.put, List.getElem_toArray, List.getElem_cons_zero, List.getElem_cons_succ, List.setIfInBounds_toArray, List.set_cons_zero, List.set_cons_succ])
          (refine wpAnyH_take (i := 7) (v := ?_) rfl (by kernel_rfl) (by kernel_rfl) (by kernel_rfl) (fun _ _ _ h => h) (Or.inl ⟨by rfl, ?_⟩) (by assumption) ?_; rotate_left; (focus (intro w hSw; (try dsimp only at hSw); go_simp; (try with_reducible rfl); done)); simp only [Act.put, List.getElem_toArray, List.getElem_cons_zero, List.getElem_cons_succ, List.setIfInBounds_toArray, List.set_cons_zero, List.set_cons_succ])
          have zc0 := BOX.out.c0
          have zc1 := BOX.out.c1
          have zc2 := BOX.out.c2
          have zc3 := BOX.out.c3
          have zc4 := BOX.out.c4
          have zc5 := BOX.out.c5
          have zc6 := BOX.out.c6
          have zc7 := BOX.out.c7
          have zf := BOX.out.fz
          refine wpAnyH_ready (rs := [9]) (by kernel_rfl) (by simp) ?_
          refine AllReadyH.cons rfl (fun K hK => ?_) AllReadyH.nil
          go_simp
          have hneBA : w4.heap.size ≠ w.heap.size := by have := Z1.out; have := Z2.out; have := Z3.out; have := Z4.out; have := Z5.out; omega
          have BAs := hide0 (BA.out.o8 hneBA (.int .i64 t.id) (.int .i64 t.st) (.int .i64 t.snap) (.int .i64 t.cs) (.slice ra1 t.rs.length rc1) (.slice wa1 l.length wc1) (.bool t.out) (.string t.nm))
          have hneBR : w4.heap.size ≠ w.heap.size + 1 := by have := Z1.out; have := Z2.out; have := Z3.out; have := Z4.out; have := Z5.out; omega
          have BRs := hide0 (BR.out.o8 hneBR (.int .i64 t.id) (.int .i64 t.st) (.int .i64 t.snap) (.int .i64 t.cs) (.slice ra1 t.rs.length rc1) (.slice wa1 l.length wc1) (.bool t.out) (.string t.nm))
          refine hK.out _ _ ⟨BAs.out.c0, BAs.out.c1, BAs.out.c2, BAs.out.c3, BAs.out.c4, BAs.out.c5, BAs.out.c6, BAs.out.c7, BRs.out.c0, BRs.out.c1, BRs.out.c2⟩ (fun hHeldS => ?_)
          clear hK K zc0 zc1 zc2 zc3 zc4 zc5 zc6 zc7 zf
          (refine wpAnyH_take (i := 10) (v := ?_) rfl (by kernel_rfl) (by kernel_rfl) (by kernel_rfl) (fun _ _ _ h => h) (Or.inl ⟨by rfl, ?_⟩) (by assumption) ?_; rotate_left; (focus (intro w hSw; (try dsimp only at hSw); go_simp; (try with_reducible rfl); done)); simp only [Act.put, List.getElem_toArray, List.getElem_cons_zero, List.getElem_cons_succ, List.setIfInBounds_toArray, List.set_cons_zero, List.set_cons_succ])
          refine wpAnyH_done (by kernel_rfl) ?_ _
          have OB : Hid (Bx ((((((((w5.setCell ⟨w4.heap.size, 0, none⟩ (.int .i64 t.id)).setCell ⟨w4.heap.size, 1, none⟩ (.int .i64 t.st)).setCell ⟨w4.heap.size, 2, none⟩ (.int .i64 t.snap)).setCell ⟨w4.heap.size, 3, none⟩ (.int .i64 t.cs)).setCell ⟨w4.heap.size, 4, none⟩ (.slice ra1 t.rs.length rc1)).setCell ⟨w4.heap.size, 5, none⟩ (.slice wa1 l.length wc1)).setCell ⟨w4.heap.size, 6, none⟩ (.bool t.out)).setCell ⟨w4.heap.size, 7, none⟩ (.string t.nm)) (w4.heap.size) [.int .i64 t.id, .int .i64 t.st, .int .i64 t.snap, .int .i64 t.cs, .slice ra1 t.rs.length rc1, .slice wa1 l.length wc1, .bool t.out, .string t.nm]) := BOX.out.s8 (.int .i64 t.id) (.int .i64 t.st) (.int .i64 t.snap) (.int .i64 t.cs) (.slice ra1 t.rs.length rc1) (.slice wa1 l.length wc1) (.bool t.out) (.string t.nm)
          have hnz : w4.heap.size < w4.heap.size + 1 ∨ w5.heap.size ≤ w4.heap.size := by have := Z1.out; have := Z2.out; have := Z3.out; have := Z4.out; have := Z5.out; omega
          have TT : Hid (TLie ((((((((w5.setCell ⟨w4.heap.size, 0, none⟩ (.int .i64 t.id)).setCell ⟨w4.heap.size, 1, none⟩ (.int .i64 t.st)).setCell ⟨w4.heap.size, 2, none⟩ (.int .i64 t.snap)).setCell ⟨w4.heap.size, 3, none⟩ (.int .i64 t.cs)).setCell ⟨w4.heap.size, 4, none⟩ (.slice ra1 t.rs.length rc1)).setCell ⟨w4.heap.size, 5, none⟩ (.slice wa1 l.length wc1)).setCell ⟨w4.heap.size, 6, none⟩ (.bool t.out)).setCell ⟨w4.heap.size, 7, none⟩ (.string t.nm)) (w4.heap.size + 1) (w5.heap.size) (setW t l) ra1 rc1 wa1 wc1) := TA.out.s8 hnz (.int .i64 t.id) (.int .i64 t.st) (.int .i64 t.snap) (.int .i64 t.cs) (.slice ra1 t.rs.length rc1) (.slice wa1 l.length wc1) (.bool t.out) (.string t.nm)
          have hno : w2.heap.size ≤ w4.heap.size := by have := Z1.out; have := Z2.out; have := Z3.out; have := Z4.out; have := Z5.out; omega
          have NN : Hid (Below (w2.heap.size) w2 ((((((((w5.setCell ⟨w4.heap.size, 0, none⟩ (.int .i64 t.id)).setCell ⟨w4.heap.size, 1, none⟩ (.int .i64 t.st)).setCell ⟨w4.heap.size, 2, none⟩ (.int .i64 t.snap)).setCell ⟨w4.heap.size, 3, none⟩ (.int .i64 t.cs)).setCell ⟨w4.heap.size, 4, none⟩ (.slice ra1 t.rs.length rc1)).setCell ⟨w4.heap.size, 5, none⟩ (.slice wa1 l.length wc1)).setCell ⟨w4.heap.size, 6, none⟩ (.bool t.out)).setCell ⟨w4.heap.size, 7, none⟩ (.string t.nm))) := below_s8 HN.out hno (.int .i64 t.id) (.int .i64 t.st) (.int .i64 t.snap) (.int .i64 t.cs) (.slice ra1 t.rs.length rc1) (.slice wa1 l.length wc1) (.bool t.out) (.string t.nm)
          have SS : Hid (((((((((w5.setCell ⟨w4.heap.size, 0, none⟩ (.int .i64 t.id)).setCell ⟨w4.heap.size, 1, none⟩ (.int .i64 t.st)).setCell ⟨w4.heap.size, 2, none⟩ (.int .i64 t.snap)).setCell ⟨w4.heap.size, 3, none⟩ (.int .i64 t.cs)).setCell ⟨w4.heap.size, 4, none⟩ (.slice ra1 t.rs.length rc1)).setCell ⟨w4.heap.size, 5, none⟩ (.slice wa1 l.length wc1)).setCell ⟨w4.heap.size, 6, none⟩ (.bool t.out)).setCell ⟨w4.heap.size, 7, none⟩ (.string t.nm)).heap.size = w5.heap.size) := by show _ = _; simp [World.setCell]
          go_wp2_with fail
          go_meet
          exact ⟨w4.heap.size, w4.heap.size + 1, w5.heap.size, ra1, wa1, rc1, wc1, rfl, rfl, (by show _ ∧ _; have := Z1.out; have := Z2.out; have := Z3.out; have := Z4.out; have := Z5.out; have := SS.out; omega), OB, TT, NN⟩
      · go_simp
        have hba : Below w3.heap.size w3 (w3.alloc (.cells #[.int .i64 0, .int .i64 0, .int .i64 0, .int .i64 0, .slice none 0 0, .slice none 0 0, .bool false, .string ⟨#[]⟩] 27)) := (belowRefl _).alloc (Nat.le_refl _) _
        replace BA : Hid (Bx (w3.alloc (.cells #[.int .i64 0, .int .i64 0, .int .i64 0, .int .i64 0, .slice none 0 0, .slice none 0 0, .bool false, .string ⟨#[]⟩] 27)) (w.heap.size) [.int .i64 t.id, .int .i64 t.st, .int .i64 t.snap, .int .i64 t.cs, .slice ra t.rs.length rc, .slice wa t.ws.length wc, .bool t.out, .string t.nm]) := BA.out.below hba
        replace BR : Hid (Bx (w3.alloc (.cells #[.int .i64 0, .int .i64 0, .int .i64 0, .int .i64 0, .slice none 0 0, .slice none 0 0, .bool false, .string ⟨#[]⟩] 27)) (w.heap.size + 1) [.string x.1, .string x.2.1, .bool x.2.2]) := BR.out.below hba
        replace HB : Hid (Below w.heap.size w (w3.alloc (.cells #[.int .i64 0, .int .i64 0, .int .i64 0, .int .i64 0, .slice none 0 0, .slice none 0 0, .bool false, .string ⟨#[]⟩] 27))) := HB.out.trans (hba.mono HB.out.size)
        replace TR : Hid (TRow (w3.alloc (.cells #[.int .i64 0, .int .i64 0, .int .i64 0, .int .i64 0, .slice none 0 0, .slice none 0 0, .bool false, .string ⟨#[]⟩] 27)) t ra wa) := HP.out.row.below HB.out
        replace HN : Hid (Below (w2.heap.size) w2 (w3.alloc (.cells #[.int .i64 0, .int .i64 0, .int .i64 0, .int .i64 0, .slice none 0 0, .slice none 0 0, .bool false, .string ⟨#[]⟩] 27))) := HN.out.trans (hba.mono HN.out.size)
        replace T1 : Hid (TLie (w3.alloc (.cells #[.int .i64 0, .int .i64 0, .int .i64 0, .int .i64 0, .slice none 0 0, .slice none 0 0, .bool false, .string ⟨#[]⟩] 27)) (w2.heap.size) w3.heap.size t pa1 pc1 qa1 qc1) := T1.out.below hba
        clear hba
        have BOX : Hid (Bx (w3.alloc (.cells #[.int .i64 0, .int .i64 0, .int .i64 0, .int .i64 0, .slice none 0 0, .slice none 0 0, .bool false, .string ⟨#[]⟩] 27)) (w3.heap.size) [.int .i64 0, .int .i64 0, .int .i64 0, .int .i64 0, .slice none 0 0, .slice none 0 0, .bool false, .string ⟨#[]⟩]) := Bx.new w3 [.int .i64 0, .int .i64 0, .int .i64 0, .int .i64 0, .slice none 0 0, .slice none 0 0, .bool false, .string ⟨#[]⟩] 27
        (try go_wp2_with fail)
        refine hK.out _ _ ⟨BA.out.c0, BA.out.c1, BA.out.c2, BA.out.c3, BA.out.c4, BA.out.c5, BA.out.c6, BA.out.c7, BR.out.c0, BR.out.c1, BR.out.c2⟩ (fun hHeldB => ?_)
        clear hK K
        refine wpAnyH_ready (rs := [3]) (by kernel_rfl) (by simp) ?_
        refine AllReadyH.cons rfl (fun K hK => ?_) AllReadyH.nil
        go_simp
        go_wp2_with fail
        refine (TW.out _).mono ?_
        rintro e w4 ⟨rfl, hb4⟩
        have Z4 : Hid (w3.heap.size + 1 ≤ w4.heap.size) := by show _ ≤ _; have h := hb4.size; simpa using h
        replace BA : Hid (Bx w4 (w.heap.size) [.int .i64 t.id, .int .i64 t.st, .int .i64 t.snap, .int .i64 t.cs, .slice ra t.rs.length rc, .slice wa t.ws.length wc, .bool t.out, .string t.nm]) := BA.out.below hb4
        replace BR : Hid (Bx w4 (w.heap.size + 1) [.string x.1, .string x.2.1, .bool x.2.2]) := BR.out.below hb4
        replace HB : Hid (Below w.heap.size w w4) := HB.out.trans (hb4.mono HB.out.size)
        replace TR : Hid (TRow w4 t ra wa) := HP.out.row.below HB.out
        replace HN : Hid (Below (w2.heap.size) w2 w4) := HN.out.trans (hb4.mono HN.out.size)
        replace T1 : Hid (TLie w4 (w2.heap.size) w3.heap.size t pa1 pc1 qa1 qc1) := T1.out.below hb4
        replace BOX : Hid (Bx w4 (w3.heap.size) [.int .i64 0, .int .i64 0, .int .i64 0, .int .i64 0, .slice none 0 0, .slice none 0 0, .bool false, .string ⟨#[]⟩]) := BOX.out.below hb4
        go_wp2_with fail
        refine hK.out _ _ ⟨BA.out.c0, BA.out.c1, BA.out.c2, BA.out.c3, BA.out.c4, BA.out.c5, BA.out.c6, BA.out.c7, BR.out.c0, BR.out.c1, BR.out.c2⟩ (fun hHeld4 => ?_)
        clear hK K hb4
        refine wpAnyH_ready (rs := [4]) (by kernel_rfl) (by simp) ?_
        refine AllReadyH.cons rfl (fun K hK => ?_) AllReadyH.nil
        go_simp
        go_wp2_with fail
        refine (CS.out pa1 pc1 qa1 qc1 _ _ _ T1.out).mono ?_
        rintro e w5 ⟨ra1, rc1, wa1, wc1, rfl, hl, hb5⟩
        have Z5 : Hid (w4.heap.size ≤ w5.heap.size) := by show _ ≤ _; have h := hb5.size; simpa using h
        replace BA : Hid (Bx w5 (w.heap.size) [.int .i64 t.id, .int .i64 t.st, .int .i64 t.snap, .int .i64 t.cs, .slice ra t.rs.length rc, .slice wa t.ws.length wc, .bool t.out, .string t.nm]) := BA.out.below hb5
        replace BR : Hid (Bx w5 (w.heap.size + 1) [.string x.1, .string x.2.1, .bool x.2.2]) := BR.out.below hb5
        replace HB : Hid (Below w.heap.size w w5) := HB.out.trans (hb5.mono HB.out.size)
        replace TR : Hid (TRow w5 t ra wa) := HP.out.row.below HB.out
        replace HN : Hid (Below (w2.heap.size) w2 w5) := HN.out.trans (hb5.mono HN.out.size)
        replace T1 : Hid (TLie w5 (w2.heap.size) w3.heap.size t pa1 pc1 qa1 qc1) := T1.out.below hb5
        replace BOX : Hid (Bx w5 (w3.heap.size) [.int .i64 0, .int .i64 0, .int .i64 0, .int .i64 0, .slice none 0 0, .slice none 0 0, .bool false, .string ⟨#[]⟩]) := BOX.out.below hb5
        have TA : Hid (TLie w5 (w4.heap.size) w5.heap.size (setW t l) ra1 rc1 wa1 wc1) := hl
        clear hl
        go_wp2_with fail
        refine hK.out _ _ ⟨BA.out.c0, BA.out.c1, BA.out.c2, BA.out.c3, BA.out.c4, BA.out.c5, BA.out.c6, BA.out.c7, BR.out.c0, BR.out.c1, BR.out.c2⟩ (fun hHeld5 => ?_)
        clear hK K hb5
        (refine wpAnyH_take (i := 5) (v := ?_) rfl (by kernel_rfl) (by kernel_rfl) (by kernel_rfl) (fun _ _ _ h => h) (Or.inl ⟨by rfl, ?_⟩) (by assumption) ?_; rotate_left; (focus (intro w hSw; (try dsimp only at hSw); go_simp; (try with_reducible rfl); done)); simp only [Act.put, List.getElem_toArray, List.getElem_cons_zero, List.getElem_cons_succ, List.setIfInBounds_toArray, List.set_cons_zero, List.set_cons_succ])
        (refine wpAnyH_take (i := 6) (v := ?_) rfl (by kernel_rfl) (by kernel_rfl) (by kernel_rfl) (fun _ _ _ h => h) (Or.inl ⟨by rfl, ?_⟩) (by assumption) ?_; rotate_left; (focus (intro w hSw; (try dsimp only at hSw); go_simp; (try with_reducible rfl); done)); simp only [Act.put, List.getElem_toArray, List.getElem_cons_zero, List.getElem_cons_succ, List.setIfInBounds_toArray, List.set_cons_zero, List.set_cons_succ])
        (refine wpAnyH_take (i := 7) (v := ?_) rfl (by kernel_rfl) (by kernel_rfl) (by kernel_rfl) (fun _ _ _ h => h) (Or.inl ⟨by rfl, ?_⟩) (by assumption) ?_; rotate_left; (focus (intro w hSw; (try dsimp only at hSw); go_simp; (try with_reducible rfl); done)); simp only [Act.put, List.getElem_toArray, List.getElem_cons_zero, List.getElem_cons_succ, List.setIfInBounds_toArray, List.set_cons_zero, List.set_cons_succ])
        have zc0 := BOX.out.c0
        have zc1 := BOX.out.c1
        have zc2 := BOX.out.c2
        have zc3 := BOX.out.c3
        have zc4 := BOX.out.c4
        have zc5 := BOX.out.c5
        have zc6 := BOX.out.c6
        have zc7 := BOX.out.c7
        have zf := BOX.out.fz
        refine wpAnyH_ready (rs := [9]) (by kernel_rfl) (by simp) ?_
        refine AllReadyH.cons rfl (fun K hK => ?_) AllReadyH.nil
        go_simp
        have hneBA : w3.heap.size ≠ w.heap.size := by have := Z1.out; have := Z2.out; have := Z3.out; have := Z4.out; have := Z5.out; omega
        have BAs := hide0 (BA.out.o8 hneBA (.int .i64 t.id) (.int .i64 t.st) (.int .i64 t.snap) (.int .i64 t.cs) (.slice ra1 t.rs.length rc1) (.slice wa1 l.length wc1) (.bool t.out) (.string t.nm))
        have hneBR : w3.heap.size ≠ w.heap.size + 1 := by have := Z1.out; have := Z2.out; have := Z3.out; have := Z4.out; have := Z5.out; omega
        have BRs := hide0 (BR.out.o8 hneBR (.int .i64 t.id) (.int .i64 t.st) (.int .i64 t.snap) (.int .i64 t.cs) (.slice ra1 t.rs.length rc1) (.slice wa1 l.length wc1) (.bool t.out) (.string t.nm))
        refine hK.out _ _ ⟨BAs.out.c0, BAs.out.c1, BAs.out.c2, BAs.out.c3, BAs.out.c4, BAs.out.c5, BAs.out.c6, BAs.out.c7, BRs.out.c0, BRs.out.c1, BRs.out.c2⟩ (fun hHeldS => ?_)
        clear hK K zc0 zc1 zc2 zc3 zc4 zc5 zc6 zc7 zf
        (refine wpAnyH_take (i := 10) (v := ?_) rfl (by kernel_rfl) (by kernel_rfl) (by kernel_rfl) (fun _ _ _ h => h) (Or.inl ⟨by rfl, ?_⟩) (by assumption) ?_; rotate_left; (focus (intro w hSw; (try dsimp only at hSw); go_simp; (try with_reducible rfl); done)); simp only [Act.put, List.getElem_toArray, List.getElem_cons_zero, List.getElem_cons_succ, List.setIfInBounds_toArray, List.set_cons_zero, List.set_cons_succ])
        refine wpAnyH_done (by kernel_rfl) ?_ _
        have OB : Hid (Bx ((((((((w5.setCell ⟨w3.heap.size, 0, none⟩ (.int .i64 t.id)).setCell ⟨w3.heap.size, 1, none⟩ (.int .i64 t.st)).setCell ⟨w3.heap.size, 2, none⟩ (.int .i64 t.snap)).setCell ⟨w3.heap.size, 3, none⟩ (.int .i64 t.cs)).setCell ⟨w3.heap.size, 4, none⟩ (.slice ra1 t.rs.length rc1)).setCell ⟨w3.heap.size, 5, none⟩ (.slice wa1 l.length wc1)).setCell ⟨w3.heap.size, 6, none⟩ (.bool t.out)).setCell ⟨w3.heap.size, 7, none⟩ (.string t.nm)) (w3.heap.size) [.int .i64 t.id, .int .i64 t.st, .int .i64 t.snap, .int .i64 t.cs, .slice ra1 t.rs.length rc1, .slice wa1 l.length wc1, .bool t.out, .string t.nm]) := BOX.out.s8 (.int .i64 t.id) (.int .i64 t.st) (.int .i64 t.snap) (.int .i64 t.cs) (.slice ra1 t.rs.length rc1) (.slice wa1 l.length wc1) (.bool t.out) (.string t.nm)
        have hnz : w3.heap.size < w4.heap.size ∨ w5.heap.size ≤ w3.heap.size := by have := Z1.out; have := Z2.out; have := Z3.out; have := Z4.out; have := Z5.out; omega
        have TT : Hid (TLie ((((((((w5.setCell ⟨w3.heap.size, 0, none⟩ (.int .i64 t.id)).setCell ⟨w3.heap.size, 1, none⟩ (.int .i64 t.st)).setCell ⟨w3.heap.size, 2, none⟩ (.int .i64 t.snap)).setCell ⟨w3.heap.size, 3, none⟩ (.int .i64 t.cs)).setCell ⟨w3.heap.size, 4, none⟩ (.slice ra1 t.rs.length rc1)).setCell ⟨w3.heap.size, 5, none⟩ (.slice wa1 l.length wc1)).setCell ⟨w3.heap.size, 6, none⟩ (.bool t.out)).setCell ⟨w3.heap.size, 7, none⟩ (.string t.nm)) (w4.heap.size) (w5.heap.size) (setW t l) ra1 rc1 wa1 wc1) := TA.out.s8 hnz (.int .i64 t.id) (.int .i64 t.st) (.int .i64 t.snap) (.int .i64 t.cs) (.slice ra1 t.rs.length rc1) (.slice wa1 l.length wc1) (.bool t.out) (.string t.nm)
        have hno : w2.heap.size ≤ w3.heap.size := by have := Z1.out; have := Z2.out; have := Z3.out; have := Z4.out; have := Z5.out; omega
        have NN : Hid (Below (w2.heap.size) w2 ((((((((w5.setCell ⟨w3.heap.size, 0, none⟩ (.int .i64 t.id)).setCell ⟨w3.heap.size, 1, none⟩ (.int .i64 t.st)).setCell ⟨w3.heap.size, 2, none⟩ (.int .i64 t.snap)).setCell ⟨w3.heap.size, 3, none⟩ (.int .i64 t.cs)).setCell ⟨w3.heap.size, 4, none⟩ (.slice ra1 t.rs.length rc1)).setCell ⟨w3.heap.size, 5, none⟩ (.slice wa1 l.length wc1)).setCell ⟨w3.heap.size, 6, none⟩ (.bool t.out)).setCell ⟨w3.heap.size, 7, none⟩ (.string t.nm))) := below_s8 HN.out hno (.int .i64 t.id) (.int .i64 t.st) (.int .i64 t.snap) (.int .i64 t.cs) (.slice ra1 t.rs.length rc1) (.slice wa1 l.length wc1) (.bool t.out) (.string t.nm)
        have SS : Hid (((((((((w5.setCell ⟨w3.heap.size, 0, none⟩ (.int .i64 t.id)).setCell ⟨w3.heap.size, 1, none⟩ (.int .i64 t.st)).setCell ⟨w3.heap.size, 2, none⟩ (.int .i64 t.snap)).setCell ⟨w3.heap.size, 3, none⟩ (.int .i64 t.cs)).setCell ⟨w3.heap.size, 4, none⟩ (.slice ra1 t.rs.length rc1)).setCell ⟨w3.heap.size, 5, none⟩ (.slice wa1 l.length wc1)).setCell ⟨w3.heap.size, 6, none⟩ (.bool t.out)).setCell ⟨w3.heap.size, 7, none⟩ (.string t.nm)).heap.size = w5.heap.size) := by show _ = _; simp [World.setCell]
        go_wp2_with fail
        go_meet
        exact ⟨w3.heap.size, w4.heap.size, w5.heap.size, ra1, wa1, rc1, wc1, rfl, rfl, (by show _ ∧ _; have := Z1.out; have := Z2.out; have := Z3.out; have := Z4.out; have := Z5.out; have := SS.out; omega), OB, TT, NN⟩
    · go_simp
      have hba : Below w2.heap.size w2 (w2.alloc (.cells #[.int .i64 0, .int .i64 0, .int .i64 0, .int .i64 0, .slice none 0 0, .slice none 0 0, .bool false, .string ⟨#[]⟩] 27)) := (belowRefl _).alloc (Nat.le_refl _) _
      replace BA : Hid (Bx (w2.alloc (.cells #[.int .i64 0, .int .i64 0, .int .i64 0, .int .i64 0, .slice none 0 0, .slice none 0 0, .bool false, .string ⟨#[]⟩] 27)) (w.heap.size) [.int .i64 t.id, .int .i64 t.st, .int .i64 t.snap, .int .i64 t.cs, .slice ra t.rs.length rc, .slice wa t.ws.length wc, .bool t.out, .string t.nm]) := BA.out.below hba
      replace BR : Hid (Bx (w2.alloc (.cells #[.int .i64 0, .int .i64 0, .int .i64 0, .int .i64 0, .slice none 0 0, .slice none 0 0, .bool false, .string ⟨#[]⟩] 27)) (w.heap.size + 1) [.string x.1, .string x.2.1, .bool x.2.2]) := BR.out.below hba
      replace HB : Hid (Below w.heap.size w (w2.alloc (.cells #[.int .i64 0, .int .i64 0, .int .i64 0, .int .i64 0, .slice none 0 0, .slice none 0 0, .bool false, .string ⟨#[]⟩] 27))) := HB.out.trans (hba.mono HB.out.size)
      replace TR : Hid (TRow (w2.alloc (.cells #[.int .i64 0, .int .i64 0, .int .i64 0, .int .i64 0, .slice none 0 0, .slice none 0 0, .bool false, .string ⟨#[]⟩] 27)) t ra wa) := HP.out.row.below HB.out
      replace HN : Hid (Below (w2.heap.size) w2 (w2.alloc (.cells #[.int .i64 0, .int .i64 0, .int .i64 0, .int .i64 0, .slice none 0 0, .slice none 0 0, .bool false, .string ⟨#[]⟩] 27))) := HN.out.trans (hba.mono HN.out.size)
      clear hba
      have BOX : Hid (Bx (w2.alloc (.cells #[.int .i64 0, .int .i64 0, .int .i64 0, .int .i64 0, .slice none 0 0, .slice none 0 0, .bool false, .string ⟨#[]⟩] 27)) (w2.heap.size) [.int .i64 0, .int .i64 0, .int .i64 0, .int .i64 0, .slice none 0 0, .slice none 0 0, .bool false, .string ⟨#[]⟩]) := Bx.new w2 [.int .i64 0, .int .i64 0, .int .i64 0, .int .i64 0, .slice none 0 0, .slice none 0 0, .bool false, .string ⟨#[]⟩] 27
      (try go_wp2_with fail)
      refine hK.out _ _ ⟨BA.out.drew.c0, BA.out.drew.c1, BA.out.drew.c2, BA.out.drew.c3, BA.out.drew.c4, BA.out.drew.c5, BA.out.drew.c6, BA.out.drew.c7, BR.out.drew.c0, BR.out.drew.c1, BR.out.drew.c2⟩ (fun hHeldB => ?_)
      clear hK K
      refine wpAnyH_ready (rs := [1]) (by kernel_rfl) (by simp) ?_
      refine AllReadyH.cons rfl (fun K hK => ?_) AllReadyH.nil
      go_simp
      go_wp2_with fail
      refine (toT t ra wa rc wc (by omega) (by omega) _ TR.out.drewT).mono ?_
      rintro e w3 ⟨pa1, pc1, qa1, qc1, rfl, hl, hb3⟩
      have hbu3 := undrew hb3
      have Z3 : Hid (w2.heap.size + 1 ≤ w3.heap.size) := by show _ ≤ _; have h := hbu3.size; simpa using h
      replace BA : Hid (Bx w3 (w.heap.size) [.int .i64 t.id, .int .i64 t.st, .int .i64 t.snap, .int .i64 t.cs, .slice ra t.rs.length rc, .slice wa t.ws.length wc, .bool t.out, .string t.nm]) := BA.out.below hbu3
      replace BR : Hid (Bx w3 (w.heap.size + 1) [.string x.1, .string x.2.1, .bool x.2.2]) := BR.out.below hbu3
      replace HB : Hid (Below w.heap.size w w3) := HB.out.trans (hbu3.mono HB.out.size)
      replace TR : Hid (TRow w3 t ra wa) := HP.out.row.below HB.out
      replace HN : Hid (Below (w2.heap.size) w2 w3) := HN.out.trans (hbu3.mono HN.out.size)
      replace BOX : Hid (Bx w3 (w2.heap.size) [.int .i64 0, .int .i64 0, .int .i64 0, .int .i64 0, .slice none 0 0, .slice none 0 0, .bool false, .string ⟨#[]⟩]) := BOX.out.below hbu3
      have T1 : Hid (TLie w3 (w2.heap.size + 1) w3.heap.size t pa1 pc1 qa1 qc1) := (by show TLie _ _ _ _ _ _ _ _; simpa using hl)
      clear hl
      go_wp2_with fail
      refine hK.out _ _ ⟨BA.out.c0, BA.out.c1, BA.out.c2, BA.out.c3, BA.out.c4, BA.out.c5, BA.out.c6, BA.out.c7, BR.out.c0, BR.out.c1, BR.out.c2⟩ (fun hHeld3 => ?_)
      clear hK K hb3 hbu3
      refine wpAnyH_ready (rs := [3]) (by kernel_rfl) (by simp) ?_
      refine AllReadyH.cons rfl (fun K hK => ?_) AllReadyH.nil
      go_simp
      go_wp2_with fail
      refine (TW.out _).mono ?_
      rintro e w4 ⟨rfl, hb4⟩
      have Z4 : Hid (w3.heap.size ≤ w4.heap.size) := by show _ ≤ _; have h := hb4.size; simpa using h
      replace BA : Hid (Bx w4 (w.heap.size) [.int .i64 t.id, .int .i64 t.st, .int .i64 t.snap, .int .i64 t.cs, .slice ra t.rs.length rc, .slice wa t.ws.length wc, .bool t.out, .string t.nm]) := BA.out.below hb4
      replace BR : Hid (Bx w4 (w.heap.size + 1) [.string x.1, .string x.2.1, .bool x.2.2]) := BR.out.below hb4
      replace HB : Hid (Below w.heap.size w w4) := HB.out.trans (hb4.mono HB.out.size)
      replace TR : Hid (TRow w4 t ra wa) := HP.out.row.below HB.out
      replace HN : Hid (Below (w2.heap.size) w2 w4) := HN.out.trans (hb4.mono HN.out.size)
      replace BOX : Hid (Bx w4 (w2.heap.size) [.int .i64 0, .int .i64 0, .int .i64 0, .int .i64 0, .slice none 0 0, .slice none 0 0, .bool false, .string ⟨#[]⟩]) := BOX.out.below hb4
      replace T1 : Hid (TLie w4 (w2.heap.size + 1) w3.heap.size t pa1 pc1 qa1 qc1) := T1.out.below hb4
      go_wp2_with fail
      refine hK.out _ _ ⟨BA.out.c0, BA.out.c1, BA.out.c2, BA.out.c3, BA.out.c4, BA.out.c5, BA.out.c6, BA.out.c7, BR.out.c0, BR.out.c1, BR.out.c2⟩ (fun hHeld4 => ?_)
      clear hK K hb4
      refine wpAnyH_ready (rs := [4]) (by kernel_rfl) (by simp) ?_
      refine AllReadyH.cons rfl (fun K hK => ?_) AllReadyH.nil
      go_simp
      go_wp2_with fail
      refine (CS.out pa1 pc1 qa1 qc1 _ _ _ T1.out).mono ?_
      rintro e w5 ⟨ra1, rc1, wa1, wc1, rfl, hl, hb5⟩
      have Z5 : Hid (w4.heap.size ≤ w5.heap.size) := by show _ ≤ _; have h := hb5.size; simpa using h
      replace BA : Hid (Bx w5 (w.heap.size) [.int .i64 t.id, .int .i64 t.st, .int .i64 t.snap, .int .i64 t.cs, .slice ra t.rs.length rc, .slice wa t.ws.length wc, .bool t.out, .string t.nm]) := BA.out.below hb5
      replace BR : Hid (Bx w5 (w.heap.size + 1) [.string x.1, .string x.2.1, .bool x.2.2]) := BR.out.below hb5
      replace HB : Hid (Below w.heap.size w w5) := HB.out.trans (hb5.mono HB.out.size)
      replace TR : Hid (TRow w5 t ra wa) := HP.out.row.below HB.out
      replace HN : Hid (Below (w2.heap.size) w2 w5) := HN.out.trans (hb5.mono HN.out.size)
      replace BOX : Hid (Bx w5 (w2.heap.size) [.int .i64 0, .int .i64 0, .int .i64 0, .int .i64 0, .slice none 0 0, .slice none 0 0, .bool false, .string ⟨#[]⟩]) := BOX.out.below hb5
      replace T1 : Hid (TLie w5 (w2.heap.size + 1) w3.heap.size t pa1 pc1 qa1 qc1) := T1.out.below hb5
      have TA : Hid (TLie w5 (w4.heap.size) w5.heap.size (setW t l) ra1 rc1 wa1 wc1) := hl
      clear hl
      go_wp2_with fail
      refine hK.out _ _ ⟨BA.out.c0, BA.out.c1, BA.out.c2, BA.out.c3, BA.out.c4, BA.out.c5, BA.out.c6, BA.out.c7, BR.out.c0, BR.out.c1, BR.out.c2⟩ (fun hHeld5 => ?_)
      clear hK K hb5
      (refine wpAnyH_take (i := 5) (v := ?_) rfl (by kernel_rfl) (by kernel_rfl) (by kernel_rfl) (fun _ _ _ h => h) (Or.inl ⟨by rfl, ?_⟩) (by assumption) ?_; rotate_left; (focus (intro w hSw; (try dsimp only at hSw); go_simp; (try with_reducible rfl); done)); simp only [Act.put, List.getElem_toArray, List.getElem_cons_zero, List.getElem_cons_succ, List.setIfInBounds_toArray, List.set_cons_zero, List.set_cons_succ])
      (refine wpAnyH_take (i := 6) (v := ?_) rfl (by kernel_rfl) (by kernel_rfl) (by kernel_rfl) (fun _ _ _ h => h) (Or.inl ⟨by rfl, ?_⟩) (by assumption) ?_; rotate_left; (focus (intro w hSw; (try dsimp only at hSw); go_simp; (try with_reducible rfl); done)); simp only [Act.put, List.getElem_toArray, List.getElem_cons_zero, List.getElem_cons_succ, List.setIfInBounds_toArray, List.set_cons_zero, List.set_cons_succ])
      (refine wpAnyH_take (i := 7) (v := ?_) rfl (by kernel_rfl) (by kernel_rfl) (by kernel_rfl) (fun _ _ _ h => h) (Or.inl ⟨by rfl, ?_⟩) (by assumption) ?_; rotate_left; (focus (intro w hSw; (try dsimp only at hSw); go_simp; (try with_reducible rfl); done)); simp only [Act.put, List.getElem_toArray, List.getElem_cons_zero, List.getElem_cons_succ, List.setIfInBounds_toArray, List.set_cons_zero, List.set_cons_succ])
      have zc0 := BOX.out.c0
      have zc1 := BOX.out.c1
      have zc2 := BOX.out.c2
      have zc3 := BOX.out.c3
      have zc4 := BOX.out.c4
      have zc5 := BOX.out.c5
      have zc6 := BOX.out.c6
      have zc7 := BOX.out.c7
      have zf := BOX.out.fz
      refine wpAnyH_ready (rs := [9]) (by kernel_rfl) (by simp) ?_
      refine AllReadyH.cons rfl (fun K hK => ?_) AllReadyH.nil
      go_simp
      have hneBA : w2.heap.size ≠ w.heap.size := by have := Z1.out; have := Z2.out; have := Z3.out; have := Z4.out; have := Z5.out; omega
      have BAs := hide0 (BA.out.o8 hneBA (.int .i64 t.id) (.int .i64 t.st) (.int .i64 t.snap) (.int .i64 t.cs) (.slice ra1 t.rs.length rc1) (.slice wa1 l.length wc1) (.bool t.out) (.string t.nm))
      have hneBR : w2.heap.size ≠ w.heap.size + 1 := by have := Z1.out; have := Z2.out; have := Z3.out; have := Z4.out; have := Z5.out; omega
      have BRs := hide0 (BR.out.o8 hneBR (.int .i64 t.id) (.int .i64 t.st) (.int .i64 t.snap) (.int .i64 t.cs) (.slice ra1 t.rs.length rc1) (.slice wa1 l.length wc1) (.bool t.out) (.string t.nm))
      refine hK.out _ _ ⟨BAs.out.c0, BAs.out.c1, BAs.out.c2, BAs.out.c3, BAs.out.c4, BAs.out.c5, BAs.out.c6, BAs.out.c7, BRs.out.c0, BRs.out.c1, BRs.out.c2⟩ (fun hHeldS => ?_)
      clear hK K zc0 zc1 zc2 zc3 zc4 zc5 zc6 zc7 zf
      (refine wpAnyH_take (i := 10) (v := ?_) rfl (by kernel_rfl) (by kernel_rfl) (by kernel_rfl) (fun _ _ _ h => h) (Or.inl ⟨by rfl, ?_⟩) (by assumption) ?_; rotate_left; (focus (intro w hSw; (try dsimp only at hSw); go_simp; (try with_reducible rfl); done)); simp only [Act.put, List.getElem_toArray, List.getElem_cons_zero, List.getElem_cons_succ, List.setIfInBounds_toArray, List.set_cons_zero, List.set_cons_succ])
      refine wpAnyH_done (by kernel_rfl) ?_ _
      have OB : Hid (Bx ((((((((w5.setCell ⟨w2.heap.size, 0, none⟩ (.int .i64 t.id)).setCell ⟨w2.heap.size, 1, none⟩ (.int .i64 t.st)).setCell ⟨w2.heap.size, 2, none⟩ (.int .i64 t.snap)).setCell ⟨w2.heap.size, 3, none⟩ (.int .i64 t.cs)).setCell ⟨w2.heap.size, 4, none⟩ (.slice ra1 t.rs.length rc1)).setCell ⟨w2.heap.size, 5, none⟩ (.slice wa1 l.length wc1)).setCell ⟨w2.heap.size, 6, none⟩ (.bool t.out)).setCell ⟨w2.heap.size, 7, none⟩ (.string t.nm)) (w2.heap.size) [.int .i64 t.id, .int .i64 t.st, .int .i64 t.snap, .int .i64 t.cs, .slice ra1 t.rs.length rc1, .slice wa1 l.length wc1, .bool t.out, .string t.nm]) := BOX.out.s8 (.int .i64 t.id) (.int .i64 t.st) (.int .i64 t.snap) (.int .i64 t.cs) (.slice ra1 t.rs.length rc1) (.slice wa1 l.length wc1) (.bool t.out) (.string t.nm)
      have hnz : w2.heap.size < w4.heap.size ∨ w5.heap.size ≤ w2.heap.size := by have := Z1.out; have := Z2.out; have := Z3.out; have := Z4.out; have := Z5.out; omega
      have TT : Hid (TLie ((((((((w5.setCell ⟨w2.heap.size, 0, none⟩ (.int .i64 t.id)).setCell ⟨w2.heap.size, 1, none⟩ (.int .i64 t.st)).setCell ⟨w2.heap.size, 2, none⟩ (.int .i64 t.snap)).setCell ⟨w2.heap.size, 3, none⟩ (.int .i64 t.cs)).setCell ⟨w2.heap.size, 4, none⟩ (.slice ra1 t.rs.length rc1)).setCell ⟨w2.heap.size, 5, none⟩ (.slice wa1 l.length wc1)).setCell ⟨w2.heap.size, 6, none⟩ (.bool t.out)).setCell ⟨w2.heap.size, 7, none⟩ (.string t.nm)) (w4.heap.size) (w5.heap.size) (setW t l) ra1 rc1 wa1 wc1) := TA.out.s8 hnz (.int .i64 t.id) (.int .i64 t.st) (.int .i64 t.snap) (.int .i64 t.cs) (.slice ra1 t.rs.length rc1) (.slice wa1 l.length wc1) (.bool t.out) (.string t.nm)
      have hno : w2.heap.size ≤ w2.heap.size := by have := Z1.out; have := Z2.out; have := Z3.out; have := Z4.out; have := Z5.out; omega
      have NN : Hid (Below (w2.heap.size) w2 ((((((((w5.setCell ⟨w2.heap.size, 0, none⟩ (.int .i64 t.id)).setCell ⟨w2.heap.size, 1, none⟩ (.int .i64 t.st)).setCell ⟨w2.heap.size, 2, none⟩ (.int .i64 t.snap)).setCell ⟨w2.heap.size, 3, none⟩ (.int .i64 t.cs)).setCell ⟨w2.heap.size, 4, none⟩ (.slice ra1 t.rs.length rc1)).setCell ⟨w2.heap.size, 5, none⟩ (.slice wa1 l.length wc1)).setCell ⟨w2.heap.size, 6, none⟩ (.bool t.out)).setCell ⟨w2.heap.size, 7, none⟩ (.string t.nm))) := below_s8 HN.out hno (.int .i64 t.id) (.int .i64 t.st) (.int .i64 t.snap) (.int .i64 t.cs) (.slice ra1 t.rs.length rc1) (.slice wa1 l.length wc1) (.bool t.out) (.string t.nm)
      have SS : Hid (((((((((w5.setCell ⟨w2.heap.size, 0, none⟩ (.int .i64 t.id)).setCell ⟨w2.heap.size, 1, none⟩ (.int .i64 t.st)).setCell ⟨w2.heap.size, 2, none⟩ (.int .i64 t.snap)).setCell ⟨w2.heap.size, 3, none⟩ (.int .i64 t.cs)).setCell ⟨w2.heap.size, 4, none⟩ (.slice ra1 t.rs.length rc1)).setCell ⟨w2.heap.size, 5, none⟩ (.slice wa1 l.length wc1)).setCell ⟨w2.heap.size, 6, none⟩ (.bool t.out)).setCell ⟨w2.heap.size, 7, none⟩ (.string t.nm)).heap.size = w5.heap.size) := by show _ = _; simp [World.setCell]
      go_wp2_with fail
      go_meet
      exact ⟨w2.heap.size, w4.heap.size, w5.heap.size, ra1, wa1, rc1, wc1, rfl, rfl, (by show _ ∧ _; have := Z1.out; have := Z2.out; have := Z3.out; have := Z4.out; have := Z5.out; have := SS.out; omega), OB, TT, NN⟩
  case rest =>
  obtain ⟨ob1, lo1, hi1, ra1, wa1, rc1, wc1, rfl, rfl, ZZ1, OB1, TT1, hbn⟩ := hcut
  obtain ⟨w3, rfl⟩ : ∃ x, x = wc := ⟨_, rfl⟩
  have hb3 : Below w2.heap.size w2 w3 := hbn.out
  have Z3 : Hid (w2.heap.size ≤ w3.heap.size) := by show _ ≤ _; have h := hb3.size; simpa using h
  replace BA : Hid (Bx w3 (w.heap.size) [.int .i64 t.id, .int .i64 t.st, .int .i64 t.snap, .int .i64 t.cs, .slice ra t.rs.length rc, .slice wa t.ws.length wc, .bool t.out, .string t.nm]) := BA.out.below hb3
  replace BR : Hid (Bx w3 (w.heap.size + 1) [.string x.1, .string x.2.1, .bool x.2.2]) := BR.out.below hb3
  replace HB : Hid (Below w.heap.size w w3) := HB.out.trans (hb3.mono HB.out.size)
  replace TR : Hid (TRow w3 t ra wa) := HP.out.row.below HB.out
  clear hbn hb3
  have x0 := BA.out.c0
  have x1 := BA.out.c1
  have x2 := BA.out.c2
  have x3 := BA.out.c3
  have x4 := BA.out.c4
  have x5 := BA.out.c5
  have x6 := BA.out.c6
  have x7 := BA.out.c7
  go_wp2_with fail
  refine (toT t ra wa rc wc (by omega) (by omega) _ TR.out).mono ?_
  rintro e w4 ⟨pa2, pc2, qa2, qc2, rfl, hl, hb4⟩
  have Z4 : Hid (w3.heap.size ≤ w4.heap.size) := by show _ ≤ _; have h := hb4.size; simpa using h
  replace BA : Hid (Bx w4 (w.heap.size) [.int .i64 t.id, .int .i64 t.st, .int .i64 t.snap, .int .i64 t.cs, .slice ra t.rs.length rc, .slice wa t.ws.length wc, .bool t.out, .string t.nm]) := BA.out.below hb4
  replace BR : Hid (Bx w4 (w.heap.size + 1) [.string x.1, .string x.2.1, .bool x.2.2]) := BR.out.below hb4
  replace HB : Hid (Below w.heap.size w w4) := HB.out.trans (hb4.mono HB.out.size)
  replace TR : Hid (TRow w4 t ra wa) := HP.out.row.below HB.out
  replace OB1 : Hid (Bx w4 (ob1) [.int .i64 t.id, .int .i64 t.st, .int .i64 t.snap, .int .i64 t.cs, .slice ra1 t.rs.length rc1, .slice wa1 l.length wc1, .bool t.out, .string t.nm]) := OB1.out.below hb4
  replace TT1 : Hid (TLie w4 (lo1) (hi1) (setW t l) ra1 rc1 wa1 wc1) := TT1.out.below hb4
  clear hb4 x0 x1 x2 x3 x4 x5 x6 x7

  have T2 : Hid (TLie w4 (w3.heap.size) w4.heap.size t pa2 pc2 qa2 qc2) := hl
  clear hl
  have hba : Below w4.heap.size w4 (w4.alloc (.cells #[.int .i64 t.id, .int .i64 t.st, .int .i64 t.snap, .int .i64 t.cs, .slice pa2 t.rs.length pc2, .slice qa2 t.ws.length qc2, .bool t.out, .string t.nm] 27)) := (belowRefl _).alloc (Nat.le_refl _) _
  replace BA : Hid (Bx (w4.alloc (.cells #[.int .i64 t.id, .int .i64 t.st, .int .i64 t.snap, .int .i64 t.cs, .slice pa2 t.rs.length pc2, .slice qa2 t.ws.length qc2, .bool t.out, .string t.nm] 27)) (w.heap.size) [.int .i64 t.id, .int .i64 t.st, .int .i64 t.snap, .int .i64 t.cs, .slice ra t.rs.length rc, .slice wa t.ws.length wc, .bool t.out, .string t.nm]) := BA.out.below hba
  replace BR : Hid (Bx (w4.alloc (.cells #[.int .i64 t.id, .int .i64 t.st, .int .i64 t.snap, .int .i64 t.cs, .slice pa2 t.rs.length pc2, .slice qa2 t.ws.length qc2, .bool t.out, .string t.nm] 27)) (w.heap.size + 1) [.string x.1, .string x.2.1, .bool x.2.2]) := BR.out.below hba
  replace HB : Hid (Below w.heap.size w (w4.alloc (.cells #[.int .i64 t.id, .int .i64 t.st, .int .i64 t.snap, .int .i64 t.cs, .slice pa2 t.rs.length pc2, .slice qa2 t.ws.length qc2, .bool t.out, .string t.nm] 27))) := HB.out.trans (hba.mono HB.out.size)
  replace TR : Hid (TRow (w4.alloc (.cells #[.int .i64 t.id, .int .i64 t.st, .int .i64 t.snap, .int .i64 t.cs, .slice pa2 t.rs.length pc2, .slice qa2 t.ws.length qc2, .bool t.out, .string t.nm] 27)) t ra wa) := HP.out.row.below HB.out
  replace OB1 : Hid (Bx (w4.alloc (.cells #[.int .i64 t.id, .int .i64 t.st, .int .i64 t.snap, .int .i64 t.cs, .slice pa2 t.rs.length pc2, .slice qa2 t.ws.length qc2, .bool t.out, .string t.nm] 27)) (ob1) [.int .i64 t.id, .int .i64 t.st, .int .i64 t.snap, .int .i64 t.cs, .slice ra1 t.rs.length rc1, .slice wa1 l.length wc1, .bool t.out, .string t.nm]) := OB1.out.below hba
  replace TT1 : Hid (TLie (w4.alloc (.cells #[.int .i64 t.id, .int .i64 t.st, .int .i64 t.snap, .int .i64 t.cs, .slice pa2 t.rs.length pc2, .slice qa2 t.ws.length qc2, .bool t.out, .string t.nm] 27)) (lo1) (hi1) (setW t l) ra1 rc1 wa1 wc1) := TT1.out.below hba
  replace T2 : Hid (TLie (w4.alloc (.cells #[.int .i64 t.id, .int .i64 t.st, .int .i64 t.snap, .int .i64 t.cs, .slice pa2 t.rs.length pc2, .slice qa2 t.ws.length qc2, .bool t.out, .string t.nm] 27)) (w3.heap.size) w4.heap.size t pa2 pc2 qa2 qc2) := T2.out.below hba
  clear hba
  have BX : Hid (Bx (w4.alloc (.cells #[.int .i64 t.id, .int .i64 t.st, .int .i64 t.snap, .int .i64 t.cs, .slice pa2 t.rs.length pc2, .slice qa2 t.ws.length qc2, .bool t.out, .string t.nm] 27)) (w4.heap.size) [.int .i64 t.id, .int .i64 t.st, .int .i64 t.snap, .int .i64 t.cs, .slice pa2 t.rs.length pc2, .slice qa2 t.ws.length qc2, .bool t.out, .string t.nm]) := Bx.new w4 [.int .i64 t.id, .int .i64 t.st, .int .i64 t.snap, .int .i64 t.cs, .slice pa2 t.rs.length pc2, .slice qa2 t.ws.length qc2, .bool t.out, .string t.nm] 27
  go_wp2
  have ZwL : Hid (w4.heap.size + 1 ≤ (w4.alloc (.cells #[.int .i64 t.id, .int .i64 t.st, .int .i64 t.snap, .int .i64 t.cs, .slice pa2 t.rs.length pc2, .slice qa2 t.ws.length qc2, .bool t.out, .string t.nm] 27)).heap.size) := by show _ ≤ _; simp
  generalize w4.alloc (.cells #[.int .i64 t.id, .int .i64 t.st, .int .i64 t.snap, .int .i64 t.cs, .slice pa2 t.rs.length pc2, .slice qa2 t.ws.length qc2, .bool t.out, .string t.nm] 27) = wL at *
  go_cut [9, 10] from 36 to 42 (fun p q wx => ∃ (ob lo hi : Nat) (ra1 wa1 : Option Addr) (rc1 wc1 : Nat), p = .pointer (some ⟨ob, 0, none⟩) ∧ q = .bool b ∧ Hid (wL.heap.size ≤ ob ∧ ob < wx.heap.size ∧ wL.heap.size ≤ lo ∧ lo ≤ hi ∧ hi ≤ wx.heap.size ∧ (ob < lo ∨ hi ≤ ob)) ∧ Hid (Bx wx ob [.int .i64 t.id, .int .i64 t.st, .int .i64 t.snap, .int .i64 t.cs, .slice ra1 t.rs.length rc1, .slice wa1 l.length wc1, .bool t.out, .string t.nm]) ∧ Hid (TLie wx lo hi (setW t l) ra1 rc1 wa1 wc1) ∧ Hid (Below (wL.heap.size) wL wx))
  case first =>
    have HN : Hid (Below (wL.heap.size) wL wL) := belowRefl wL
    refine wp_region_held_drew (S := fun w' => w'.cell? ⟨w4.heap.size, 0, none⟩ = some (.int .i64 t.id) ∧ w'.cell? ⟨w4.heap.size, 1, none⟩ = some (.int .i64 t.st) ∧ w'.cell? ⟨w4.heap.size, 2, none⟩ = some (.int .i64 t.snap) ∧ w'.cell? ⟨w4.heap.size, 3, none⟩ = some (.int .i64 t.cs) ∧ w'.cell? ⟨w4.heap.size, 4, none⟩ = some (.slice pa2 t.rs.length pc2) ∧ w'.cell? ⟨w4.heap.size, 5, none⟩ = some (.slice qa2 t.ws.length qc2) ∧ w'.cell? ⟨w4.heap.size, 6, none⟩ = some (.bool t.out) ∧ w'.cell? ⟨w4.heap.size, 7, none⟩ = some (.string t.nm) ∧ w'.cell? ⟨w.heap.size + 1, 0, none⟩ = some (.string x.1) ∧ w'.cell? ⟨w.heap.size + 1, 1, none⟩ = some (.string x.2.1) ∧ w'.cell? ⟨w.heap.size + 1, 2, none⟩ = some (.bool x.2.2)) (by kernel_rfl) ⟨BX.out.c0, BX.out.c1, BX.out.c2, BX.out.c3, BX.out.c4, BX.out.c5, BX.out.c6, BX.out.c7, BR.out.c0, BR.out.c1, BR.out.c2⟩ (fun hHeld => ?_)
    (refine wpAnyH_take (i := 0) (v := ?_) rfl (by kernel_rfl) (by kernel_rfl) (by kernel_rfl) (fun _ _ _ h => h) (Or.inl ⟨by rfl, ?_⟩) (by assumption) ?_; rotate_left; (focus (intro w hSw; (try dsimp only at hSw); go_simp; (try with_reducible rfl); done)); simp only [Act.put, List.getElem_toArray, List.getElem_cons_zero, List.setIfInBounds_toArray, List.set_cons_zero, List.set_cons_succ])
    (refine wpAnyH_take (i := 1) (v := ?_) rfl (by kernel_rfl) (by kernel_rfl) (by kernel_rfl) (fun _ _ _ h => h) (Or.inl ⟨by rfl, ?_⟩) (by assumption) ?_; rotate_left; (focus (intro w hSw; (try dsimp only at hSw); go_simp; (try with_reducible rfl); done)); simp only [Act.put, List.getElem_toArray, List.getElem_cons_zero, List.getElem_cons_succ, List.setIfInBounds_toArray, List.set_cons_zero, List.set_cons_succ])
    refine wpAnyH_ready (rs := [2, 7]) (by kernel_rfl) (by simp) ?_
    refine AllReadyH.cons rfl (fun K hK => ?_) (AllReadyH.cons rfl (fun K hK => ?_) AllReadyH.nil)
    · go_simp
      go_wp2_with fail
      refine (TW.out _).mono ?_
      rintro e w5 ⟨rfl, hb5⟩
      have hbu5 := undrew hb5
      have Z5 : Hid (wL.heap.size ≤ w5.heap.size) := by show _ ≤ _; have h := hbu5.size; simpa using h
      replace BA : Hid (Bx w5 (w.heap.size) [.int .i64 t.id, .int .i64 t.st, .int .i64 t.snap, .int .i64 t.cs, .slice ra t.rs.length rc, .slice wa t.ws.length wc, .bool t.out, .string t.nm]) := BA.out.below hbu5
      replace BR : Hid (Bx w5 (w.heap.size + 1) [.string x.1, .string x.2.1, .bool x.2.2]) := BR.out.below hbu5
      replace HB : Hid (Below w.heap.size w w5) := HB.out.trans (hbu5.mono HB.out.size)
      replace TR : Hid (TRow w5 t ra wa) := HP.out.row.below HB.out
      replace OB1 : Hid (Bx w5 (ob1) [.int .i64 t.id, .int .i64 t.st, .int .i64 t.snap, .int .i64 t.cs, .slice ra1 t.rs.length rc1, .slice wa1 l.length wc1, .bool t.out, .string t.nm]) := OB1.out.below hbu5
      replace TT1 : Hid (TLie w5 (lo1) (hi1) (setW t l) ra1 rc1 wa1 wc1) := TT1.out.below hbu5
      replace T2 : Hid (TLie w5 (w3.heap.size) w4.heap.size t pa2 pc2 qa2 qc2) := T2.out.below hbu5
      replace BX : Hid (Bx w5 (w4.heap.size) [.int .i64 t.id, .int .i64 t.st, .int .i64 t.snap, .int .i64 t.cs, .slice pa2 t.rs.length pc2, .slice qa2 t.ws.length qc2, .bool t.out, .string t.nm]) := BX.out.below hbu5
      replace HN : Hid (Below (wL.heap.size) wL w5) := HN.out.trans (hbu5.mono HN.out.size)
      go_wp2_with fail
      refine hK.out _ _ ⟨BX.out.c0, BX.out.c1, BX.out.c2, BX.out.c3, BX.out.c4, BX.out.c5, BX.out.c6, BX.out.c7, BR.out.c0, BR.out.c1, BR.out.c2⟩ (fun hHeld5 => ?_)
      clear hK K hb5 hbu5
      refine wpAnyH_ready (rs := [3, 7]) (by kernel_rfl) (by simp) ?_
      refine AllReadyH.cons rfl (fun K hK => ?_) (AllReadyH.cons rfl (fun K hK => ?_) AllReadyH.nil)
      · go_simp
        go_wp2_with fail
        refine (CI.out pa2 pc2 qa2 qc2 _ T2.out.row).mono ?_
        rintro e w6 ⟨ra3, rc3, wa3, wc3, rfl, hl, hb6⟩
        have Z6 : Hid (w5.heap.size ≤ w6.heap.size) := by show _ ≤ _; have h := hb6.size; simpa using h
        replace BA : Hid (Bx w6 (w.heap.size) [.int .i64 t.id, .int .i64 t.st, .int .i64 t.snap, .int .i64 t.cs, .slice ra t.rs.length rc, .slice wa t.ws.length wc, .bool t.out, .string t.nm]) := BA.out.below hb6
        replace BR : Hid (Bx w6 (w.heap.size + 1) [.string x.1, .string x.2.1, .bool x.2.2]) := BR.out.below hb6
        replace HB : Hid (Below w.heap.size w w6) := HB.out.trans (hb6.mono HB.out.size)
        replace TR : Hid (TRow w6 t ra wa) := HP.out.row.below HB.out
        replace OB1 : Hid (Bx w6 (ob1) [.int .i64 t.id, .int .i64 t.st, .int .i64 t.snap, .int .i64 t.cs, .slice ra1 t.rs.length rc1, .slice wa1 l.length wc1, .bool t.out, .string t.nm]) := OB1.out.below hb6
        replace TT1 : Hid (TLie w6 (lo1) (hi1) (setW t l) ra1 rc1 wa1 wc1) := TT1.out.below hb6
        replace T2 : Hid (TLie w6 (w3.heap.size) w4.heap.size t pa2 pc2 qa2 qc2) := T2.out.below hb6
        replace BX : Hid (Bx w6 (w4.heap.size) [.int .i64 t.id, .int .i64 t.st, .int .i64 t.snap, .int .i64 t.cs, .slice pa2 t.rs.length pc2, .slice qa2 t.ws.length qc2, .bool t.out, .string t.nm]) := BX.out.below hb6
        replace HN : Hid (Below (wL.heap.size) wL w6) := HN.out.trans (hb6.mono HN.out.size)
        have TA : Hid (TLie w6 (w5.heap.size) w6.heap.size (setW t l) ra3 rc3 wa3 wc3) := hl
        clear hl
        go_wp2_with fail
        refine hK.out _ _ ⟨BX.out.c0, BX.out.c1, BX.out.c2, BX.out.c3, BX.out.c4, BX.out.c5, BX.out.c6, BX.out.c7, BR.out.c0, BR.out.c1, BR.out.c2⟩ (fun hHeld6 => ?_)
        clear hK K hb6
        (refine wpAnyH_take (i := 4) (v := ?_) rfl (by kernel_rfl) (by kernel_rfl) (by kernel_rfl) (fun _ _ _ h => h) (Or.inl ⟨by rfl, ?_⟩) (by assumption) ?_; rotate_left; (focus (intro w hSw; (try dsimp only at hSw); go_simp; (try with_reducible rfl); done)); simp only [Act.put, List.getElem_toArray, List.getElem_cons_zero, List.getElem_cons_succ, List.setIfInBounds_toArray, List.set_cons_zero, List.set_cons_succ])
        (refine wpAnyH_take (i := 5) (v := ?_) rfl (by kernel_rfl) (by kernel_rfl) (by kernel_rfl) (fun _ _ _ h => h) (Or.inl ⟨by rfl, ?_⟩) (by assumption) ?_; rotate_left; (focus (intro w hSw; (try dsimp only at hSw); go_simp; (try with_reducible rfl); done)); simp only [Act.put, List.getElem_toArray, List.getElem_cons_zero, List.getElem_cons_succ, List.setIfInBounds_toArray, List.set_cons_zero, List.set_cons_succ])
        (refine wpAnyH_take (i := 6) (v := ?_) rfl (by kernel_rfl) (by kernel_rfl) (by kernel_rfl) (fun _ _ _ h => h) (Or.inl ⟨by rfl, ?_⟩) (by assumption) ?_; rotate_left; (focus (intro w hSw; (try dsimp only at hSw); go_simp; (try with_reducible rfl); done)); simp only [Act.put, List.getElem_toArray, List.getElem_cons_zero, List.getElem_cons_succ, List.setIfInBounds_toArray, List.set_cons_zero, List.set_cons_succ])
        refine wpAnyH_ready (rs := [7]) (by kernel_rfl) (by simp) ?_
        refine AllReadyH.cons rfl (fun K hK => ?_) AllReadyH.nil
        go_simp
        have BXq := BX
        have BRq := BR
        have TAq := TA
        have HNq := HN
        have hba : Below w6.heap.size w6 (w6.alloc (.cells #[.int .i64 0, .int .i64 0, .int .i64 0, .int .i64 0, .slice none 0 0, .slice none 0 0, .bool false, .string ⟨#[]⟩] 27)) := (belowRefl _).alloc (Nat.le_refl _) _
        replace BA : Hid (Bx (w6.alloc (.cells #[.int .i64 0, .int .i64 0, .int .i64 0, .int .i64 0, .slice none 0 0, .slice none 0 0, .bool false, .string ⟨#[]⟩] 27)) (w.heap.size) [.int .i64 t.id, .int .i64 t.st, .int .i64 t.snap, .int .i64 t.cs, .slice ra t.rs.length rc, .slice wa t.ws.length wc, .bool t.out, .string t.nm]) := BA.out.below hba
        replace BR : Hid (Bx (w6.alloc (.cells #[.int .i64 0, .int .i64 0, .int .i64 0, .int .i64 0, .slice none 0 0, .slice none 0 0, .bool false, .string ⟨#[]⟩] 27)) (w.heap.size + 1) [.string x.1, .string x.2.1, .bool x.2.2]) := BR.out.below hba
        replace HB : Hid (Below w.heap.size w (w6.alloc (.cells #[.int .i64 0, .int .i64 0, .int .i64 0, .int .i64 0, .slice none 0 0, .slice none 0 0, .bool false, .string ⟨#[]⟩] 27))) := HB.out.trans (hba.mono HB.out.size)
        replace TR : Hid (TRow (w6.alloc (.cells #[.int .i64 0, .int .i64 0, .int .i64 0, .int .i64 0, .slice none 0 0, .slice none 0 0, .bool false, .string ⟨#[]⟩] 27)) t ra wa) := HP.out.row.below HB.out
        replace OB1 : Hid (Bx (w6.alloc (.cells #[.int .i64 0, .int .i64 0, .int .i64 0, .int .i64 0, .slice none 0 0, .slice none 0 0, .bool false, .string ⟨#[]⟩] 27)) (ob1) [.int .i64 t.id, .int .i64 t.st, .int .i64 t.snap, .int .i64 t.cs, .slice ra1 t.rs.length rc1, .slice wa1 l.length wc1, .bool t.out, .string t.nm]) := OB1.out.below hba
        replace TT1 : Hid (TLie (w6.alloc (.cells #[.int .i64 0, .int .i64 0, .int .i64 0, .int .i64 0, .slice none 0 0, .slice none 0 0, .bool false, .string ⟨#[]⟩] 27)) (lo1) (hi1) (setW t l) ra1 rc1 wa1 wc1) := TT1.out.below hba
        replace T2 : Hid (TLie (w6.alloc (.cells #[.int .i64 0, .int .i64 0, .int .i64 0, .int .i64 0, .slice none 0 0, .slice none 0 0, .bool false, .string ⟨#[]⟩] 27)) (w3.heap.size) w4.heap.size t pa2 pc2 qa2 qc2) := T2.out.below hba
        replace BX : Hid (Bx (w6.alloc (.cells #[.int .i64 0, .int .i64 0, .int .i64 0, .int .i64 0, .slice none 0 0, .slice none 0 0, .bool false, .string ⟨#[]⟩] 27)) (w4.heap.size) [.int .i64 t.id, .int .i64 t.st, .int .i64 t.snap, .int .i64 t.cs, .slice pa2 t.rs.length pc2, .slice qa2 t.ws.length qc2, .bool t.out, .string t.nm]) := BX.out.below hba
        replace HN : Hid (Below (wL.heap.size) wL (w6.alloc (.cells #[.int .i64 0, .int .i64 0, .int .i64 0, .int .i64 0, .slice none 0 0, .slice none 0 0, .bool false, .string ⟨#[]⟩] 27))) := HN.out.trans (hba.mono HN.out.size)
        replace TA : Hid (TLie (w6.alloc (.cells #[.int .i64 0, .int .i64 0, .int .i64 0, .int .i64 0, .slice none 0 0, .slice none 0 0, .bool false, .string ⟨#[]⟩] 27)) (w5.heap.size) w6.heap.size (setW t l) ra3 rc3 wa3 wc3) := TA.out.below hba
        clear hba
        have BOX : Hid (Bx (w6.alloc (.cells #[.int .i64 0, .int .i64 0, .int .i64 0, .int .i64 0, .slice none 0 0, .slice none 0 0, .bool false, .string ⟨#[]⟩] 27)) (w6.heap.size) [.int .i64 0, .int .i64 0, .int .i64 0, .int .i64 0, .slice none 0 0, .slice none 0 0, .bool false, .string ⟨#[]⟩]) := Bx.new w6 [.int .i64 0, .int .i64 0, .int .i64 0, .int .i64 0, .slice none 0 0, .slice none 0 0, .bool false, .string ⟨#[]⟩] 27
        (try go_wp2_with fail)
        refine hK.out _ _ ⟨BX.out.c0, BX.out.c1, BX.out.c2, BX.out.c3, BX.out.c4, BX.out.c5, BX.out.c6, BX.out.c7, BR.out.c0, BR.out.c1, BR.out.c2⟩ (fun hHeldB => ?_)
        clear hK K
        refine wpAnyH_ready (rs := [8]) (by kernel_rfl) (by simp) ?_
        refine AllReadyH.cons rfl (fun K hK => ?_) AllReadyH.nil
        go_simp
        have hbn : Below w6.heap.size w6 (w6.alloc (.cells #[.int .i64 t.id, .int .i64 t.st, .int .i64 t.snap, .int .i64 t.cs, .slice ra3 t.rs.length rc3, .slice wa3 l.length wc3, .bool t.out, .string t.nm] 27)) := (belowRefl _).alloc (Nat.le_refl _) _
        have BXs := hide0 (BXq.out.below hbn)
        have BRs := hide0 (BRq.out.below hbn)
        refine hK.out _ _ ⟨BXs.out.c0, BXs.out.c1, BXs.out.c2, BXs.out.c3, BXs.out.c4, BXs.out.c5, BXs.out.c6, BXs.out.c7, BRs.out.c0, BRs.out.c1, BRs.out.c2⟩ (fun hHeldS => ?_)
        clear hK K
        (refine wpAnyH_take (i := 9) (v := ?_) rfl (by kernel_rfl) (by kernel_rfl) (by kernel_rfl) (fun _ _ _ h => h) (Or.inl ⟨by rfl, ?_⟩) (by assumption) ?_; rotate_left; (focus (intro w hSw; (try dsimp only at hSw); go_simp; (try with_reducible rfl); done)); simp only [Act.put, List.getElem_toArray, List.getElem_cons_zero, List.getElem_cons_succ, List.setIfInBounds_toArray, List.set_cons_zero, List.set_cons_succ])
        refine wpAnyH_done (by kernel_rfl) ?_ _
        have OB : Hid (Bx (w6.alloc (.cells #[.int .i64 t.id, .int .i64 t.st, .int .i64 t.snap, .int .i64 t.cs, .slice ra3 t.rs.length rc3, .slice wa3 l.length wc3, .bool t.out, .string t.nm] 27)) (w6.heap.size) [.int .i64 t.id, .int .i64 t.st, .int .i64 t.snap, .int .i64 t.cs, .slice ra3 t.rs.length rc3, .slice wa3 l.length wc3, .bool t.out, .string t.nm]) := Bx.new w6 [.int .i64 t.id, .int .i64 t.st, .int .i64 t.snap, .int .i64 t.cs, .slice ra3 t.rs.length rc3, .slice wa3 l.length wc3, .bool t.out, .string t.nm] 27
        have TT : Hid (TLie (w6.alloc (.cells #[.int .i64 t.id, .int .i64 t.st, .int .i64 t.snap, .int .i64 t.cs, .slice ra3 t.rs.length rc3, .slice wa3 l.length wc3, .bool t.out, .string t.nm] 27)) (w5.heap.size) (w6.heap.size) (setW t l) ra3 rc3 wa3 wc3) := TAq.out.below hbn
        have NN : Hid (Below (wL.heap.size) wL (w6.alloc (.cells #[.int .i64 t.id, .int .i64 t.st, .int .i64 t.snap, .int .i64 t.cs, .slice ra3 t.rs.length rc3, .slice wa3 l.length wc3, .bool t.out, .string t.nm] 27))) := HNq.out.trans (hbn.mono HNq.out.size)
        have SS : Hid ((w6.alloc (.cells #[.int .i64 t.id, .int .i64 t.st, .int .i64 t.snap, .int .i64 t.cs, .slice ra3 t.rs.length rc3, .slice wa3 l.length wc3, .bool t.out, .string t.nm] 27)).heap.size = w6.heap.size + 1) := World.size_alloc _ _
        clear hbn
        go_wp2_with fail
        go_meet
        exact ⟨w6.heap.size, w5.heap.size, w6.heap.size, ra3, wa3, rc3, wc3, rfl, rfl, (by show _ ∧ _; have := Z1.out; have := Z2.out; have := Z3.out; have := ZZ1.out; have := Z4.out; have := ZwL.out; have := Z5.out; have := Z6.out; have := SS.out; omega), OB, TT, NN⟩
      · go_simp
        have hba : Below w5.heap.size w5 (w5.alloc (.cells #[.int .i64 0, .int .i64 0, .int .i64 0, .int .i64 0, .slice none 0 0, .slice none 0 0, .bool false, .string ⟨#[]⟩] 27)) := (belowRefl _).alloc (Nat.le_refl _) _
        replace BA : Hid (Bx (w5.alloc (.cells #[.int .i64 0, .int .i64 0, .int .i64 0, .int .i64 0, .slice none 0 0, .slice none 0 0, .bool false, .string ⟨#[]⟩] 27)) (w.heap.size) [.int .i64 t.id, .int .i64 t.st, .int .i64 t.snap, .int .i64 t.cs, .slice ra t.rs.length rc, .slice wa t.ws.length wc, .bool t.out, .string t.nm]) := BA.out.below hba
        replace BR : Hid (Bx (w5.alloc (.cells #[.int .i64 0, .int .i64 0, .int .i64 0, .int .i64 0, .slice none 0 0, .slice none 0 0, .bool false, .string ⟨#[]⟩] 27)) (w.heap.size + 1) [.string x.1, .string x.2.1, .bool x.2.2]) := BR.out.below hba
        replace HB : Hid (Below w.heap.size w (w5.alloc (.cells #[.int .i64 0, .int .i64 0, .int .i64 0, .int .i64 0, .slice none 0 0, .slice none 0 0, .bool false, .string ⟨#[]⟩] 27))) := HB.out.trans (hba.mono HB.out.size)
        replace TR : Hid (TRow (w5.alloc (.cells #[.int .i64 0, .int .i64 0, .int .i64 0, .int .i64 0, .slice none 0 0, .slice none 0 0, .bool false, .string ⟨#[]⟩] 27)) t ra wa) := HP.out.row.below HB.out
        replace OB1 : Hid (Bx (w5.alloc (.cells #[.int .i64 0, .int .i64 0, .int .i64 0, .int .i64 0, .slice none 0 0, .slice none 0 0, .bool false, .string ⟨#[]⟩] 27)) (ob1) [.int .i64 t.id, .int .i64 t.st, .int .i64 t.snap, .int .i64 t.cs, .slice ra1 t.rs.length rc1, .slice wa1 l.length wc1, .bool t.out, .string t.nm]) := OB1.out.below hba
        replace TT1 : Hid (TLie (w5.alloc (.cells #[.int .i64 0, .int .i64 0, .int .i64 0, .int .i64 0, .slice none 0 0, .slice none 0 0, .bool false, .string ⟨#[]⟩] 27)) (lo1) (hi1) (setW t l) ra1 rc1 wa1 wc1) := TT1.out.below hba
        replace T2 : Hid (TLie (w5.alloc (.cells #[.int .i64 0, .int .i64 0, .int .i64 0, .int .i64 0, .slice none 0 0, .slice none 0 0, .bool false, .string ⟨#[]⟩] 27)) (w3.heap.size) w4.heap.size t pa2 pc2 qa2 qc2) := T2.out.below hba
        replace BX : Hid (Bx (w5.alloc (.cells #[.int .i64 0, .int .i64 0, .int .i64 0, .int .i64 0, .slice none 0 0, .slice none 0 0, .bool false, .string ⟨#[]⟩] 27)) (w4.heap.size) [.int .i64 t.id, .int .i64 t.st, .int .i64 t.snap, .int .i64 t.cs, .slice pa2 t.rs.length pc2, .slice qa2 t.ws.length qc2, .bool t.out, .string t.nm]) := BX.out.below hba
        replace HN : Hid (Below (wL.heap.size) wL (w5.alloc (.cells #[.int .i64 0, .int .i64 0, .int .i64 0, .int .i64 0, .slice none 0 0, .slice none 0 0, .bool false, .string ⟨#[]⟩] 27))) := HN.out.trans (hba.mono HN.out.size)
        clear hba
        have BOX : Hid (Bx (w5.alloc (.cells #[.int .i64 0, .int .i64 0, .int .i64 0, .int .i64 0, .slice none 0 0, .slice none 0 0, .bool false, .string ⟨#[]⟩] 27)) (w5.heap.size) [.int .i64 0, .int .i64 0, .int .i64 0, .int .i64 0, .slice none 0 0, .slice none 0 0, .bool false, .string ⟨#[]⟩]) := Bx.new w5 [.int .i64 0, .int .i64 0, .int .i64 0, .int .i64 0, .slice none 0 0, .slice none 0 0, .bool false, .string ⟨#[]⟩] 27
        (try go_wp2_with fail)
        refine hK.out _ _ ⟨BX.out.c0, BX.out.c1, BX.out.c2, BX.out.c3, BX.out.c4, BX.out.c5, BX.out.c6, BX.out.c7, BR.out.c0, BR.out.c1, BR.out.c2⟩ (fun hHeldB => ?_)
        clear hK K
        refine wpAnyH_ready (rs := [3]) (by kernel_rfl) (by simp) ?_
        refine AllReadyH.cons rfl (fun K hK => ?_) AllReadyH.nil
        go_simp
        go_wp2_with fail
        refine (CI.out pa2 pc2 qa2 qc2 _ T2.out.row).mono ?_
        rintro e w6 ⟨ra3, rc3, wa3, wc3, rfl, hl, hb6⟩
        have Z6 : Hid (w5.heap.size + 1 ≤ w6.heap.size) := by show _ ≤ _; have h := hb6.size; simpa using h
        replace BA : Hid (Bx w6 (w.heap.size) [.int .i64 t.id, .int .i64 t.st, .int .i64 t.snap, .int .i64 t.cs, .slice ra t.rs.length rc, .slice wa t.ws.length wc, .bool t.out, .string t.nm]) := BA.out.below hb6
        replace BR : Hid (Bx w6 (w.heap.size + 1) [.string x.1, .string x.2.1, .bool x.2.2]) := BR.out.below hb6
        replace HB : Hid (Below w.heap.size w w6) := HB.out.trans (hb6.mono HB.out.size)
        replace TR : Hid (TRow w6 t ra wa) := HP.out.row.below HB.out
        replace OB1 : Hid (Bx w6 (ob1) [.int .i64 t.id, .int .i64 t.st, .int .i64 t.snap, .int .i64 t.cs, .slice ra1 t.rs.length rc1, .slice wa1 l.length wc1, .bool t.out, .string t.nm]) := OB1.out.below hb6
        replace TT1 : Hid (TLie w6 (lo1) (hi1) (setW t l) ra1 rc1 wa1 wc1) := TT1.out.below hb6
        replace T2 : Hid (TLie w6 (w3.heap.size) w4.heap.size t pa2 pc2 qa2 qc2) := T2.out.below hb6
        replace BX : Hid (Bx w6 (w4.heap.size) [.int .i64 t.id, .int .i64 t.st, .int .i64 t.snap, .int .i64 t.cs, .slice pa2 t.rs.length pc2, .slice qa2 t.ws.length qc2, .bool t.out, .string t.nm]) := BX.out.below hb6
        replace HN : Hid (Below (wL.heap.size) wL w6) := HN.out.trans (hb6.mono HN.out.size)
        replace BOX : Hid (Bx w6 (w5.heap.size) [.int .i64 0, .int .i64 0, .int .i64 0, .int .i64 0, .slice none 0 0, .slice none 0 0, .bool false, .string ⟨#[]⟩]) := BOX.out.below hb6
        have TA : Hid (TLie w6 (w5.heap.size + 1) w6.heap.size (setW t l) ra3 rc3 wa3 wc3) := (by show TLie _ _ _ _ _ _ _ _; simpa using hl)
        clear hl
        go_wp2_with fail
        refine hK.out _ _ ⟨BX.out.c0, BX.out.c1, BX.out.c2, BX.out.c3, BX.out.c4, BX.out.c5, BX.out.c6, BX.out.c7, BR.out.c0, BR.out.c1, BR.out.c2⟩ (fun hHeld6 => ?_)
        clear hK K hb6
        (refine wpAnyH_take (i := 4) (v := ?_) rfl (by kernel_rfl) (by kernel_rfl) (by kernel_rfl) (fun _ _ _ h => h) (Or.inl ⟨by rfl, ?_⟩) (by assumption) ?_; rotate_left; (focus (intro w hSw; (try dsimp only at hSw); go_simp; (try with_reducible rfl); done)); simp only [Act.put, List.getElem_toArray, List.getElem_cons_zero, List.getElem_cons_succ, List.setIfInBounds_toArray, List.set_cons_zero, List.set_cons_succ])
        (refine wpAnyH_take (i := 5) (v := ?_) rfl (by kernel_rfl) (by kernel_rfl) (by kernel_rfl) (fun _ _ _ h => h) (Or.inl ⟨by rfl, ?_⟩) (by assumption) ?_; rotate_left; (focus (intro w hSw; (try dsimp only at hSw); go_simp; (try with_reducible rfl); done)); simp only [Act.put, List.getElem_toArray, List.getElem_cons_zero, List.getElem_cons_succ, List.setIfInBounds_toArray, List.set_cons_zero, List.set_cons_succ])
        (refine wpAnyH_take (i := 6) (v := ?_) rfl (by kernel_rfl) (by kernel_rfl) (by kernel_rfl) (fun _ _ _ h => h) (Or.inl ⟨by rfl, ?_⟩) (by assumption) ?_; rotate_left; (focus (intro w hSw; (try dsimp only at hSw); go_simp; (try with_reducible rfl); done)); simp only [Act.put, List.getElem_toArray, List.getElem_cons_zero, List.getElem_cons_succ, List.setIfInBounds_toArray, List.set_cons_zero, List.set_cons_succ])
        have zc0 := BOX.out.c0
        have zc1 := BOX.out.c1
        have zc2 := BOX.out.c2
        have zc3 := BOX.out.c3
        have zc4 := BOX.out.c4
        have zc5 := BOX.out.c5
        have zc6 := BOX.out.c6
        have zc7 := BOX.out.c7
        have zf := BOX.out.fz
        refine wpAnyH_ready (rs := [8]) (by kernel_rfl) (by simp) ?_
        refine AllReadyH.cons rfl (fun K hK => ?_) AllReadyH.nil
        go_simp
        have hneBX : w5.heap.size ≠ w4.heap.size := by have := Z1.out; have := Z2.out; have := Z3.out; have := ZZ1.out; have := Z4.out; have := ZwL.out; have := Z5.out; have := Z6.out; omega
        have BXs := hide0 (BX.out.o8 hneBX (.int .i64 t.id) (.int .i64 t.st) (.int .i64 t.snap) (.int .i64 t.cs) (.slice ra3 t.rs.length rc3) (.slice wa3 l.length wc3) (.bool t.out) (.string t.nm))
        have hneBR : w5.heap.size ≠ w.heap.size + 1 := by have := Z1.out; have := Z2.out; have := Z3.out; have := ZZ1.out; have := Z4.out; have := ZwL.out; have := Z5.out; have := Z6.out; omega
        have BRs := hide0 (BR.out.o8 hneBR (.int .i64 t.id) (.int .i64 t.st) (.int .i64 t.snap) (.int .i64 t.cs) (.slice ra3 t.rs.length rc3) (.slice wa3 l.length wc3) (.bool t.out) (.string t.nm))
        refine hK.out _ _ ⟨BXs.out.c0, BXs.out.c1, BXs.out.c2, BXs.out.c3, BXs.out.c4, BXs.out.c5, BXs.out.c6, BXs.out.c7, BRs.out.c0, BRs.out.c1, BRs.out.c2⟩ (fun hHeldS => ?_)
        clear hK K zc0 zc1 zc2 zc3 zc4 zc5 zc6 zc7 zf
        (refine wpAnyH_take (i := 9) (v := ?_) rfl (by kernel_rfl) (by kernel_rfl) (by kernel_rfl) (fun _ _ _ h => h) (Or.inl ⟨by rfl, ?_⟩) (by assumption) ?_; rotate_left; (focus (intro w hSw; (try dsimp only at hSw); go_simp; (try with_reducible rfl); done)); simp only [Act.put, List.getElem_toArray, List.getElem_cons_zero, List.getElem_cons_succ, List.setIfInBounds_toArray, List.set_cons_zero, List.set_cons_succ])
        refine wpAnyH_done (by kernel_rfl) ?_ _
        have OB : Hid (Bx ((((((((w6.setCell ⟨w5.heap.size, 0, none⟩ (.int .i64 t.id)).setCell ⟨w5.heap.size, 1, none⟩ (.int .i64 t.st)).setCell ⟨w5.heap.size, 2, none⟩ (.int .i64 t.snap)).setCell ⟨w5.heap.size, 3, none⟩ (.int .i64 t.cs)).setCell ⟨w5.heap.size, 4, none⟩ (.slice ra3 t.rs.length rc3)).setCell ⟨w5.heap.size, 5, none⟩ (.slice wa3 l.length wc3)).setCell ⟨w5.heap.size, 6, none⟩ (.bool t.out)).setCell ⟨w5.heap.size, 7, none⟩ (.string t.nm)) (w5.heap.size) [.int .i64 t.id, .int .i64 t.st, .int .i64 t.snap, .int .i64 t.cs, .slice ra3 t.rs.length rc3, .slice wa3 l.length wc3, .bool t.out, .string t.nm]) := BOX.out.s8 (.int .i64 t.id) (.int .i64 t.st) (.int .i64 t.snap) (.int .i64 t.cs) (.slice ra3 t.rs.length rc3) (.slice wa3 l.length wc3) (.bool t.out) (.string t.nm)
        have hnz : w5.heap.size < w5.heap.size + 1 ∨ w6.heap.size ≤ w5.heap.size := by have := Z1.out; have := Z2.out; have := Z3.out; have := ZZ1.out; have := Z4.out; have := ZwL.out; have := Z5.out; have := Z6.out; omega
        have TT : Hid (TLie ((((((((w6.setCell ⟨w5.heap.size, 0, none⟩ (.int .i64 t.id)).setCell ⟨w5.heap.size, 1, none⟩ (.int .i64 t.st)).setCell ⟨w5.heap.size, 2, none⟩ (.int .i64 t.snap)).setCell ⟨w5.heap.size, 3, none⟩ (.int .i64 t.cs)).setCell ⟨w5.heap.size, 4, none⟩ (.slice ra3 t.rs.length rc3)).setCell ⟨w5.heap.size, 5, none⟩ (.slice wa3 l.length wc3)).setCell ⟨w5.heap.size, 6, none⟩ (.bool t.out)).setCell ⟨w5.heap.size, 7, none⟩ (.string t.nm)) (w5.heap.size + 1) (w6.heap.size) (setW t l) ra3 rc3 wa3 wc3) := TA.out.s8 hnz (.int .i64 t.id) (.int .i64 t.st) (.int .i64 t.snap) (.int .i64 t.cs) (.slice ra3 t.rs.length rc3) (.slice wa3 l.length wc3) (.bool t.out) (.string t.nm)
        have hno : wL.heap.size ≤ w5.heap.size := by have := Z1.out; have := Z2.out; have := Z3.out; have := ZZ1.out; have := Z4.out; have := ZwL.out; have := Z5.out; have := Z6.out; omega
        have NN : Hid (Below (wL.heap.size) wL ((((((((w6.setCell ⟨w5.heap.size, 0, none⟩ (.int .i64 t.id)).setCell ⟨w5.heap.size, 1, none⟩ (.int .i64 t.st)).setCell ⟨w5.heap.size, 2, none⟩ (.int .i64 t.snap)).setCell ⟨w5.heap.size, 3, none⟩ (.int .i64 t.cs)).setCell ⟨w5.heap.size, 4, none⟩ (.slice ra3 t.rs.length rc3)).setCell ⟨w5.heap.size, 5, none⟩ (.slice wa3 l.length wc3)).setCell ⟨w5.heap.size, 6, none⟩ (.bool t.out)).setCell ⟨w5.heap.size, 7, none⟩ (.string t.nm))) := below_s8 HN.out hno (.int .i64 t.id) (.int .i64 t.st) (.int .i64 t.snap) (.int .i64 t.cs) (.slice ra3 t.rs.length rc3) (.slice wa3 l.length wc3) (.bool t.out) (.string t.nm)
        have SS : Hid (((((((((w6.setCell ⟨w5.heap.size, 0, none⟩ (.int .i64 t.id)).setCell ⟨w5.heap.size, 1, none⟩ (.int .i64 t.st)).setCell ⟨w5.heap.size, 2, none⟩ (.int .i64 t.snap)).setCell ⟨w5.heap.size, 3, none⟩ (.int .i64 t.cs)).setCell ⟨w5.heap.size, 4, none⟩ (.slice ra3 t.rs.length rc3)).setCell ⟨w5.heap.size, 5, none⟩ (.slice wa3 l.length wc3)).setCell ⟨w5.heap.size, 6, none⟩ (.bool t.out)).setCell ⟨w5.heap.size, 7, none⟩ (.string t.nm)).heap.size = w6.heap.size) := by show _ = _; simp [World.setCell]
        go_wp2_with fail
        go_meet
        exact ⟨w5.heap.size, w5.heap.size + 1, w6.heap.size, ra3, wa3, rc3, wc3, rfl, rfl, (by show _ ∧ _; have := Z1.out; have := Z2.out; have := Z3.out; have := ZZ1.out; have := Z4.out; have := ZwL.out; have := Z5.out; have := Z6.out; have := SS.out; omega), OB, TT, NN⟩
    · go_simp
      have hba : Below wL.heap.size wL (wL.alloc (.cells #[.int .i64 0, .int .i64 0, .int .i64 0, .int .i64 0, .slice none 0 0, .slice none 0 0, .bool false, .string ⟨#[]⟩] 27)) := (belowRefl _).alloc (Nat.le_refl _) _
      replace BA : Hid (Bx (wL.alloc (.cells #[.int .i64 0, .int .i64 0, .int .i64 0, .int .i64 0, .slice none 0 0, .slice none 0 0, .bool false, .string ⟨#[]⟩] 27)) (w.heap.size) [.int .i64 t.id, .int .i64 t.st, .int .i64 t.snap, .int .i64 t.cs, .slice ra t.rs.length rc, .slice wa t.ws.length wc, .bool t.out, .string t.nm]) := BA.out.below hba
      replace BR : Hid (Bx (wL.alloc (.cells #[.int .i64 0, .int .i64 0, .int .i64 0, .int .i64 0, .slice none 0 0, .slice none 0 0, .bool false, .string ⟨#[]⟩] 27)) (w.heap.size + 1) [.string x.1, .string x.2.1, .bool x.2.2]) := BR.out.below hba
      replace HB : Hid (Below w.heap.size w (wL.alloc (.cells #[.int .i64 0, .int .i64 0, .int .i64 0, .int .i64 0, .slice none 0 0, .slice none 0 0, .bool false, .string ⟨#[]⟩] 27))) := HB.out.trans (hba.mono HB.out.size)
      replace TR : Hid (TRow (wL.alloc (.cells #[.int .i64 0, .int .i64 0, .int .i64 0, .int .i64 0, .slice none 0 0, .slice none 0 0, .bool false, .string ⟨#[]⟩] 27)) t ra wa) := HP.out.row.below HB.out
      replace OB1 : Hid (Bx (wL.alloc (.cells #[.int .i64 0, .int .i64 0, .int .i64 0, .int .i64 0, .slice none 0 0, .slice none 0 0, .bool false, .string ⟨#[]⟩] 27)) (ob1) [.int .i64 t.id, .int .i64 t.st, .int .i64 t.snap, .int .i64 t.cs, .slice ra1 t.rs.length rc1, .slice wa1 l.length wc1, .bool t.out, .string t.nm]) := OB1.out.below hba
      replace TT1 : Hid (TLie (wL.alloc (.cells #[.int .i64 0, .int .i64 0, .int .i64 0, .int .i64 0, .slice none 0 0, .slice none 0 0, .bool false, .string ⟨#[]⟩] 27)) (lo1) (hi1) (setW t l) ra1 rc1 wa1 wc1) := TT1.out.below hba
      replace T2 : Hid (TLie (wL.alloc (.cells #[.int .i64 0, .int .i64 0, .int .i64 0, .int .i64 0, .slice none 0 0, .slice none 0 0, .bool false, .string ⟨#[]⟩] 27)) (w3.heap.size) w4.heap.size t pa2 pc2 qa2 qc2) := T2.out.below hba
      replace BX : Hid (Bx (wL.alloc (.cells #[.int .i64 0, .int .i64 0, .int .i64 0, .int .i64 0, .slice none 0 0, .slice none 0 0, .bool false, .string ⟨#[]⟩] 27)) (w4.heap.size) [.int .i64 t.id, .int .i64 t.st, .int .i64 t.snap, .int .i64 t.cs, .slice pa2 t.rs.length pc2, .slice qa2 t.ws.length qc2, .bool t.out, .string t.nm]) := BX.out.below hba
      replace HN : Hid (Below (wL.heap.size) wL (wL.alloc (.cells #[.int .i64 0, .int .i64 0, .int .i64 0, .int .i64 0, .slice none 0 0, .slice none 0 0, .bool false, .string ⟨#[]⟩] 27))) := HN.out.trans (hba.mono HN.out.size)
      clear hba
      have BOX : Hid (Bx (wL.alloc (.cells #[.int .i64 0, .int .i64 0, .int .i64 0, .int .i64 0, .slice none 0 0, .slice none 0 0, .bool false, .string ⟨#[]⟩] 27)) (wL.heap.size) [.int .i64 0, .int .i64 0, .int .i64 0, .int .i64 0, .slice none 0 0, .slice none 0 0, .bool false, .string ⟨#[]⟩]) := Bx.new wL [.int .i64 0, .int .i64 0, .int .i64 0, .int .i64 0, .slice none 0 0, .slice none 0 0, .bool false, .string ⟨#[]⟩] 27
      (try go_wp2_with fail)
      refine hK.out _ _ ⟨BX.out.drew.c0, BX.out.drew.c1, BX.out.drew.c2, BX.out.drew.c3, BX.out.drew.c4, BX.out.drew.c5, BX.out.drew.c6, BX.out.drew.c7, BR.out.drew.c0, BR.out.drew.c1, BR.out.drew.c2⟩ (fun hHeldB => ?_)
      clear hK K
      refine wpAnyH_ready (rs := [2]) (by kernel_rfl) (by simp) ?_
      refine AllReadyH.cons rfl (fun K hK => ?_) AllReadyH.nil
      go_simp
      go_wp2_with fail
      refine (TW.out _).mono ?_
      rintro e w5 ⟨rfl, hb5⟩
      have hbu5 := undrew hb5
      have Z5 : Hid (wL.heap.size + 1 ≤ w5.heap.size) := by show _ ≤ _; have h := hbu5.size; simpa using h
      replace BA : Hid (Bx w5 (w.heap.size) [.int .i64 t.id, .int .i64 t.st, .int .i64 t.snap, .int .i64 t.cs, .slice ra t.rs.length rc, .slice wa t.ws.length wc, .bool t.out, .string t.nm]) := BA.out.below hbu5
      replace BR : Hid (Bx w5 (w.heap.size + 1) [.string x.1, .string x.2.1, .bool x.2.2]) := BR.out.below hbu5
      replace HB : Hid (Below w.heap.size w w5) := HB.out.trans (hbu5.mono HB.out.size)
      replace TR : Hid (TRow w5 t ra wa) := HP.out.row.below HB.out
      replace OB1 : Hid (Bx w5 (ob1) [.int .i64 t.id, .int .i64 t.st, .int .i64 t.snap, .int .i64 t.cs, .slice ra1 t.rs.length rc1, .slice wa1 l.length wc1, .bool t.out, .string t.nm]) := OB1.out.below hbu5
      replace TT1 : Hid (TLie w5 (lo1) (hi1) (setW t l) ra1 rc1 wa1 wc1) := TT1.out.below hbu5
      replace T2 : Hid (TLie w5 (w3.heap.size) w4.heap.size t pa2 pc2 qa2 qc2) := T2.out.below hbu5
      replace BX : Hid (Bx w5 (w4.heap.size) [.int .i64 t.id, .int .i64 t.st, .int .i64 t.snap, .int .i64 t.cs, .slice pa2 t.rs.length pc2, .slice qa2 t.ws.length qc2, .bool t.out, .string t.nm]) := BX.out.below hbu5
      replace HN : Hid (Below (wL.heap.size) wL w5) := HN.out.trans (hbu5.mono HN.out.size)
      replace BOX : Hid (Bx w5 (wL.heap.size) [.int .i64 0, .int .i64 0, .int .i64 0, .int .i64 0, .slice none 0 0, .slice none 0 0, .bool false, .string ⟨#[]⟩]) := BOX.out.below hbu5
      go_wp2_with fail
      refine hK.out _ _ ⟨BX.out.c0, BX.out.c1, BX.out.c2, BX.out.c3, BX.out.c4, BX.out.c5, BX.out.c6, BX.out.c7, BR.out.c0, BR.out.c1, BR.out.c2⟩ (fun hHeld5 => ?_)
      clear hK K hb5 hbu5
      refine wpAnyH_ready (rs := [3]) (by kernel_rfl) (by simp) ?_
      refine AllReadyH.cons rfl (fun K hK => ?_) AllReadyH.nil
      go_simp
      go_wp2_with fail
      refine (CI.out pa2 pc2 qa2 qc2 _ T2.out.row).mono ?_
      rintro e w6 ⟨ra3, rc3, wa3, wc3, rfl, hl, hb6⟩
      have Z6 : Hid (w5.heap.size ≤ w6.heap.size) := by show _ ≤ _; have h := hb6.size; simpa using h
      replace BA : Hid (Bx w6 (w.heap.size) [.int .i64 t.id, .int .i64 t.st, .int .i64 t.snap, .int .i64 t.cs, .slice ra t.rs.length rc, .slice wa t.ws.length wc, .bool t.out, .string t.nm]) := BA.out.below hb6
      replace BR : Hid (Bx w6 (w.heap.size + 1) [.string x.1, .string x.2.1, .bool x.2.2]) := BR.out.below hb6
      replace HB : Hid (Below w.heap.size w w6) := HB.out.trans (hb6.mono HB.out.size)
      replace TR : Hid (TRow w6 t ra wa) := HP.out.row.below HB.out
      replace OB1 : Hid (Bx w6 (ob1) [.int .i64 t.id, .int .i64 t.st, .int .i64 t.snap, .int .i64 t.cs, .slice ra1 t.rs.length rc1, .slice wa1 l.length wc1, .bool t.out, .string t.nm]) := OB1.out.below hb6
      replace TT1 : Hid (TLie w6 (lo1) (hi1) (setW t l) ra1 rc1 wa1 wc1) := TT1.out.below hb6
      replace T2 : Hid (TLie w6 (w3.heap.size) w4.heap.size t pa2 pc2 qa2 qc2) := T2.out.below hb6
      replace BX : Hid (Bx w6 (w4.heap.size) [.int .i64 t.id, .int .i64 t.st, .int .i64 t.snap, .int .i64 t.cs, .slice pa2 t.rs.length pc2, .slice qa2 t.ws.length qc2, .bool t.out, .string t.nm]) := BX.out.below hb6
      replace HN : Hid (Below (wL.heap.size) wL w6) := HN.out.trans (hb6.mono HN.out.size)
      replace BOX : Hid (Bx w6 (wL.heap.size) [.int .i64 0, .int .i64 0, .int .i64 0, .int .i64 0, .slice none 0 0, .slice none 0 0, .bool false, .string ⟨#[]⟩]) := BOX.out.below hb6
      have TA : Hid (TLie w6 (w5.heap.size) w6.heap.size (setW t l) ra3 rc3 wa3 wc3) := hl
      clear hl
      go_wp2_with fail
      refine hK.out _ _ ⟨BX.out.c0, BX.out.c1, BX.out.c2, BX.out.c3, BX.out.c4, BX.out.c5, BX.out.c6, BX.out.c7, BR.out.c0, BR.out.c1, BR.out.c2⟩ (fun hHeld6 => ?_)
      clear hK K hb6
      (refine wpAnyH_take (i := 4) (v := ?_) rfl (by kernel_rfl) (by kernel_rfl) (by kernel_rfl) (fun _ _ _ h => h) (Or.inl ⟨by rfl, ?_⟩) (by assumption) ?_; rotate_left; (focus (intro w hSw; (try dsimp only at hSw); go_simp; (try with_reducible rfl); done)); simp only [Act.put, List.getElem_toArray, List.getElem_cons_zero, List.getElem_cons_succ, List.setIfInBounds_toArray, List.set_cons_zero, List.set_cons_succ])
      (refine wpAnyH_take (i := 5) (v := ?_) rfl (by kernel_rfl) (by kernel_rfl) (by kernel_rfl) (fun _ _ _ h => h) (Or.inl ⟨by rfl, ?_⟩) (by assumption) ?_; rotate_left; (focus (intro w hSw; (try dsimp only at hSw); go_simp; (try with_reducible rfl); done)); simp only [Act.put, List.getElem_toArray, List.getElem_cons_zero, List.getElem_cons_succ, List.setIfInBounds_toArray, List.set_cons_zero, List.set_cons_succ])
      (refine wpAnyH_take (i := 6) (v := ?_) rfl (by kernel_rfl) (by kernel_rfl) (by kernel_rfl) (fun _ _ _ h => h) (Or.inl ⟨by rfl, ?_⟩) (by assumption) ?_; rotate_left; (focus (intro w hSw; (try dsimp only at hSw); go_simp; (try with_reducible rfl); done)); simp only [Act.put, List.getElem_toArray, List.getElem_cons_zero, List.getElem_cons_succ, List.setIfInBounds_toArray, List.set_cons_zero, List.set_cons_succ])
      have zc0 := BOX.out.c0
      have zc1 := BOX.out.c1
      have zc2 := BOX.out.c2
      have zc3 := BOX.out.c3
      have zc4 := BOX.out.c4
      have zc5 := BOX.out.c5
      have zc6 := BOX.out.c6
      have zc7 := BOX.out.c7
      have zf := BOX.out.fz
      refine wpAnyH_ready (rs := [8]) (by kernel_rfl) (by simp) ?_
      refine AllReadyH.cons rfl (fun K hK => ?_) AllReadyH.nil
      go_simp
      have hneBX : wL.heap.size ≠ w4.heap.size := by have := Z1.out; have := Z2.out; have := Z3.out; have := ZZ1.out; have := Z4.out; have := ZwL.out; have := Z5.out; have := Z6.out; omega
      have BXs := hide0 (BX.out.o8 hneBX (.int .i64 t.id) (.int .i64 t.st) (.int .i64 t.snap) (.int .i64 t.cs) (.slice ra3 t.rs.length rc3) (.slice wa3 l.length wc3) (.bool t.out) (.string t.nm))
      have hneBR : wL.heap.size ≠ w.heap.size + 1 := by have := Z1.out; have := Z2.out; have := Z3.out; have := ZZ1.out; have := Z4.out; have := ZwL.out; have := Z5.out; have := Z6.out; omega
      have BRs := hide0 (BR.out.o8 hneBR (.int .i64 t.id) (.int .i64 t.st) (.int .i64 t.snap) (.int .i64 t.cs) (.slice ra3 t.rs.length rc3) (.slice wa3 l.length wc3) (.bool t.out) (.string t.nm))
      refine hK.out _ _ ⟨BXs.out.c0, BXs.out.c1, BXs.out.c2, BXs.out.c3, BXs.out.c4, BXs.out.c5, BXs.out.c6, BXs.out.c7, BRs.out.c0, BRs.out.c1, BRs.out.c2⟩ (fun hHeldS => ?_)
      clear hK K zc0 zc1 zc2 zc3 zc4 zc5 zc6 zc7 zf
      (refine wpAnyH_take (i := 9) (v := ?_) rfl (by kernel_rfl) (by kernel_rfl) (by kernel_rfl) (fun _ _ _ h => h) (Or.inl ⟨by rfl, ?_⟩) (by assumption) ?_; rotate_left; (focus (intro w hSw; (try dsimp only at hSw); go_simp; (try with_reducible rfl); done)); simp only [Act.put, List.getElem_toArray, List.getElem_cons_zero, List.getElem_cons_succ, List.setIfInBounds_toArray, List.set_cons_zero, List.set_cons_succ])
      refine wpAnyH_done (by kernel_rfl) ?_ _
      have OB : Hid (Bx ((((((((w6.setCell ⟨wL.heap.size, 0, none⟩ (.int .i64 t.id)).setCell ⟨wL.heap.size, 1, none⟩ (.int .i64 t.st)).setCell ⟨wL.heap.size, 2, none⟩ (.int .i64 t.snap)).setCell ⟨wL.heap.size, 3, none⟩ (.int .i64 t.cs)).setCell ⟨wL.heap.size, 4, none⟩ (.slice ra3 t.rs.length rc3)).setCell ⟨wL.heap.size, 5, none⟩ (.slice wa3 l.length wc3)).setCell ⟨wL.heap.size, 6, none⟩ (.bool t.out)).setCell ⟨wL.heap.size, 7, none⟩ (.string t.nm)) (wL.heap.size) [.int .i64 t.id, .int .i64 t.st, .int .i64 t.snap, .int .i64 t.cs, .slice ra3 t.rs.length rc3, .slice wa3 l.length wc3, .bool t.out, .string t.nm]) := BOX.out.s8 (.int .i64 t.id) (.int .i64 t.st) (.int .i64 t.snap) (.int .i64 t.cs) (.slice ra3 t.rs.length rc3) (.slice wa3 l.length wc3) (.bool t.out) (.string t.nm)
      have hnz : wL.heap.size < w5.heap.size ∨ w6.heap.size ≤ wL.heap.size := by have := Z1.out; have := Z2.out; have := Z3.out; have := ZZ1.out; have := Z4.out; have := ZwL.out; have := Z5.out; have := Z6.out; omega
      have TT : Hid (TLie ((((((((w6.setCell ⟨wL.heap.size, 0, none⟩ (.int .i64 t.id)).setCell ⟨wL.heap.size, 1, none⟩ (.int .i64 t.st)).setCell ⟨wL.heap.size, 2, none⟩ (.int .i64 t.snap)).setCell ⟨wL.heap.size, 3, none⟩ (.int .i64 t.cs)).setCell ⟨wL.heap.size, 4, none⟩ (.slice ra3 t.rs.length rc3)).setCell ⟨wL.heap.size, 5, none⟩ (.slice wa3 l.length wc3)).setCell ⟨wL.heap.size, 6, none⟩ (.bool t.out)).setCell ⟨wL.heap.size, 7, none⟩ (.string t.nm)) (w5.heap.size) (w6.heap.size) (setW t l) ra3 rc3 wa3 wc3) := TA.out.s8 hnz (.int .i64 t.id) (.int .i64 t.st) (.int .i64 t.snap) (.int .i64 t.cs) (.slice ra3 t.rs.length rc3) (.slice wa3 l.length wc3) (.bool t.out) (.string t.nm)
      have hno : wL.heap.size ≤ wL.heap.size := by have := Z1.out; have := Z2.out; have := Z3.out; have := ZZ1.out; have := Z4.out; have := ZwL.out; have := Z5.out; have := Z6.out; omega
      have NN : Hid (Below (wL.heap.size) wL ((((((((w6.setCell ⟨wL.heap.size, 0, none⟩ (.int .i64 t.id)).setCell ⟨wL.heap.size, 1, none⟩ (.int .i64 t.st)).setCell ⟨wL.heap.size, 2, none⟩ (.int .i64 t.snap)).setCell ⟨wL.heap.size, 3, none⟩ (.int .i64 t.cs)).setCell ⟨wL.heap.size, 4, none⟩ (.slice ra3 t.rs.length rc3)).setCell ⟨wL.heap.size, 5, none⟩ (.slice wa3 l.length wc3)).setCell ⟨wL.heap.size, 6, none⟩ (.bool t.out)).setCell ⟨wL.heap.size, 7, none⟩ (.string t.nm))) := below_s8 HN.out hno (.int .i64 t.id) (.int .i64 t.st) (.int .i64 t.snap) (.int .i64 t.cs) (.slice ra3 t.rs.length rc3) (.slice wa3 l.length wc3) (.bool t.out) (.string t.nm)
      have SS : Hid (((((((((w6.setCell ⟨wL.heap.size, 0, none⟩ (.int .i64 t.id)).setCell ⟨wL.heap.size, 1, none⟩ (.int .i64 t.st)).setCell ⟨wL.heap.size, 2, none⟩ (.int .i64 t.snap)).setCell ⟨wL.heap.size, 3, none⟩ (.int .i64 t.cs)).setCell ⟨wL.heap.size, 4, none⟩ (.slice ra3 t.rs.length rc3)).setCell ⟨wL.heap.size, 5, none⟩ (.slice wa3 l.length wc3)).setCell ⟨wL.heap.size, 6, none⟩ (.bool t.out)).setCell ⟨wL.heap.size, 7, none⟩ (.string t.nm)).heap.size = w6.heap.size) := by show _ = _; simp [World.setCell]
      go_wp2_with fail
      go_meet
      exact ⟨wL.heap.size, w5.heap.size, w6.heap.size, ra3, wa3, rc3, wc3, rfl, rfl, (by show _ ∧ _; have := Z1.out; have := Z2.out; have := Z3.out; have := ZZ1.out; have := Z4.out; have := ZwL.out; have := Z5.out; have := Z6.out; have := SS.out; omega), OB, TT, NN⟩
  case rest =>
  obtain ⟨ob3, lo3, hi3, ra3, wa3, rc3, wc3, rfl, rfl, ZZ3, OB3, TT3, hbn⟩ := hcut
  obtain ⟨w5, rfl⟩ : ∃ x, x = wc := ⟨_, rfl⟩
  have hb5 : Below wL.heap.size wL w5 := hbn.out
  have Z5 : Hid (wL.heap.size ≤ w5.heap.size) := by show _ ≤ _; have h := hb5.size; simpa using h
  replace BA : Hid (Bx w5 (w.heap.size) [.int .i64 t.id, .int .i64 t.st, .int .i64 t.snap, .int .i64 t.cs, .slice ra t.rs.length rc, .slice wa t.ws.length wc, .bool t.out, .string t.nm]) := BA.out.below hb5
  replace BR : Hid (Bx w5 (w.heap.size + 1) [.string x.1, .string x.2.1, .bool x.2.2]) := BR.out.below hb5
  replace HB : Hid (Below w.heap.size w w5) := HB.out.trans (hb5.mono HB.out.size)
  replace TR : Hid (TRow w5 t ra wa) := HP.out.row.below HB.out
  replace OB1 : Hid (Bx w5 (ob1) [.int .i64 t.id, .int .i64 t.st, .int .i64 t.snap, .int .i64 t.cs, .slice ra1 t.rs.length rc1, .slice wa1 l.length wc1, .bool t.out, .string t.nm]) := OB1.out.below hb5
  replace TT1 : Hid (TLie w5 (lo1) (hi1) (setW t l) ra1 rc1 wa1 wc1) := TT1.out.below hb5
  replace T2 : Hid (TLie w5 (w3.heap.size) w4.heap.size t pa2 pc2 qa2 qc2) := T2.out.below hb5
  replace BX : Hid (Bx w5 (w4.heap.size) [.int .i64 t.id, .int .i64 t.st, .int .i64 t.snap, .int .i64 t.cs, .slice pa2 t.rs.length pc2, .slice qa2 t.ws.length qc2, .bool t.out, .string t.nm]) := BX.out.below hb5
  clear hbn hb5
  have x0 := OB3.out.c0
  have x1 := OB3.out.c1
  have x2 := OB3.out.c2
  have x3 := OB3.out.c3
  have x4 := OB3.out.c4
  have x5 := OB3.out.c5
  have x6 := OB3.out.c6
  have x7 := OB3.out.c7
  have y0 := OB1.out.c0
  have y1 := OB1.out.c1
  have y2 := OB1.out.c2
  have y3 := OB1.out.c3
  have y4 := OB1.out.c4
  have y5 := OB1.out.c5
  have y6 := OB1.out.c6
  have y7 := OB1.out.c7
  go_wp2_with fail
  refine (eqT (setW t l) ra3 wa3 ra1 wa1 rc3 wc3 rc1 wc1 (by show t.rs.length ≤ _; omega) (by show l.length ≤ _; omega) _ TT3.out.row TT1.out.row).mono ?_
  rintro e w6 ⟨rfl, hb6⟩
  have Z6 : Hid (w5.heap.size ≤ w6.heap.size) := by show _ ≤ _; have h := hb6.size; simpa using h
  replace BA : Hid (Bx w6 (w.heap.size) [.int .i64 t.id, .int .i64 t.st, .int .i64 t.snap, .int .i64 t.cs, .slice ra t.rs.length rc, .slice wa t.ws.length wc, .bool t.out, .string t.nm]) := BA.out.below hb6
  replace BR : Hid (Bx w6 (w.heap.size + 1) [.string x.1, .string x.2.1, .bool x.2.2]) := BR.out.below hb6
  replace HB : Hid (Below w.heap.size w w6) := HB.out.trans (hb6.mono HB.out.size)
  replace TR : Hid (TRow w6 t ra wa) := HP.out.row.below HB.out
  replace OB1 : Hid (Bx w6 (ob1) [.int .i64 t.id, .int .i64 t.st, .int .i64 t.snap, .int .i64 t.cs, .slice ra1 t.rs.length rc1, .slice wa1 l.length wc1, .bool t.out, .string t.nm]) := OB1.out.below hb6
  replace TT1 : Hid (TLie w6 (lo1) (hi1) (setW t l) ra1 rc1 wa1 wc1) := TT1.out.below hb6
  replace T2 : Hid (TLie w6 (w3.heap.size) w4.heap.size t pa2 pc2 qa2 qc2) := T2.out.below hb6
  replace BX : Hid (Bx w6 (w4.heap.size) [.int .i64 t.id, .int .i64 t.st, .int .i64 t.snap, .int .i64 t.cs, .slice pa2 t.rs.length pc2, .slice qa2 t.ws.length qc2, .bool t.out, .string t.nm]) := BX.out.below hb6
  replace OB3 : Hid (Bx w6 (ob3) [.int .i64 t.id, .int .i64 t.st, .int .i64 t.snap, .int .i64 t.cs, .slice ra3 t.rs.length rc3, .slice wa3 l.length wc3, .bool t.out, .string t.nm]) := OB3.out.below hb6
  replace TT3 : Hid (TLie w6 (lo3) (hi3) (setW t l) ra3 rc3 wa3 wc3) := TT3.out.below hb6
  clear hb6 x0 x1 x2 x3 x4 x5 x6 x7 y0 y1 y2 y3 y4 y5 y6 y7
  go_wp2
  refine wp_region_held_drew (S := fun w' => w'.cell? ⟨w4.heap.size, 0, none⟩ = some (.int .i64 t.id) ∧ w'.cell? ⟨w4.heap.size, 1, none⟩ = some (.int .i64 t.st) ∧ w'.cell? ⟨w4.heap.size, 2, none⟩ = some (.int .i64 t.snap) ∧ w'.cell? ⟨w4.heap.size, 3, none⟩ = some (.int .i64 t.cs) ∧ w'.cell? ⟨w4.heap.size, 4, none⟩ = some (.slice pa2 t.rs.length pc2) ∧ w'.cell? ⟨w4.heap.size, 5, none⟩ = some (.slice qa2 t.ws.length qc2) ∧ w'.cell? ⟨w4.heap.size, 6, none⟩ = some (.bool t.out) ∧ w'.cell? ⟨w4.heap.size, 7, none⟩ = some (.string t.nm) ∧ w'.cell? ⟨w.heap.size, 0, none⟩ = some (.int .i64 t.id) ∧ w'.cell? ⟨w.heap.size, 1, none⟩ = some (.int .i64 t.st) ∧ w'.cell? ⟨w.heap.size, 2, none⟩ = some (.int .i64 t.snap) ∧ w'.cell? ⟨w.heap.size, 3, none⟩ = some (.int .i64 t.cs) ∧ w'.cell? ⟨w.heap.size, 4, none⟩ = some (.slice ra t.rs.length rc) ∧ w'.cell? ⟨w.heap.size, 5, none⟩ = some (.slice wa t.ws.length wc) ∧ w'.cell? ⟨w.heap.size, 6, none⟩ = some (.bool t.out) ∧ w'.cell? ⟨w.heap.size, 7, none⟩ = some (.string t.nm)) (by kernel_rfl) ⟨BX.out.c0, BX.out.c1, BX.out.c2, BX.out.c3, BX.out.c4, BX.out.c5, BX.out.c6, BX.out.c7, BA.out.c0, BA.out.c1, BA.out.c2, BA.out.c3, BA.out.c4, BA.out.c5, BA.out.c6, BA.out.c7⟩ (fun hHeld => ?_)
  (refine wpAnyH_take (i := 0) (v := ?_) rfl (by kernel_rfl) (by kernel_rfl) (by kernel_rfl) (fun _ _ _ h => h) (Or.inl ⟨by rfl, ?_⟩) (by assumption) ?_; rotate_left; (focus (intro w hSw; (try dsimp only at hSw); go_simp; (try with_reducible rfl); done)); simp only [Act.put, List.getElem_toArray, List.getElem_cons_zero, List.setIfInBounds_toArray, List.set_cons_zero, List.set_cons_succ])
  (refine wpAnyH_take (i := 1) (v := ?_) rfl (by kernel_rfl) (by kernel_rfl) (by kernel_rfl) (fun _ _ _ h => h) (Or.inl ⟨by rfl, ?_⟩) (by assumption) ?_; rotate_left; (focus (intro w hSw; (try dsimp only at hSw); go_simp; (try with_reducible rfl); done)); simp only [Act.put, List.getElem_toArray, List.getElem_cons_zero, List.getElem_cons_succ, List.setIfInBounds_toArray, List.set_cons_zero, List.set_cons_succ])
  refine wpAnyH_ready (rs := [2]) (by kernel_rfl) (by simp) ?_
  refine AllReadyH.cons rfl (fun K hK => ?_) AllReadyH.nil
  go_simp
  go_wp2_with fail
  refine (toT t ra wa rc wc (by omega) (by omega) _ TR.out.drewT).mono ?_
  rintro e w7 ⟨pa5, pc5, qa5, qc5, rfl, hl, hb7⟩
  have hbu7 := undrew hb7
  have Z7 : Hid (w6.heap.size ≤ w7.heap.size) := by show _ ≤ _; have h := hbu7.size; simpa using h
  replace BA : Hid (Bx w7 (w.heap.size) [.int .i64 t.id, .int .i64 t.st, .int .i64 t.snap, .int .i64 t.cs, .slice ra t.rs.length rc, .slice wa t.ws.length wc, .bool t.out, .string t.nm]) := BA.out.below hbu7
  replace BR : Hid (Bx w7 (w.heap.size + 1) [.string x.1, .string x.2.1, .bool x.2.2]) := BR.out.below hbu7
  replace HB : Hid (Below w.heap.size w w7) := HB.out.trans (hbu7.mono HB.out.size)
  replace TR : Hid (TRow w7 t ra wa) := HP.out.row.below HB.out
  replace OB1 : Hid (Bx w7 (ob1) [.int .i64 t.id, .int .i64 t.st, .int .i64 t.snap, .int .i64 t.cs, .slice ra1 t.rs.length rc1, .slice wa1 l.length wc1, .bool t.out, .string t.nm]) := OB1.out.below hbu7
  replace TT1 : Hid (TLie w7 (lo1) (hi1) (setW t l) ra1 rc1 wa1 wc1) := TT1.out.below hbu7
  replace T2 : Hid (TLie w7 (w3.heap.size) w4.heap.size t pa2 pc2 qa2 qc2) := T2.out.below hbu7
  replace BX : Hid (Bx w7 (w4.heap.size) [.int .i64 t.id, .int .i64 t.st, .int .i64 t.snap, .int .i64 t.cs, .slice pa2 t.rs.length pc2, .slice qa2 t.ws.length qc2, .bool t.out, .string t.nm]) := BX.out.below hbu7
  replace OB3 : Hid (Bx w7 (ob3) [.int .i64 t.id, .int .i64 t.st, .int .i64 t.snap, .int .i64 t.cs, .slice ra3 t.rs.length rc3, .slice wa3 l.length wc3, .bool t.out, .string t.nm]) := OB3.out.below hbu7
  replace TT3 : Hid (TLie w7 (lo3) (hi3) (setW t l) ra3 rc3 wa3 wc3) := TT3.out.below hbu7
  have T5 : Hid (TLie w7 (w6.heap.size) w7.heap.size t pa5 pc5 qa5 qc5) := hl
  clear hl
  go_wp2_with fail
  refine hK.out _ _ ⟨BX.out.c0, BX.out.c1, BX.out.c2, BX.out.c3, BX.out.c4, BX.out.c5, BX.out.c6, BX.out.c7, BA.out.c0, BA.out.c1, BA.out.c2, BA.out.c3, BA.out.c4, BA.out.c5, BA.out.c6, BA.out.c7⟩ (fun hHeld7 => ?_)
  clear hK K hb7 hbu7
  refine wpAnyH_ready (rs := [3]) (by kernel_rfl) (by simp) ?_
  refine AllReadyH.cons rfl (fun K hK => ?_) AllReadyH.nil
  go_simp
  go_wp2_with fail
  refine (eqT t pa2 qa2 pa5 qa5 pc2 qc2 pc5 qc5 (by omega) (by omega) _ T2.out.row T5.out.row).mono ?_
  rintro e w8 ⟨rfl, hb8⟩
  have Z8 : Hid (w7.heap.size ≤ w8.heap.size) := by show _ ≤ _; have h := hb8.size; simpa using h
  replace BA : Hid (Bx w8 (w.heap.size) [.int .i64 t.id, .int .i64 t.st, .int .i64 t.snap, .int .i64 t.cs, .slice ra t.rs.length rc, .slice wa t.ws.length wc, .bool t.out, .string t.nm]) := BA.out.below hb8
  replace BR : Hid (Bx w8 (w.heap.size + 1) [.string x.1, .string x.2.1, .bool x.2.2]) := BR.out.below hb8
  replace HB : Hid (Below w.heap.size w w8) := HB.out.trans (hb8.mono HB.out.size)
  replace TR : Hid (TRow w8 t ra wa) := HP.out.row.below HB.out
  replace OB1 : Hid (Bx w8 (ob1) [.int .i64 t.id, .int .i64 t.st, .int .i64 t.snap, .int .i64 t.cs, .slice ra1 t.rs.length rc1, .slice wa1 l.length wc1, .bool t.out, .string t.nm]) := OB1.out.below hb8
  replace TT1 : Hid (TLie w8 (lo1) (hi1) (setW t l) ra1 rc1 wa1 wc1) := TT1.out.below hb8
  replace T2 : Hid (TLie w8 (w3.heap.size) w4.heap.size t pa2 pc2 qa2 qc2) := T2.out.below hb8
  replace BX : Hid (Bx w8 (w4.heap.size) [.int .i64 t.id, .int .i64 t.st, .int .i64 t.snap, .int .i64 t.cs, .slice pa2 t.rs.length pc2, .slice qa2 t.ws.length qc2, .bool t.out, .string t.nm]) := BX.out.below hb8
  replace OB3 : Hid (Bx w8 (ob3) [.int .i64 t.id, .int .i64 t.st, .int .i64 t.snap, .int .i64 t.cs, .slice ra3 t.rs.length rc3, .slice wa3 l.length wc3, .bool t.out, .string t.nm]) := OB3.out.below hb8
  replace TT3 : Hid (TLie w8 (lo3) (hi3) (setW t l) ra3 rc3 wa3 wc3) := TT3.out.below hb8
  replace T5 : Hid (TLie w8 (w6.heap.size) w7.heap.size t pa5 pc5 qa5 qc5) := T5.out.below hb8
  go_wp2_with fail
  refine hK.out _ _ ⟨BX.out.c0, BX.out.c1, BX.out.c2, BX.out.c3, BX.out.c4, BX.out.c5, BX.out.c6, BX.out.c7, BA.out.c0, BA.out.c1, BA.out.c2, BA.out.c3, BA.out.c4, BA.out.c5, BA.out.c6, BA.out.c7⟩ (fun hHeld8 => ?_)
  clear hK K hb8
  (refine wpAnyH_take (i := 4) (v := ?_) rfl (by kernel_rfl) (by kernel_rfl) (by kernel_rfl) (fun _ _ _ h => h) (Or.inl ⟨by rfl, ?_⟩) (by assumption) ?_; rotate_left; (focus (intro w hSw; (try dsimp only at hSw); go_simp; (try with_reducible rfl); done)); simp only [Act.put, List.getElem_toArray, List.getElem_cons_zero, List.getElem_cons_succ, List.setIfInBounds_toArray, List.set_cons_zero, List.set_cons_succ])
  refine wpAnyH_done (by kernel_rfl) ?_ _
  clear T5
  have x0 := BX.out.c0
  have x1 := BX.out.c1
  have x2 := BX.out.c2
  have x3 := BX.out.c3
  have x4 := BX.out.c4
  have x5 := BX.out.c5
  have x6 := BX.out.c6
  have x7 := BX.out.c7
  go_wp2_with fail
  refine (markT t pa2 qa2 pc2 qc2 (w3.heap.size) (w4.heap.size) 1 (by omega) (by omega) (by omega) (by omega) _ (by have := Z1.out; have := Z2.out; have := Z3.out; have := ZZ1.out; have := Z4.out; have := ZwL.out; have := Z5.out; have := ZZ3.out; have := Z6.out; have := Z7.out; have := Z8.out; omega) T2.out).mono ?_
  rintro e w9 ⟨rfl, _, hz9⟩
  have Z9 : Hid (w8.heap.size ≤ w9.heap.size) := hz9.size
  replace BA : Hid (Bx w9 (w.heap.size) [.int .i64 t.id, .int .i64 t.st, .int .i64 t.snap, .int .i64 t.cs, .slice ra t.rs.length rc, .slice wa t.ws.length wc, .bool t.out, .string t.nm]) := BA.out.zn hz9 (by have := Z1.out; have := Z2.out; have := Z3.out; have := ZZ1.out; have := Z4.out; have := ZwL.out; have := Z5.out; have := ZZ3.out; have := Z6.out; have := Z7.out; have := Z8.out; omega)
  replace BR : Hid (Bx w9 (w.heap.size + 1) [.string x.1, .string x.2.1, .bool x.2.2]) := BR.out.zn hz9 (by have := Z1.out; have := Z2.out; have := Z3.out; have := ZZ1.out; have := Z4.out; have := ZwL.out; have := Z5.out; have := ZZ3.out; have := Z6.out; have := Z7.out; have := Z8.out; omega)
  replace HB : Hid (Below w.heap.size w w9) := HB.out.trans (hz9.below (by have := Z1.out; have := Z2.out; have := Z3.out; have := ZZ1.out; have := Z4.out; have := ZwL.out; have := Z5.out; have := ZZ3.out; have := Z6.out; have := Z7.out; have := Z8.out; omega) HB.out.size)
  replace TR : Hid (TRow w9 t ra wa) := HP.out.row.below HB.out
  replace OB1 : Hid (Bx w9 (ob1) [.int .i64 t.id, .int .i64 t.st, .int .i64 t.snap, .int .i64 t.cs, .slice ra1 t.rs.length rc1, .slice wa1 l.length wc1, .bool t.out, .string t.nm]) := OB1.out.zn hz9 (by have := Z1.out; have := Z2.out; have := Z3.out; have := ZZ1.out; have := Z4.out; have := ZwL.out; have := Z5.out; have := ZZ3.out; have := Z6.out; have := Z7.out; have := Z8.out; omega)
  replace TT1 : Hid (TLie w9 (lo1) (hi1) (setW t l) ra1 rc1 wa1 wc1) := TT1.out.zn hz9 (by have := Z1.out; have := Z2.out; have := Z3.out; have := ZZ1.out; have := Z4.out; have := ZwL.out; have := Z5.out; have := ZZ3.out; have := Z6.out; have := Z7.out; have := Z8.out; omega)
  replace BX : Hid (Bx w9 (w4.heap.size) [.int .i64 t.id, .int .i64 t.st, .int .i64 t.snap, .int .i64 t.cs, .slice pa2 t.rs.length pc2, .slice qa2 t.ws.length qc2, .bool t.out, .string t.nm]) := BX.out.zn hz9 (by have := Z1.out; have := Z2.out; have := Z3.out; have := ZZ1.out; have := Z4.out; have := ZwL.out; have := Z5.out; have := ZZ3.out; have := Z6.out; have := Z7.out; have := Z8.out; omega)
  replace OB3 : Hid (Bx w9 (ob3) [.int .i64 t.id, .int .i64 t.st, .int .i64 t.snap, .int .i64 t.cs, .slice ra3 t.rs.length rc3, .slice wa3 l.length wc3, .bool t.out, .string t.nm]) := OB3.out.zn hz9 (by have := Z1.out; have := Z2.out; have := Z3.out; have := ZZ1.out; have := Z4.out; have := ZwL.out; have := Z5.out; have := ZZ3.out; have := Z6.out; have := Z7.out; have := Z8.out; omega)
  replace TT3 : Hid (TLie w9 (lo3) (hi3) (setW t l) ra3 rc3 wa3 wc3) := TT3.out.zn hz9 (by have := Z1.out; have := Z2.out; have := Z3.out; have := ZZ1.out; have := Z4.out; have := ZwL.out; have := Z5.out; have := ZZ3.out; have := Z6.out; have := Z7.out; have := Z8.out; omega)
  clear hz9 x0 x1 x2 x3 x4 x5 x6 x7 T2
  obtain ⟨K1, hK1⟩ : ∃ K1, K1 = 1 + 2 * t.rs.length + 3 * t.ws.length := ⟨_, rfl⟩
  rw [← hK1]
  have hK1a : ¬ (K1 : Int) < 0 := by omega
  have hK1b : decide ((K1 : Int) < 0) = false := by simp
  clear hK1
  have x0 := OB3.out.c0
  have x1 := OB3.out.c1
  have x2 := OB3.out.c2
  have x3 := OB3.out.c3
  have x4 := OB3.out.c4
  have x5 := OB3.out.c5
  have x6 := OB3.out.c6
  have x7 := OB3.out.c7
  have y0 := OB1.out.c0
  have y1 := OB1.out.c1
  have y2 := OB1.out.c2
  have y3 := OB1.out.c3
  have y4 := OB1.out.c4
  have y5 := OB1.out.c5
  have y6 := OB1.out.c6
  have y7 := OB1.out.c7
  go_wp2_with fail
  refine (eqT (setW t l) ra3 wa3 ra1 wa1 rc3 wc3 rc1 wc1 (by show t.rs.length ≤ _; omega) (by show l.length ≤ _; omega) _ TT3.out.row TT1.out.row).mono ?_
  rintro e w10 ⟨rfl, hb10⟩
  have Z10 : Hid (w9.heap.size ≤ w10.heap.size) := by show _ ≤ _; have h := hb10.size; simpa using h
  replace BA : Hid (Bx w10 (w.heap.size) [.int .i64 t.id, .int .i64 t.st, .int .i64 t.snap, .int .i64 t.cs, .slice ra t.rs.length rc, .slice wa t.ws.length wc, .bool t.out, .string t.nm]) := BA.out.below hb10
  replace BR : Hid (Bx w10 (w.heap.size + 1) [.string x.1, .string x.2.1, .bool x.2.2]) := BR.out.below hb10
  replace HB : Hid (Below w.heap.size w w10) := HB.out.trans (hb10.mono HB.out.size)
  replace TR : Hid (TRow w10 t ra wa) := HP.out.row.below HB.out
  replace OB1 : Hid (Bx w10 (ob1) [.int .i64 t.id, .int .i64 t.st, .int .i64 t.snap, .int .i64 t.cs, .slice ra1 t.rs.length rc1, .slice wa1 l.length wc1, .bool t.out, .string t.nm]) := OB1.out.below hb10
  replace TT1 : Hid (TLie w10 (lo1) (hi1) (setW t l) ra1 rc1 wa1 wc1) := TT1.out.below hb10
  replace BX : Hid (Bx w10 (w4.heap.size) [.int .i64 t.id, .int .i64 t.st, .int .i64 t.snap, .int .i64 t.cs, .slice pa2 t.rs.length pc2, .slice qa2 t.ws.length qc2, .bool t.out, .string t.nm]) := BX.out.below hb10
  replace OB3 : Hid (Bx w10 (ob3) [.int .i64 t.id, .int .i64 t.st, .int .i64 t.snap, .int .i64 t.cs, .slice ra3 t.rs.length rc3, .slice wa3 l.length wc3, .bool t.out, .string t.nm]) := OB3.out.below hb10
  replace TT3 : Hid (TLie w10 (lo3) (hi3) (setW t l) ra3 rc3 wa3 wc3) := TT3.out.below hb10
  clear hb10 x0 x1 x2 x3 x4 x5 x6 x7 y0 y1 y2 y3 y4 y5 y6 y7
  have x0 := OB3.out.c0
  have x1 := OB3.out.c1
  have x2 := OB3.out.c2
  have x3 := OB3.out.c3
  have x4 := OB3.out.c4
  have x5 := OB3.out.c5
  have x6 := OB3.out.c6
  have x7 := OB3.out.c7
  go_wp2_with fail
  refine (markT (setW t l) ra3 wa3 rc3 wc3 (lo3) (hi3) 1 (by show t.rs.length ≤ _; omega) (by show l.length ≤ _; omega) (by omega) (by omega) _ (by have := Z1.out; have := Z2.out; have := Z3.out; have := ZZ1.out; have := Z4.out; have := ZwL.out; have := Z5.out; have := ZZ3.out; have := Z6.out; have := Z7.out; have := Z8.out; have := Z9.out; have := Z10.out; omega) TT3.out).mono ?_
  rintro e w11 ⟨rfl, hm, hz11⟩
  have Z11 : Hid (w10.heap.size ≤ w11.heap.size) := hz11.size
  replace BA : Hid (Bx w11 (w.heap.size) [.int .i64 t.id, .int .i64 t.st, .int .i64 t.snap, .int .i64 t.cs, .slice ra t.rs.length rc, .slice wa t.ws.length wc, .bool t.out, .string t.nm]) := BA.out.zn hz11 (by have := Z1.out; have := Z2.out; have := Z3.out; have := ZZ1.out; have := Z4.out; have := ZwL.out; have := Z5.out; have := ZZ3.out; have := Z6.out; have := Z7.out; have := Z8.out; have := Z9.out; have := Z10.out; omega)
  replace BR : Hid (Bx w11 (w.heap.size + 1) [.string x.1, .string x.2.1, .bool x.2.2]) := BR.out.zn hz11 (by have := Z1.out; have := Z2.out; have := Z3.out; have := ZZ1.out; have := Z4.out; have := ZwL.out; have := Z5.out; have := ZZ3.out; have := Z6.out; have := Z7.out; have := Z8.out; have := Z9.out; have := Z10.out; omega)
  replace HB : Hid (Below w.heap.size w w11) := HB.out.trans (hz11.below (by have := Z1.out; have := Z2.out; have := Z3.out; have := ZZ1.out; have := Z4.out; have := ZwL.out; have := Z5.out; have := ZZ3.out; have := Z6.out; have := Z7.out; have := Z8.out; have := Z9.out; have := Z10.out; omega) HB.out.size)
  replace TR : Hid (TRow w11 t ra wa) := HP.out.row.below HB.out
  replace OB1 : Hid (Bx w11 (ob1) [.int .i64 t.id, .int .i64 t.st, .int .i64 t.snap, .int .i64 t.cs, .slice ra1 t.rs.length rc1, .slice wa1 l.length wc1, .bool t.out, .string t.nm]) := OB1.out.zn hz11 (by have := Z1.out; have := Z2.out; have := Z3.out; have := ZZ1.out; have := Z4.out; have := ZwL.out; have := Z5.out; have := ZZ3.out; have := Z6.out; have := Z7.out; have := Z8.out; have := Z9.out; have := Z10.out; omega)
  replace TT1 : Hid (TLie w11 (lo1) (hi1) (setW t l) ra1 rc1 wa1 wc1) := TT1.out.zn hz11 (by have := Z1.out; have := Z2.out; have := Z3.out; have := ZZ1.out; have := Z4.out; have := ZwL.out; have := Z5.out; have := ZZ3.out; have := Z6.out; have := Z7.out; have := Z8.out; have := Z9.out; have := Z10.out; omega)
  replace BX : Hid (Bx w11 (w4.heap.size) [.int .i64 t.id, .int .i64 t.st, .int .i64 t.snap, .int .i64 t.cs, .slice pa2 t.rs.length pc2, .slice qa2 t.ws.length qc2, .bool t.out, .string t.nm]) := BX.out.zn hz11 (by have := Z1.out; have := Z2.out; have := Z3.out; have := ZZ1.out; have := Z4.out; have := ZwL.out; have := Z5.out; have := ZZ3.out; have := Z6.out; have := Z7.out; have := Z8.out; have := Z9.out; have := Z10.out; omega)
  replace OB3 : Hid (Bx w11 (ob3) [.int .i64 t.id, .int .i64 t.st, .int .i64 t.snap, .int .i64 t.cs, .slice ra3 t.rs.length rc3, .slice wa3 l.length wc3, .bool t.out, .string t.nm]) := OB3.out.zn hz11 (by have := Z1.out; have := Z2.out; have := Z3.out; have := ZZ1.out; have := Z4.out; have := ZwL.out; have := Z5.out; have := ZZ3.out; have := Z6.out; have := Z7.out; have := Z8.out; have := Z9.out; have := Z10.out; omega)
  have MM : Hid (TLie w11 (lo3) (hi3) (mkT (setW t l) 1) ra3 rc3 wa3 wc3) := hm
  clear hm
  clear hz11 x0 x1 x2 x3 x4 x5 x6 x7 TT3
  have HK3e : Hid (1 + 2 * (setW t l).rs.length + 3 * (setW t l).ws.length ≤ 100000000) := by show 1 + 2 * t.rs.length + 3 * l.length ≤ _; omega
  obtain ⟨K3, hK3⟩ : ∃ K3, K3 = 1 + 2 * (setW t l).rs.length + 3 * (setW t l).ws.length := ⟨_, rfl⟩
  have HK3 : Hid (K3 = 1 + 2 * (setW t l).rs.length + 3 * (setW t l).ws.length) := hK3
  rw [← hK3] at HK3e ⊢
  have hK3a : ¬ (K3 : Int) < 0 := by omega
  have hK3b := ne_self_int (K3 : Int)
  clear hK3
  have x0 := OB3.out.c0
  have x1 := OB3.out.c1
  have x2 := OB3.out.c2
  have x3 := OB3.out.c3
  have x4 := OB3.out.c4
  have x5 := OB3.out.c5
  have x6 := OB3.out.c6
  have x7 := OB3.out.c7
  go_wp2_with fail
  refine (heldT (setW t l) ra3 wa3 rc3 wc3 1 (by show t.rs.length ≤ _; omega) (by show l.length ≤ _; omega) (by omega) (by omega) _ MM.out.row).mono ?_
  rintro e w12 ⟨rfl, hb12⟩
  have Z12 : Hid (w11.heap.size ≤ w12.heap.size) := by show _ ≤ _; have h := hb12.size; simpa using h
  replace BA : Hid (Bx w12 (w.heap.size) [.int .i64 t.id, .int .i64 t.st, .int .i64 t.snap, .int .i64 t.cs, .slice ra t.rs.length rc, .slice wa t.ws.length wc, .bool t.out, .string t.nm]) := BA.out.below hb12
  replace BR : Hid (Bx w12 (w.heap.size + 1) [.string x.1, .string x.2.1, .bool x.2.2]) := BR.out.below hb12
  replace HB : Hid (Below w.heap.size w w12) := HB.out.trans (hb12.mono HB.out.size)
  replace TR : Hid (TRow w12 t ra wa) := HP.out.row.below HB.out
  replace OB1 : Hid (Bx w12 (ob1) [.int .i64 t.id, .int .i64 t.st, .int .i64 t.snap, .int .i64 t.cs, .slice ra1 t.rs.length rc1, .slice wa1 l.length wc1, .bool t.out, .string t.nm]) := OB1.out.below hb12
  replace TT1 : Hid (TLie w12 (lo1) (hi1) (setW t l) ra1 rc1 wa1 wc1) := TT1.out.below hb12
  replace BX : Hid (Bx w12 (w4.heap.size) [.int .i64 t.id, .int .i64 t.st, .int .i64 t.snap, .int .i64 t.cs, .slice pa2 t.rs.length pc2, .slice qa2 t.ws.length qc2, .bool t.out, .string t.nm]) := BX.out.below hb12
  replace OB3 : Hid (Bx w12 (ob3) [.int .i64 t.id, .int .i64 t.st, .int .i64 t.snap, .int .i64 t.cs, .slice ra3 t.rs.length rc3, .slice wa3 l.length wc3, .bool t.out, .string t.nm]) := OB3.out.below hb12
  replace MM : Hid (TLie w12 (lo3) (hi3) (mkT (setW t l) 1) ra3 rc3 wa3 wc3) := MM.out.below hb12
  rw [← HK3.out]
  clear hb12 x0 x1 x2 x3 x4 x5 x6 x7
  go_wp2
  go_cut [14, 15] from 84 to 91 (fun p q wx => ∃ (ob lo hi : Nat) (ra1 wa1 : Option Addr) (rc1 wc1 : Nat), p = .pointer (some ⟨ob, 0, none⟩) ∧ q = .bool b ∧ Hid (w12.heap.size ≤ ob ∧ ob < wx.heap.size ∧ w12.heap.size ≤ lo ∧ lo ≤ hi ∧ hi ≤ wx.heap.size ∧ (ob < lo ∨ hi ≤ ob)) ∧ Hid (Bx wx ob [.int .i64 t.id, .int .i64 t.st, .int .i64 t.snap, .int .i64 t.cs, .slice ra1 t.rs.length rc1, .slice wa1 l.length wc1, .bool t.out, .string t.nm]) ∧ Hid (TLie wx lo hi (setW t l) ra1 rc1 wa1 wc1) ∧ Hid (Below (w12.heap.size) w12 wx))
  case first =>
    have HN : Hid (Below (w12.heap.size) w12 w12) := belowRefl w12
    refine wp_region_held_drew (S := fun w' => w'.cell? ⟨w.heap.size, 0, none⟩ = some (.int .i64 t.id) ∧ w'.cell? ⟨w.heap.size, 1, none⟩ = some (.int .i64 t.st) ∧ w'.cell? ⟨w.heap.size, 2, none⟩ = some (.int .i64 t.snap) ∧ w'.cell? ⟨w.heap.size, 3, none⟩ = some (.int .i64 t.cs) ∧ w'.cell? ⟨w.heap.size, 4, none⟩ = some (.slice ra t.rs.length rc) ∧ w'.cell? ⟨w.heap.size, 5, none⟩ = some (.slice wa t.ws.length wc) ∧ w'.cell? ⟨w.heap.size, 6, none⟩ = some (.bool t.out) ∧ w'.cell? ⟨w.heap.size, 7, none⟩ = some (.string t.nm) ∧ w'.cell? ⟨w.heap.size + 1, 0, none⟩ = some (.string x.1) ∧ w'.cell? ⟨w.heap.size + 1, 1, none⟩ = some (.string x.2.1) ∧ w'.cell? ⟨w.heap.size + 1, 2, none⟩ = some (.bool x.2.2)) (by kernel_rfl) ⟨BA.out.c0, BA.out.c1, BA.out.c2, BA.out.c3, BA.out.c4, BA.out.c5, BA.out.c6, BA.out.c7, BR.out.c0, BR.out.c1, BR.out.c2⟩ (fun hHeld => ?_)
    (refine wpAnyH_take (i := 0) (v := ?_) rfl (by kernel_rfl) (by kernel_rfl) (by kernel_rfl) (fun _ _ _ h => h) (Or.inl ⟨by rfl, ?_⟩) (by assumption) ?_; rotate_left; (focus (intro w hSw; (try dsimp only at hSw); go_simp; (try with_reducible rfl); done)); simp only [Act.put, List.getElem_toArray, List.getElem_cons_zero, List.setIfInBounds_toArray, List.set_cons_zero, List.set_cons_succ])
    (refine wpAnyH_take (i := 2) (v := ?_) rfl (by kernel_rfl) (by kernel_rfl) (by kernel_rfl) (fun _ _ _ h => h) (Or.inl ⟨by rfl, ?_⟩) (by assumption) ?_; rotate_left; (focus (intro w hSw; (try dsimp only at hSw); go_simp; (try with_reducible rfl); done)); simp only [Act.put, List.getElem_toArray, List.getElem_cons_zero, List.getElem_cons_succ, List.setIfInBounds_toArray, List.set_cons_zero, List.set_cons_succ])
    refine wpAnyH_ready (rs := [1, 8]) (by kernel_rfl) (by simp) ?_
    refine AllReadyH.cons rfl (fun K hK => ?_) (AllReadyH.cons rfl (fun K hK => ?_) AllReadyH.nil)
    · go_simp
      go_wp2_with fail
      refine (toT t ra wa rc wc (by omega) (by omega) _ TR.out.drewT).mono ?_
      rintro e w13 ⟨pa6, pc6, qa6, qc6, rfl, hl, hb13⟩
      have hbu13 := undrew hb13
      have Z13 : Hid (w12.heap.size ≤ w13.heap.size) := by show _ ≤ _; have h := hbu13.size; simpa using h
      replace BA : Hid (Bx w13 (w.heap.size) [.int .i64 t.id, .int .i64 t.st, .int .i64 t.snap, .int .i64 t.cs, .slice ra t.rs.length rc, .slice wa t.ws.length wc, .bool t.out, .string t.nm]) := BA.out.below hbu13
      replace BR : Hid (Bx w13 (w.heap.size + 1) [.string x.1, .string x.2.1, .bool x.2.2]) := BR.out.below hbu13
      replace HB : Hid (Below w.heap.size w w13) := HB.out.trans (hbu13.mono HB.out.size)
      replace TR : Hid (TRow w13 t ra wa) := HP.out.row.below HB.out
      replace OB1 : Hid (Bx w13 (ob1) [.int .i64 t.id, .int .i64 t.st, .int .i64 t.snap, .int .i64 t.cs, .slice ra1 t.rs.length rc1, .slice wa1 l.length wc1, .bool t.out, .string t.nm]) := OB1.out.below hbu13
      replace TT1 : Hid (TLie w13 (lo1) (hi1) (setW t l) ra1 rc1 wa1 wc1) := TT1.out.below hbu13
      replace BX : Hid (Bx w13 (w4.heap.size) [.int .i64 t.id, .int .i64 t.st, .int .i64 t.snap, .int .i64 t.cs, .slice pa2 t.rs.length pc2, .slice qa2 t.ws.length qc2, .bool t.out, .string t.nm]) := BX.out.below hbu13
      replace OB3 : Hid (Bx w13 (ob3) [.int .i64 t.id, .int .i64 t.st, .int .i64 t.snap, .int .i64 t.cs, .slice ra3 t.rs.length rc3, .slice wa3 l.length wc3, .bool t.out, .string t.nm]) := OB3.out.below hbu13
      replace MM : Hid (TLie w13 (lo3) (hi3) (mkT (setW t l) 1) ra3 rc3 wa3 wc3) := MM.out.below hbu13
      replace HN : Hid (Below (w12.heap.size) w12 w13) := HN.out.trans (hbu13.mono HN.out.size)
      have T6 : Hid (TLie w13 (w12.heap.size) w13.heap.size t pa6 pc6 qa6 qc6) := hl
      clear hl
      go_wp2_with fail
      refine hK.out _ _ ⟨BA.out.c0, BA.out.c1, BA.out.c2, BA.out.c3, BA.out.c4, BA.out.c5, BA.out.c6, BA.out.c7, BR.out.c0, BR.out.c1, BR.out.c2⟩ (fun hHeld13 => ?_)
      clear hK K hb13 hbu13
      refine wpAnyH_ready (rs := [3, 8]) (by kernel_rfl) (by simp) ?_
      refine AllReadyH.cons rfl (fun K hK => ?_) (AllReadyH.cons rfl (fun K hK => ?_) AllReadyH.nil)
      · go_simp
        go_wp2_with fail
        refine (TW.out _).mono ?_
        rintro e w14 ⟨rfl, hb14⟩
        have Z14 : Hid (w13.heap.size ≤ w14.heap.size) := by show _ ≤ _; have h := hb14.size; simpa using h
        replace BA : Hid (Bx w14 (w.heap.size) [.int .i64 t.id, .int .i64 t.st, .int .i64 t.snap, .int .i64 t.cs, .slice ra t.rs.length rc, .slice wa t.ws.length wc, .bool t.out, .string t.nm]) := BA.out.below hb14
        replace BR : Hid (Bx w14 (w.heap.size + 1) [.string x.1, .string x.2.1, .bool x.2.2]) := BR.out.below hb14
        replace HB : Hid (Below w.heap.size w w14) := HB.out.trans (hb14.mono HB.out.size)
        replace TR : Hid (TRow w14 t ra wa) := HP.out.row.below HB.out
        replace OB1 : Hid (Bx w14 (ob1) [.int .i64 t.id, .int .i64 t.st, .int .i64 t.snap, .int .i64 t.cs, .slice ra1 t.rs.length rc1, .slice wa1 l.length wc1, .bool t.out, .string t.nm]) := OB1.out.below hb14
        replace TT1 : Hid (TLie w14 (lo1) (hi1) (setW t l) ra1 rc1 wa1 wc1) := TT1.out.below hb14
        replace BX : Hid (Bx w14 (w4.heap.size) [.int .i64 t.id, .int .i64 t.st, .int .i64 t.snap, .int .i64 t.cs, .slice pa2 t.rs.length pc2, .slice qa2 t.ws.length qc2, .bool t.out, .string t.nm]) := BX.out.below hb14
        replace OB3 : Hid (Bx w14 (ob3) [.int .i64 t.id, .int .i64 t.st, .int .i64 t.snap, .int .i64 t.cs, .slice ra3 t.rs.length rc3, .slice wa3 l.length wc3, .bool t.out, .string t.nm]) := OB3.out.below hb14
        replace MM : Hid (TLie w14 (lo3) (hi3) (mkT (setW t l) 1) ra3 rc3 wa3 wc3) := MM.out.below hb14
        replace HN : Hid (Below (w12.heap.size) w12 w14) := HN.out.trans (hb14.mono HN.out.size)
        replace T6 : Hid (TLie w14 (w12.heap.size) w13.heap.size t pa6 pc6 qa6 qc6) := T6.out.below hb14
        go_wp2_with fail
        refine hK.out _ _ ⟨BA.out.c0, BA.out.c1, BA.out.c2, BA.out.c3, BA.out.c4, BA.out.c5, BA.out.c6, BA.out.c7, BR.out.c0, BR.out.c1, BR.out.c2⟩ (fun hHeld14 => ?_)
        clear hK K hb14
        refine wpAnyH_ready (rs := [4, 8]) (by kernel_rfl) (by simp) ?_
        refine AllReadyH.cons rfl (fun K hK => ?_) (AllReadyH.cons rfl (fun K hK => ?_) AllReadyH.nil)
        · go_simp
          go_wp2_with fail
          refine (CI.out pa6 pc6 qa6 qc6 _ T6.out.row).mono ?_
          rintro e w15 ⟨ra4, rc4, wa4, wc4, rfl, hl, hb15⟩
          have Z15 : Hid (w14.heap.size ≤ w15.heap.size) := by show _ ≤ _; have h := hb15.size; simpa using h
          replace BA : Hid (Bx w15 (w.heap.size) [.int .i64 t.id, .int .i64 t.st, .int .i64 t.snap, .int .i64 t.cs, .slice ra t.rs.length rc, .slice wa t.ws.length wc, .bool t.out, .string t.nm]) := BA.out.below hb15
          replace BR : Hid (Bx w15 (w.heap.size + 1) [.string x.1, .string x.2.1, .bool x.2.2]) := BR.out.below hb15
          replace HB : Hid (Below w.heap.size w w15) := HB.out.trans (hb15.mono HB.out.size)
          replace TR : Hid (TRow w15 t ra wa) := HP.out.row.below HB.out
          replace OB1 : Hid (Bx w15 (ob1) [.int .i64 t.id, .int .i64 t.st, .int .i64 t.snap, .int .i64 t.cs, .slice ra1 t.rs.length rc1, .slice wa1 l.length wc1, .bool t.out, .string t.nm]) := OB1.out.below hb15
          replace TT1 : Hid (TLie w15 (lo1) (hi1) (setW t l) ra1 rc1 wa1 wc1) := TT1.out.below hb15
          replace BX : Hid (Bx w15 (w4.heap.size) [.int .i64 t.id, .int .i64 t.st, .int .i64 t.snap, .int .i64 t.cs, .slice pa2 t.rs.length pc2, .slice qa2 t.ws.length qc2, .bool t.out, .string t.nm]) := BX.out.below hb15
          replace OB3 : Hid (Bx w15 (ob3) [.int .i64 t.id, .int .i64 t.st, .int .i64 t.snap, .int .i64 t.cs, .slice ra3 t.rs.length rc3, .slice wa3 l.length wc3, .bool t.out, .string t.nm]) := OB3.out.below hb15
          replace MM : Hid (TLie w15 (lo3) (hi3) (mkT (setW t l) 1) ra3 rc3 wa3 wc3) := MM.out.below hb15
          replace HN : Hid (Below (w12.heap.size) w12 w15) := HN.out.trans (hb15.mono HN.out.size)
          replace T6 : Hid (TLie w15 (w12.heap.size) w13.heap.size t pa6 pc6 qa6 qc6) := T6.out.below hb15
          have TA : Hid (TLie w15 (w14.heap.size) w15.heap.size (setW t l) ra4 rc4 wa4 wc4) := hl
          clear hl
          go_wp2_with fail
          refine hK.out _ _ ⟨BA.out.c0, BA.out.c1, BA.out.c2, BA.out.c3, BA.out.c4, BA.out.c5, BA.out.c6, BA.out.c7, BR.out.c0, BR.out.c1, BR.out.c2⟩ (fun hHeld15 => ?_)
          clear hK K hb15
          (refine wpAnyH_take (i := 5) (v := ?_) rfl (by kernel_rfl) (by kernel_rfl) (by kernel_rfl) (fun _ _ _ h => h) (Or.inl ⟨by rfl, ?_⟩) (by assumption) ?_; rotate_left; (focus (intro w hSw; (try dsimp only at hSw); go_simp; (try with_reducible rfl); done)); simp only [Act.put, List.getElem_toArray, List.getElem_cons_zero, List.getElem_cons_succ, List.setIfInBounds_toArray, List.set_cons_zero, List.set_cons_succ])
          (refine wpAnyH_take (i := 6) (v := ?_) rfl (by kernel_rfl) (by kernel_rfl) (by kernel_rfl) (fun _ _ _ h => h) (Or.inl ⟨by rfl, ?_⟩) (by assumption) ?_; rotate_left; (focus (intro w hSw; (try dsimp only at hSw); go_simp; (try with_reducible rfl); done)); simp only [Act.put, List.getElem_toArray, List.getElem_cons_zero, List.getElem_cons_succ, List.setIfInBounds_toArray, List.set_cons_zero, List.set_cons_succ])
          (refine wpAnyH_take (i := 7) (v := ?_) rfl (by kernel_rfl) (by kernel_rfl) (by kernel_rfl) (fun _ _ _ h => h) (Or.inl ⟨by rfl, ?_⟩) (by assumption) ?_; rotate_left; (focus (intro w hSw; (try dsimp only at hSw); go_simp; (try with_reducible rfl); done)); simp only [Act.put, List.getElem_toArray, List.getElem_cons_zero, List.getElem_cons_succ, List.setIfInBounds_toArray, List.set_cons_zero, List.set_cons_succ])
          refine wpAnyH_ready (rs := [8]) (by kernel_rfl) (by simp) ?_
          refine AllReadyH.cons rfl (fun K hK => ?_) AllReadyH.nil
          go_simp
          have BAq := BA
          have BRq := BR
          have TAq := TA
          have HNq := HN
          have hba : Below w15.heap.size w15 (w15.alloc (.cells #[.int .i64 0, .int .i64 0, .int .i64 0, .int .i64 0, .slice none 0 0, .slice none 0 0, .bool false, .string ⟨#[]⟩] 27)) := (belowRefl _).alloc (Nat.le_refl _) _
          replace BA : Hid (Bx (w15.alloc (.cells #[.int .i64 0, .int .i64 0, .int .i64 0, .int .i64 0, .slice none 0 0, .slice none 0 0, .bool false, .string ⟨#[]⟩] 27)) (w.heap.size) [.int .i64 t.id, .int .i64 t.st, .int .i64 t.snap, .int .i64 t.cs, .slice ra t.rs.length rc, .slice wa t.ws.length wc, .bool t.out, .string t.nm]) := BA.out.below hba
          replace BR : Hid (Bx (w15.alloc (.cells #[.int .i64 0, .int .i64 0, .int .i64 0, .int .i64 0, .slice none 0 0, .slice none 0 0, .bool false, .string ⟨#[]⟩] 27)) (w.heap.size + 1) [.string x.1, .string x.2.1, .bool x.2.2]) := BR.out.below hba
          replace HB : Hid (Below w.heap.size w (w15.alloc (.cells #[.int .i64 0, .int .i64 0, .int .i64 0, .int .i64 0, .slice none 0 0, .slice none 0 0, .bool false, .string ⟨#[]⟩] 27))) := HB.out.trans (hba.mono HB.out.size)
          replace TR : Hid (TRow (w15.alloc (.cells #[.int .i64 0, .int .i64 0, .int .i64 0, .int .i64 0, .slice none 0 0, .slice none 0 0, .bool false, .string ⟨#[]⟩] 27)) t ra wa) := HP.out.row.below HB.out
          replace OB1 : Hid (Bx (w15.alloc (.cells #[.int .i64 0, .int .i64 0, .int .i64 0, .int .i64 0, .slice none 0 0, .slice none 0 0, .bool false, .string ⟨#[]⟩] 27)) (ob1) [.int .i64 t.id, .int .i64 t.st, .int .i64 t.snap, .int .i64 t.cs, .slice ra1 t.rs.length rc1, .slice wa1 l.length wc1, .bool t.out, .string t.nm]) := OB1.out.below hba
          replace TT1 : Hid (TLie (w15.alloc (.cells #[.int .i64 0, .int .i64 0, .int .i64 0, .int .i64 0, .slice none 0 0, .slice none 0 0, .bool false, .string ⟨#[]⟩] 27)) (lo1) (hi1) (setW t l) ra1 rc1 wa1 wc1) := TT1.out.below hba
          replace BX : Hid (Bx (w15.alloc (.cells #[.int .i64 0, .int .i64 0, .int .i64 0, .int .i64 0, .slice none 0 0, .slice none 0 0, .bool false, .string ⟨#[]⟩] 27)) (w4.heap.size) [.int .i64 t.id, .int .i64 t.st, .int .i64 t.snap, .int .i64 t.cs, .slice pa2 t.rs.length pc2, .slice qa2 t.ws.length qc2, .bool t.out, .string t.nm]) := BX.out.below hba
          replace OB3 : Hid (Bx (w15.alloc (.cells #[.int .i64 0, .int .i64 0, .int .i64 0, .int .i64 0, .slice none 0 0, .slice none 0 0, .bool false, .string ⟨#[]⟩] 27)) (ob3) [.int .i64 t.id, .int .i64 t.st, .int .i64 t.snap, .int .i64 t.cs, .slice ra3 t.rs.length rc3, .slice wa3 l.length wc3, .bool t.out, .string t.nm]) := OB3.out.below hba
          replace MM : Hid (TLie (w15.alloc (.cells #[.int .i64 0, .int .i64 0, .int .i64 0, .int .i64 0, .slice none 0 0, .slice none 0 0, .bool false, .string ⟨#[]⟩] 27)) (lo3) (hi3) (mkT (setW t l) 1) ra3 rc3 wa3 wc3) := MM.out.below hba
          replace HN : Hid (Below (w12.heap.size) w12 (w15.alloc (.cells #[.int .i64 0, .int .i64 0, .int .i64 0, .int .i64 0, .slice none 0 0, .slice none 0 0, .bool false, .string ⟨#[]⟩] 27))) := HN.out.trans (hba.mono HN.out.size)
          replace T6 : Hid (TLie (w15.alloc (.cells #[.int .i64 0, .int .i64 0, .int .i64 0, .int .i64 0, .slice none 0 0, .slice none 0 0, .bool false, .string ⟨#[]⟩] 27)) (w12.heap.size) w13.heap.size t pa6 pc6 qa6 qc6) := T6.out.below hba
          replace TA : Hid (TLie (w15.alloc (.cells #[.int .i64 0, .int .i64 0, .int .i64 0, .int .i64 0, .slice none 0 0, .slice none 0 0, .bool false, .string ⟨#[]⟩] 27)) (w14.heap.size) w15.heap.size (setW t l) ra4 rc4 wa4 wc4) := TA.out.below hba
          clear hba
          have BOX : Hid (Bx (w15.alloc (.cells #[.int .i64 0, .int .i64 0, .int .i64 0, .int .i64 0, .slice none 0 0, .slice none 0 0, .bool false, .string ⟨#[]⟩] 27)) (w15.heap.size) [.int .i64 0, .int .i64 0, .int .i64 0, .int .i64 0, .slice none 0 0, .slice none 0 0, .bool false, .string ⟨#[]⟩]) := Bx.new w15 [.int .i64 0, .int .i64 0, .int .i64 0, .int .i64 0, .slice none 0 0, .slice none 0 0, .bool false, .string ⟨#[]⟩] 27
          (try go_wp2_with fail)
          refine hK.out _ _ ⟨BA.out.c0, BA.out.c1, BA.out.c2, BA.out.c3, BA.out.c4, BA.out.c5, BA.out.c6, BA.out.c7, BR.out.c0, BR.out.c1, BR.out.c2⟩ (fun hHeldB => ?_)
          clear hK K
          refine wpAnyH_ready (rs := [9]) (by kernel_rfl) (by simp) ?_
          refine AllReadyH.cons rfl (fun K hK => ?_) AllReadyH.nil
          go_simp
          have hbn : Below w15.heap.size w15 (w15.alloc (.cells #[.int .i64 t.id, .int .i64 t.st, .int .i64 t.snap, .int .i64 t.cs, .slice ra4 t.rs.length rc4, .slice wa4 l.length wc4, .bool t.out, .string t.nm] 27)) := (belowRefl _).alloc (Nat.le_refl _) _
          have BAs := hide0 (BAq.out.below hbn)
          have BRs := hide0 (BRq.out.below hbn)
          refine hK.out _ _ ⟨BAs.out.c0, BAs.out.c1, BAs.out.c2, BAs.out.c3, BAs.out.c4, BAs.out.c5, BAs.out.c6, BAs.out.c7, BRs.out.c0, BRs.out.c1, BRs.out.c2⟩ (fun hHeldS => ?_)
          clear hK K
          (refine wpAnyH_take (i := 10) (v := ?_) rfl (by kernel_rfl) (by kernel_rfl) (by kernel_rfl) (fun _ _ _ h => h) (Or.inl ⟨by rfl, ?_⟩) (by assumption) ?_; rotate_left; (focus (intro w hSw; (try dsimp only at hSw); go_simp; (try with_reducible rfl); done)); simp only [Act.put, List.getElem_toArray, List.getElem_cons_zero, List.getElem_cons_succ, List.setIfInBounds_toArray, List.set_cons_zero, List.set_cons_succ])
          refine wpAnyH_done (by kernel_rfl) ?_ _
          have OB : Hid (Bx (w15.alloc (.cells #[.int .i64 t.id, .int .i64 t.st, .int .i64 t.snap, .int .i64 t.cs, .slice ra4 t.rs.length rc4, .slice wa4 l.length wc4, .bool t.out, .string t.nm] 27)) (w15.heap.size) [.int .i64 t.id, .int .i64 t.st, .int .i64 t.snap, .int .i64 t.cs, .slice ra4 t.rs.length rc4, .slice wa4 l.length wc4, .bool t.out, .string t.nm]) := Bx.new w15 [.int .i64 t.id, .int .i64 t.st, .int .i64 t.snap, .int .i64 t.cs, .slice ra4 t.rs.length rc4, .slice wa4 l.length wc4, .bool t.out, .string t.nm] 27
          have TT : Hid (TLie (w15.alloc (.cells #[.int .i64 t.id, .int .i64 t.st, .int .i64 t.snap, .int .i64 t.cs, .slice ra4 t.rs.length rc4, .slice wa4 l.length wc4, .bool t.out, .string t.nm] 27)) (w14.heap.size) (w15.heap.size) (setW t l) ra4 rc4 wa4 wc4) := TAq.out.below hbn
          have NN : Hid (Below (w12.heap.size) w12 (w15.alloc (.cells #[.int .i64 t.id, .int .i64 t.st, .int .i64 t.snap, .int .i64 t.cs, .slice ra4 t.rs.length rc4, .slice wa4 l.length wc4, .bool t.out, .string t.nm] 27))) := HNq.out.trans (hbn.mono HNq.out.size)
          have SS : Hid ((w15.alloc (.cells #[.int .i64 t.id, .int .i64 t.st, .int .i64 t.snap, .int .i64 t.cs, .slice ra4 t.rs.length rc4, .slice wa4 l.length wc4, .bool t.out, .string t.nm] 27)).heap.size = w15.heap.size + 1) := World.size_alloc _ _
          clear hbn
          go_wp2_with fail
          go_meet
          exact ⟨w15.heap.size, w14.heap.size, w15.heap.size, ra4, wa4, rc4, wc4, rfl, rfl, (by show _ ∧ _; have := Z1.out; have := Z2.out; have := Z3.out; have := ZZ1.out; have := Z4.out; have := ZwL.out; have := Z5.out; have := ZZ3.out; have := Z6.out; have := Z7.out; have := Z8.out; have := Z9.out; have := Z10.out; have := Z11.out; have := Z12.out; have := Z13.out; have := Z14.out; have := Z15.out; have := SS.out; omega), OB, TT, NN⟩
        · go_simp
          have hba : Below w14.heap.size w14 (w14.alloc (.cells #[.int .i64 0, .int .i64 0, .int .i64 0, .int .i64 0, .slice none 0 0, .slice none 0 0, .bool false, .string ⟨#[]⟩] 27)) := (belowRefl _).alloc (Nat.le_refl _) _
          replace BA : Hid (Bx (w14.alloc (.cells #[.int .i64 0, .int .i64 0, .int .i64 0, .int .i64 0, .slice none 0 0, .slice none 0 0, .bool false, .string ⟨#[]⟩] 27)) (w.heap.size) [.int .i64 t.id, .int .i64 t.st, .int .i64 t.snap, .int .i64 t.cs, .slice ra t.rs.length rc, .slice wa t.ws.length wc, .bool t.out, .string t.nm]) := BA.out.below hba
          replace BR : Hid (Bx (w14.alloc (.cells #[.int .i64 0, .int .i64 0, .int .i64 0, .int .i64 0, .slice none 0 0, .slice none 0 0, .bool false, .string ⟨#[]⟩] 27)) (w.heap.size + 1) [.string x.1, .string x.2.1, .bool x.2.2]) := BR.out.below hba
          replace HB : Hid (Below w.heap.size w (w14.alloc (.cells #[.int .i64 0, .int .i64 0, .int .i64 0, .int .i64 0, .slice none 0 0, .slice none 0 0, .bool false, .string ⟨#[]⟩] 27))) := HB.out.trans (hba.mono HB.out.size)
          replace TR : Hid (TRow (w14.alloc (.cells #[.int .i64 0, .int .i64 0, .int .i64 0, .int .i64 0, .slice none 0 0, .slice none 0 0, .bool false, .string ⟨#[]⟩] 27)) t ra wa) := HP.out.row.below HB.out
          replace OB1 : Hid (Bx (w14.alloc (.cells #[.int .i64 0, .int .i64 0, .int .i64 0, .int .i64 0, .slice none 0 0, .slice none 0 0, .bool false, .string ⟨#[]⟩] 27)) (ob1) [.int .i64 t.id, .int .i64 t.st, .int .i64 t.snap, .int .i64 t.cs, .slice ra1 t.rs.length rc1, .slice wa1 l.length wc1, .bool t.out, .string t.nm]) := OB1.out.below hba
          replace TT1 : Hid (TLie (w14.alloc (.cells #[.int .i64 0, .int .i64 0, .int .i64 0, .int .i64 0, .slice none 0 0, .slice none 0 0, .bool false, .string ⟨#[]⟩] 27)) (lo1) (hi1) (setW t l) ra1 rc1 wa1 wc1) := TT1.out.below hba
          replace BX : Hid (Bx (w14.alloc (.cells #[.int .i64 0, .int .i64 0, .int .i64 0, .int .i64 0, .slice none 0 0, .slice none 0 0, .bool false, .string ⟨#[]⟩] 27)) (w4.heap.size) [.int .i64 t.id, .int .i64 t.st, .int .i64 t.snap, .int .i64 t.cs, .slice pa2 t.rs.length pc2, .slice qa2 t.ws.length qc2, .bool t.out, .string t.nm]) := BX.out.below hba
          replace OB3 : Hid (Bx (w14.alloc (.cells #[.int .i64 0, .int .i64 0, .int .i64 0, .int .i64 0, .slice none 0 0, .slice none 0 0, .bool false, .string ⟨#[]⟩] 27)) (ob3) [.int .i64 t.id, .int .i64 t.st, .int .i64 t.snap, .int .i64 t.cs, .slice ra3 t.rs.length rc3, .slice wa3 l.length wc3, .bool t.out, .string t.nm]) := OB3.out.below hba
          replace MM : Hid (TLie (w14.alloc (.cells #[.int .i64 0, .int .i64 0, .int .i64 0, .int .i64 0, .slice none 0 0, .slice none 0 0, .bool false, .string ⟨#[]⟩] 27)) (lo3) (hi3) (mkT (setW t l) 1) ra3 rc3 wa3 wc3) := MM.out.below hba
          replace HN : Hid (Below (w12.heap.size) w12 (w14.alloc (.cells #[.int .i64 0, .int .i64 0, .int .i64 0, .int .i64 0, .slice none 0 0, .slice none 0 0, .bool false, .string ⟨#[]⟩] 27))) := HN.out.trans (hba.mono HN.out.size)
          replace T6 : Hid (TLie (w14.alloc (.cells #[.int .i64 0, .int .i64 0, .int .i64 0, .int .i64 0, .slice none 0 0, .slice none 0 0, .bool false, .string ⟨#[]⟩] 27)) (w12.heap.size) w13.heap.size t pa6 pc6 qa6 qc6) := T6.out.below hba
          clear hba
          have BOX : Hid (Bx (w14.alloc (.cells #[.int .i64 0, .int .i64 0, .int .i64 0, .int .i64 0, .slice none 0 0, .slice none 0 0, .bool false, .string ⟨#[]⟩] 27)) (w14.heap.size) [.int .i64 0, .int .i64 0, .int .i64 0, .int .i64 0, .slice none 0 0, .slice none 0 0, .bool false, .string ⟨#[]⟩]) := Bx.new w14 [.int .i64 0, .int .i64 0, .int .i64 0, .int .i64 0, .slice none 0 0, .slice none 0 0, .bool false, .string ⟨#[]⟩] 27
          (try go_wp2_with fail)
          refine hK.out _ _ ⟨BA.out.c0, BA.out.c1, BA.out.c2, BA.out.c3, BA.out.c4, BA.out.c5, BA.out.c6, BA.out.c7, BR.out.c0, BR.out.c1, BR.out.c2⟩ (fun hHeldB => ?_)
          clear hK K
          refine wpAnyH_ready (rs := [4]) (by kernel_rfl) (by simp) ?_
          refine AllReadyH.cons rfl (fun K hK => ?_) AllReadyH.nil
          go_simp
          go_wp2_with fail
          refine (CI.out pa6 pc6 qa6 qc6 _ T6.out.row).mono ?_
          rintro e w15 ⟨ra4, rc4, wa4, wc4, rfl, hl, hb15⟩
          have Z15 : Hid (w14.heap.size + 1 ≤ w15.heap.size) := by show _ ≤ _; have h := hb15.size; simpa using h
          replace BA : Hid (Bx w15 (w.heap.size) [.int .i64 t.id, .int .i64 t.st, .int .i64 t.snap, .int .i64 t.cs, .slice ra t.rs.length rc, .slice wa t.ws.length wc, .bool t.out, .string t.nm]) := BA.out.below hb15
          replace BR : Hid (Bx w15 (w.heap.size + 1) [.string x.1, .string x.2.1, .bool x.2.2]) := BR.out.below hb15
          replace HB : Hid (Below w.heap.size w w15) := HB.out.trans (hb15.mono HB.out.size)
          replace TR : Hid (TRow w15 t ra wa) := HP.out.row.below HB.out
          replace OB1 : Hid (Bx w15 (ob1) [.int .i64 t.id, .int .i64 t.st, .int .i64 t.snap, .int .i64 t.cs, .slice ra1 t.rs.length rc1, .slice wa1 l.length wc1, .bool t.out, .string t.nm]) := OB1.out.below hb15
          replace TT1 : Hid (TLie w15 (lo1) (hi1) (setW t l) ra1 rc1 wa1 wc1) := TT1.out.below hb15
          replace BX : Hid (Bx w15 (w4.heap.size) [.int .i64 t.id, .int .i64 t.st, .int .i64 t.snap, .int .i64 t.cs, .slice pa2 t.rs.length pc2, .slice qa2 t.ws.length qc2, .bool t.out, .string t.nm]) := BX.out.below hb15
          replace OB3 : Hid (Bx w15 (ob3) [.int .i64 t.id, .int .i64 t.st, .int .i64 t.snap, .int .i64 t.cs, .slice ra3 t.rs.length rc3, .slice wa3 l.length wc3, .bool t.out, .string t.nm]) := OB3.out.below hb15
          replace MM : Hid (TLie w15 (lo3) (hi3) (mkT (setW t l) 1) ra3 rc3 wa3 wc3) := MM.out.below hb15
          replace HN : Hid (Below (w12.heap.size) w12 w15) := HN.out.trans (hb15.mono HN.out.size)
          replace T6 : Hid (TLie w15 (w12.heap.size) w13.heap.size t pa6 pc6 qa6 qc6) := T6.out.below hb15
          replace BOX : Hid (Bx w15 (w14.heap.size) [.int .i64 0, .int .i64 0, .int .i64 0, .int .i64 0, .slice none 0 0, .slice none 0 0, .bool false, .string ⟨#[]⟩]) := BOX.out.below hb15
          have TA : Hid (TLie w15 (w14.heap.size + 1) w15.heap.size (setW t l) ra4 rc4 wa4 wc4) := (by show TLie _ _ _ _ _ _ _ _; simpa using hl)
          clear hl
          go_wp2_with fail
          refine hK.out _ _ ⟨BA.out.c0, BA.out.c1, BA.out.c2, BA.out.c3, BA.out.c4, BA.out.c5, BA.out.c6, BA.out.c7, BR.out.c0, BR.out.c1, BR.out.c2⟩ (fun hHeld15 => ?_)
          clear hK K hb15
          (refine wpAnyH_take (i := 5) (v := ?_) rfl (by kernel_rfl) (by kernel_rfl) (by kernel_rfl) (fun _ _ _ h => h) (Or.inl ⟨by rfl, ?_⟩) (by assumption) ?_; rotate_left; (focus (intro w hSw; (try dsimp only at hSw); go_simp; (try with_reducible rfl); done)); simp only [Act.put, List.getElem_toArray, List.getElem_cons_zero, List.getElem_cons_succ, List.setIfInBounds_toArray, List.set_cons_zero, List.set_cons_succ])
          (refine wpAnyH_take (i := 6) (v := ?_) rfl (by kernel_rfl) (by kernel_rfl) (by kernel_rfl) (fun _ _ _ h => h) (Or.inl ⟨by rfl, ?_⟩) (by assumption) ?_; rotate_left; (focus (intro w hSw; (try dsimp only at hSw); go_simp; (try with_reducible rfl); done)); simp only [Act.put, List.getElem_toArray, List.getElem_cons_zero, List.getElem_cons_succ, List.setIfInBounds_toArray, List.set_cons_zero, List.set_cons_succ])
          (refine wpAnyH_take (i := 7) (v := ?_) rfl (by kernel_rfl) (by kernel_rfl) (by kernel_rfl) (fun _ _ _ h => h) (Or.inl ⟨by rfl, ?_⟩) (by assumption) ?_; rotate_left; (focus (intro w hSw; (try dsimp only at hSw); go_simp; (try with_reducible rfl); done)); simp only [Act.put, List.getElem_toArray, List.getElem_cons_zero, List.getElem_cons_succ, List.setIfInBounds_toArray, List.set_cons_zero, List.set_cons_succ])
          have zc0 := BOX.out.c0
          have zc1 := BOX.out.c1
          have zc2 := BOX.out.c2
          have zc3 := BOX.out.c3
          have zc4 := BOX.out.c4
          have zc5 := BOX.out.c5
          have zc6 := BOX.out.c6
          have zc7 := BOX.out.c7
          have zf := BOX.out.fz
          refine wpAnyH_ready (rs := [9]) (by kernel_rfl) (by simp) ?_
          refine AllReadyH.cons rfl (fun K hK => ?_) AllReadyH.nil
          go_simp
          have hneBA : w14.heap.size ≠ w.heap.size := by have := Z1.out; have := Z2.out; have := Z3.out; have := ZZ1.out; have := Z4.out; have := ZwL.out; have := Z5.out; have := ZZ3.out; have := Z6.out; have := Z7.out; have := Z8.out; have := Z9.out; have := Z10.out; have := Z11.out; have := Z12.out; have := Z13.out; have := Z14.out; have := Z15.out; omega
          have BAs := hide0 (BA.out.o8 hneBA (.int .i64 t.id) (.int .i64 t.st) (.int .i64 t.snap) (.int .i64 t.cs) (.slice ra4 t.rs.length rc4) (.slice wa4 l.length wc4) (.bool t.out) (.string t.nm))
          have hneBR : w14.heap.size ≠ w.heap.size + 1 := by have := Z1.out; have := Z2.out; have := Z3.out; have := ZZ1.out; have := Z4.out; have := ZwL.out; have := Z5.out; have := ZZ3.out; have := Z6.out; have := Z7.out; have := Z8.out; have := Z9.out; have := Z10.out; have := Z11.out; have := Z12.out; have := Z13.out; have := Z14.out; have := Z15.out; omega
          have BRs := hide0 (BR.out.o8 hneBR (.int .i64 t.id) (.int .i64 t.st) (.int .i64 t.snap) (.int .i64 t.cs) (.slice ra4 t.rs.length rc4) (.slice wa4 l.length wc4) (.bool t.out) (.string t.nm))
          refine hK.out _ _ ⟨BAs.out.c0, BAs.out.c1, BAs.out.c2, BAs.out.c3, BAs.out.c4, BAs.out.c5, BAs.out.c6, BAs.out.c7, BRs.out.c0, BRs.out.c1, BRs.out.c2⟩ (fun hHeldS => ?_)
          clear hK K zc0 zc1 zc2 zc3 zc4 zc5 zc6 zc7 zf
          (refine wpAnyH_take (i := 10) (v := ?_) rfl (by kernel_rfl) (by kernel_rfl) (by kernel_rfl) (fun _ _ _ h => h) (Or.inl ⟨by rfl, ?_⟩) (by assumption) ?_; rotate_left; (focus (intro w hSw; (try dsimp only at hSw); go_simp; (try with_reducible rfl); done)); simp only [Act.put, List.getElem_toArray, List.getElem_cons_zero, List.getElem_cons_succ, List.setIfInBounds_toArray, List.set_cons_zero, List.set_cons_succ])
          refine wpAnyH_done (by kernel_rfl) ?_ _
          have OB : Hid (Bx ((((((((w15.setCell ⟨w14.heap.size, 0, none⟩ (.int .i64 t.id)).setCell ⟨w14.heap.size, 1, none⟩ (.int .i64 t.st)).setCell ⟨w14.heap.size, 2, none⟩ (.int .i64 t.snap)).setCell ⟨w14.heap.size, 3, none⟩ (.int .i64 t.cs)).setCell ⟨w14.heap.size, 4, none⟩ (.slice ra4 t.rs.length rc4)).setCell ⟨w14.heap.size, 5, none⟩ (.slice wa4 l.length wc4)).setCell ⟨w14.heap.size, 6, none⟩ (.bool t.out)).setCell ⟨w14.heap.size, 7, none⟩ (.string t.nm)) (w14.heap.size) [.int .i64 t.id, .int .i64 t.st, .int .i64 t.snap, .int .i64 t.cs, .slice ra4 t.rs.length rc4, .slice wa4 l.length wc4, .bool t.out, .string t.nm]) := BOX.out.s8 (.int .i64 t.id) (.int .i64 t.st) (.int .i64 t.snap) (.int .i64 t.cs) (.slice ra4 t.rs.length rc4) (.slice wa4 l.length wc4) (.bool t.out) (.string t.nm)
          have hnz : w14.heap.size < w14.heap.size + 1 ∨ w15.heap.size ≤ w14.heap.size := by have := Z1.out; have := Z2.out; have := Z3.out; have := ZZ1.out; have := Z4.out; have := ZwL.out; have := Z5.out; have := ZZ3.out; have := Z6.out; have := Z7.out; have := Z8.out; have := Z9.out; have := Z10.out; have := Z11.out; have := Z12.out; have := Z13.out; have := Z14.out; have := Z15.out; omega
          have TT : Hid (TLie ((((((((w15.setCell ⟨w14.heap.size, 0, none⟩ (.int .i64 t.id)).setCell ⟨w14.heap.size, 1, none⟩ (.int .i64 t.st)).setCell ⟨w14.heap.size, 2, none⟩ (.int .i64 t.snap)).setCell ⟨w14.heap.size, 3, none⟩ (.int .i64 t.cs)).setCell ⟨w14.heap.size, 4, none⟩ (.slice ra4 t.rs.length rc4)).setCell ⟨w14.heap.size, 5, none⟩ (.slice wa4 l.length wc4)).setCell ⟨w14.heap.size, 6, none⟩ (.bool t.out)).setCell ⟨w14.heap.size, 7, none⟩ (.string t.nm)) (w14.heap.size + 1) (w15.heap.size) (setW t l) ra4 rc4 wa4 wc4) := TA.out.s8 hnz (.int .i64 t.id) (.int .i64 t.st) (.int .i64 t.snap) (.int .i64 t.cs) (.slice ra4 t.rs.length rc4) (.slice wa4 l.length wc4) (.bool t.out) (.string t.nm)
          have hno : w12.heap.size ≤ w14.heap.size := by have := Z1.out; have := Z2.out; have := Z3.out; have := ZZ1.out; have := Z4.out; have := ZwL.out; have := Z5.out; have := ZZ3.out; have := Z6.out; have := Z7.out; have := Z8.out; have := Z9.out; have := Z10.out; have := Z11.out; have := Z12.out; have := Z13.out; have := Z14.out; have := Z15.out; omega
          have NN : Hid (Below (w12.heap.size) w12 ((((((((w15.setCell ⟨w14.heap.size, 0, none⟩ (.int .i64 t.id)).setCell ⟨w14.heap.size, 1, none⟩ (.int .i64 t.st)).setCell ⟨w14.heap.size, 2, none⟩ (.int .i64 t.snap)).setCell ⟨w14.heap.size, 3, none⟩ (.int .i64 t.cs)).setCell ⟨w14.heap.size, 4, none⟩ (.slice ra4 t.rs.length rc4)).setCell ⟨w14.heap.size, 5, none⟩ (.slice wa4 l.length wc4)).setCell ⟨w14.heap.size, 6, none⟩ (.bool t.out)).setCell ⟨w14.heap.size, 7, none⟩ (.string t.nm))) := below_s8 HN.out hno (.int .i64 t.id) (.int .i64 t.st) (.int .i64 t.snap) (.int .i64 t.cs) (.slice ra4 t.rs.length rc4) (.slice wa4 l.length wc4) (.bool t.out) (.string t.nm)
          have SS : Hid (((((((((w15.setCell ⟨w14.heap.size, 0, none⟩ (.int .i64 t.id)).setCell ⟨w14.heap.size, 1, none⟩ (.int .i64 t.st)).setCell ⟨w14.heap.size, 2, none⟩ (.int .i64 t.snap)).setCell ⟨w14.heap.size, 3, none⟩ (.int .i64 t.cs)).setCell ⟨w14.heap.size, 4, none⟩ (.slice ra4 t.rs.length rc4)).setCell ⟨w14.heap.size, 5, none⟩ (.slice wa4 l.length wc4)).setCell ⟨w14.heap.size, 6, none⟩ (.bool t.out)).setCell ⟨w14.heap.size, 7, none⟩ (.string t.nm)).heap.size = w15.heap.size) := by show _ = _; simp [World.setCell]
          go_wp2_with fail
          go_meet
          exact ⟨w14.heap.size, w14.heap.size + 1, w15.heap.size, ra4, wa4, rc4, wc4, rfl, rfl, (by show _ ∧ _; have := Z1.out; have := Z2.out; have := Z3.out; have := ZZ1.out; have := Z4.out; have := ZwL.out; have := Z5.out; have := ZZ3.out; have := Z6.out; have := Z7.out; have := Z8.out; have := Z9.out; have := Z10.out; have := Z11.out; have := Z12.out; have := Z13.out; have := Z14.out; have := Z15.out; have := SS.out; omega), OB, TT, NN⟩
      · go_simp
        have hba : Below w13.heap.size w13 (w13.alloc (.cells #[.int .i64 0, .int .i64 0, .int .i64 0, .int .i64 0, .slice none 0 0, .slice none 0 0, .bool false, .string ⟨#[]⟩] 27)) := (belowRefl _).alloc (Nat.le_refl _) _
        replace BA : Hid (Bx (w13.alloc (.cells #[.int .i64 0, .int .i64 0, .int .i64 0, .int .i64 0, .slice none 0 0, .slice none 0 0, .bool false, .string ⟨#[]⟩] 27)) (w.heap.size) [.int .i64 t.id, .int .i64 t.st, .int .i64 t.snap, .int .i64 t.cs, .slice ra t.rs.length rc, .slice wa t.ws.length wc, .bool t.out, .string t.nm]) := BA.out.below hba
        replace BR : Hid (Bx (w13.alloc (.cells #[.int .i64 0, .int .i64 0, .int .i64 0, .int .i64 0, .slice none 0 0, .slice none 0 0, .bool false, .string ⟨#[]⟩] 27)) (w.heap.size + 1) [.string x.1, .string x.2.1, .bool x.2.2]) := BR.out.below hba
        replace HB : Hid (Below w.heap.size w (w13.alloc (.cells #[.int .i64 0, .int .i64 0, .int .i64 0, .int .i64 0, .slice none 0 0, .slice none 0 0, .bool false, .string ⟨#[]⟩] 27))) := HB.out.trans (hba.mono HB.out.size)
        replace TR : Hid (TRow (w13.alloc (.cells #[.int .i64 0, .int .i64 0, .int .i64 0, .int .i64 0, .slice none 0 0, .slice none 0 0, .bool false, .string ⟨#[]⟩] 27)) t ra wa) := HP.out.row.below HB.out
        replace OB1 : Hid (Bx (w13.alloc (.cells #[.int .i64 0, .int .i64 0, .int .i64 0, .int .i64 0, .slice none 0 0, .slice none 0 0, .bool false, .string ⟨#[]⟩] 27)) (ob1) [.int .i64 t.id, .int .i64 t.st, .int .i64 t.snap, .int .i64 t.cs, .slice ra1 t.rs.length rc1, .slice wa1 l.length wc1, .bool t.out, .string t.nm]) := OB1.out.below hba
        replace TT1 : Hid (TLie (w13.alloc (.cells #[.int .i64 0, .int .i64 0, .int .i64 0, .int .i64 0, .slice none 0 0, .slice none 0 0, .bool false, .string ⟨#[]⟩] 27)) (lo1) (hi1) (setW t l) ra1 rc1 wa1 wc1) := TT1.out.below hba
        replace BX : Hid (Bx (w13.alloc (.cells #[.int .i64 0, .int .i64 0, .int .i64 0, .int .i64 0, .slice none 0 0, .slice none 0 0, .bool false, .string ⟨#[]⟩] 27)) (w4.heap.size) [.int .i64 t.id, .int .i64 t.st, .int .i64 t.snap, .int .i64 t.cs, .slice pa2 t.rs.length pc2, .slice qa2 t.ws.length qc2, .bool t.out, .string t.nm]) := BX.out.below hba
        replace OB3 : Hid (Bx (w13.alloc (.cells #[.int .i64 0, .int .i64 0, .int .i64 0, .int .i64 0, .slice none 0 0, .slice none 0 0, .bool false, .string ⟨#[]⟩] 27)) (ob3) [.int .i64 t.id, .int .i64 t.st, .int .i64 t.snap, .int .i64 t.cs, .slice ra3 t.rs.length rc3, .slice wa3 l.length wc3, .bool t.out, .string t.nm]) := OB3.out.below hba
        replace MM : Hid (TLie (w13.alloc (.cells #[.int .i64 0, .int .i64 0, .int .i64 0, .int .i64 0, .slice none 0 0, .slice none 0 0, .bool false, .string ⟨#[]⟩] 27)) (lo3) (hi3) (mkT (setW t l) 1) ra3 rc3 wa3 wc3) := MM.out.below hba
        replace HN : Hid (Below (w12.heap.size) w12 (w13.alloc (.cells #[.int .i64 0, .int .i64 0, .int .i64 0, .int .i64 0, .slice none 0 0, .slice none 0 0, .bool false, .string ⟨#[]⟩] 27))) := HN.out.trans (hba.mono HN.out.size)
        replace T6 : Hid (TLie (w13.alloc (.cells #[.int .i64 0, .int .i64 0, .int .i64 0, .int .i64 0, .slice none 0 0, .slice none 0 0, .bool false, .string ⟨#[]⟩] 27)) (w12.heap.size) w13.heap.size t pa6 pc6 qa6 qc6) := T6.out.below hba
        clear hba
        have BOX : Hid (Bx (w13.alloc (.cells #[.int .i64 0, .int .i64 0, .int .i64 0, .int .i64 0, .slice none 0 0, .slice none 0 0, .bool false, .string ⟨#[]⟩] 27)) (w13.heap.size) [.int .i64 0, .int .i64 0, .int .i64 0, .int .i64 0, .slice none 0 0, .slice none 0 0, .bool false, .string ⟨#[]⟩]) := Bx.new w13 [.int .i64 0, .int .i64 0, .int .i64 0, .int .i64 0, .slice none 0 0, .slice none 0 0, .bool false, .string ⟨#[]⟩] 27
        (try go_wp2_with fail)
        refine hK.out _ _ ⟨BA.out.c0, BA.out.c1, BA.out.c2, BA.out.c3, BA.out.c4, BA.out.c5, BA.out.c6, BA.out.c7, BR.out.c0, BR.out.c1, BR.out.c2⟩ (fun hHeldB => ?_)
        clear hK K
        refine wpAnyH_ready (rs := [3]) (by kernel_rfl) (by simp) ?_
        refine AllReadyH.cons rfl (fun K hK => ?_) AllReadyH.nil
        go_simp
        go_wp2_with fail
        refine (TW.out _).mono ?_
        rintro e w14 ⟨rfl, hb14⟩
        have Z14 : Hid (w13.heap.size + 1 ≤ w14.heap.size) := by show _ ≤ _; have h := hb14.size; simpa using h
        replace BA : Hid (Bx w14 (w.heap.size) [.int .i64 t.id, .int .i64 t.st, .int .i64 t.snap, .int .i64 t.cs, .slice ra t.rs.length rc, .slice wa t.ws.length wc, .bool t.out, .string t.nm]) := BA.out.below hb14
        replace BR : Hid (Bx w14 (w.heap.size + 1) [.string x.1, .string x.2.1, .bool x.2.2]) := BR.out.below hb14
        replace HB : Hid (Below w.heap.size w w14) := HB.out.trans (hb14.mono HB.out.size)
        replace TR : Hid (TRow w14 t ra wa) := HP.out.row.below HB.out
        replace OB1 : Hid (Bx w14 (ob1) [.int .i64 t.id, .int .i64 t.st, .int .i64 t.snap, .int .i64 t.cs, .slice ra1 t.rs.length rc1, .slice wa1 l.length wc1, .bool t.out, .string t.nm]) := OB1.out.below hb14
        replace TT1 : Hid (TLie w14 (lo1) (hi1) (setW t l) ra1 rc1 wa1 wc1) := TT1.out.below hb14
        replace BX : Hid (Bx w14 (w4.heap.size) [.int .i64 t.id, .int .i64 t.st, .int .i64 t.snap, .int .i64 t.cs, .slice pa2 t.rs.length pc2, .slice qa2 t.ws.length qc2, .bool t.out, .string t.nm]) := BX.out.below hb14
        replace OB3 : Hid (Bx w14 (ob3) [.int .i64 t.id, .int .i64 t.st, .int .i64 t.snap, .int .i64 t.cs, .slice ra3 t.rs.length rc3, .slice wa3 l.length wc3, .bool t.out, .string t.nm]) := OB3.out.below hb14
        replace MM : Hid (TLie w14 (lo3) (hi3) (mkT (setW t l) 1) ra3 rc3 wa3 wc3) := MM.out.below hb14
        replace HN : Hid (Below (w12.heap.size) w12 w14) := HN.out.trans (hb14.mono HN.out.size)
        replace T6 : Hid (TLie w14 (w12.heap.size) w13.heap.size t pa6 pc6 qa6 qc6) := T6.out.below hb14
        replace BOX : Hid (Bx w14 (w13.heap.size) [.int .i64 0, .int .i64 0, .int .i64 0, .int .i64 0, .slice none 0 0, .slice none 0 0, .bool false, .string ⟨#[]⟩]) := BOX.out.below hb14
        go_wp2_with fail
        refine hK.out _ _ ⟨BA.out.c0, BA.out.c1, BA.out.c2, BA.out.c3, BA.out.c4, BA.out.c5, BA.out.c6, BA.out.c7, BR.out.c0, BR.out.c1, BR.out.c2⟩ (fun hHeld14 => ?_)
        clear hK K hb14
        refine wpAnyH_ready (rs := [4]) (by kernel_rfl) (by simp) ?_
        refine AllReadyH.cons rfl (fun K hK => ?_) AllReadyH.nil
        go_simp
        go_wp2_with fail
        refine (CI.out pa6 pc6 qa6 qc6 _ T6.out.row).mono ?_
        rintro e w15 ⟨ra4, rc4, wa4, wc4, rfl, hl, hb15⟩
        have Z15 : Hid (w14.heap.size ≤ w15.heap.size) := by show _ ≤ _; have h := hb15.size; simpa using h
        replace BA : Hid (Bx w15 (w.heap.size) [.int .i64 t.id, .int .i64 t.st, .int .i64 t.snap, .int .i64 t.cs, .slice ra t.rs.length rc, .slice wa t.ws.length wc, .bool t.out, .string t.nm]) := BA.out.below hb15
        replace BR : Hid (Bx w15 (w.heap.size + 1) [.string x.1, .string x.2.1, .bool x.2.2]) := BR.out.below hb15
        replace HB : Hid (Below w.heap.size w w15) := HB.out.trans (hb15.mono HB.out.size)
        replace TR : Hid (TRow w15 t ra wa) := HP.out.row.below HB.out
        replace OB1 : Hid (Bx w15 (ob1) [.int .i64 t.id, .int .i64 t.st, .int .i64 t.snap, .int .i64 t.cs, .slice ra1 t.rs.length rc1, .slice wa1 l.length wc1, .bool t.out, .string t.nm]) := OB1.out.below hb15
        replace TT1 : Hid (TLie w15 (lo1) (hi1) (setW t l) ra1 rc1 wa1 wc1) := TT1.out.below hb15
        replace BX : Hid (Bx w15 (w4.heap.size) [.int .i64 t.id, .int .i64 t.st, .int .i64 t.snap, .int .i64 t.cs, .slice pa2 t.rs.length pc2, .slice qa2 t.ws.length qc2, .bool t.out, .string t.nm]) := BX.out.below hb15
        replace OB3 : Hid (Bx w15 (ob3) [.int .i64 t.id, .int .i64 t.st, .int .i64 t.snap, .int .i64 t.cs, .slice ra3 t.rs.length rc3, .slice wa3 l.length wc3, .bool t.out, .string t.nm]) := OB3.out.below hb15
        replace MM : Hid (TLie w15 (lo3) (hi3) (mkT (setW t l) 1) ra3 rc3 wa3 wc3) := MM.out.below hb15
        replace HN : Hid (Below (w12.heap.size) w12 w15) := HN.out.trans (hb15.mono HN.out.size)
        replace T6 : Hid (TLie w15 (w12.heap.size) w13.heap.size t pa6 pc6 qa6 qc6) := T6.out.below hb15
        replace BOX : Hid (Bx w15 (w13.heap.size) [.int .i64 0, .int .i64 0, .int .i64 0, .int .i64 0, .slice none 0 0, .slice none 0 0, .bool false, .string ⟨#[]⟩]) := BOX.out.below hb15
        have TA : Hid (TLie w15 (w14.heap.size) w15.heap.size (setW t l) ra4 rc4 wa4 wc4) := hl
        clear hl
        go_wp2_with fail
        refine hK.out _ _ ⟨BA.out.c0, BA.out.c1, BA.out.c2, BA.out.c3, BA.out.c4, BA.out.c5, BA.out.c6, BA.out.c7, BR.out.c0, BR.out.c1, BR.out.c2⟩ (fun hHeld15 => ?_)
        clear hK K hb15
        (refine wpAnyH_take (i := 5) (v := ?_) rfl (by kernel_rfl) (by kernel_rfl) (by kernel_rfl) (fun _ _ _ h => h) (Or.inl ⟨by rfl, ?_⟩) (by assumption) ?_; rotate_left; (focus (intro w hSw; (try dsimp only at hSw); go_simp; (try with_reducible rfl); done)); simp only [Act.put, List.getElem_toArray, List.getElem_cons_zero, List.getElem_cons_succ, List.setIfInBounds_toArray, List.set_cons_zero, List.set_cons_succ])
        (refine wpAnyH_take (i := 6) (v := ?_) rfl (by kernel_rfl) (by kernel_rfl) (by kernel_rfl) (fun _ _ _ h => h) (Or.inl ⟨by rfl, ?_⟩) (by assumption) ?_; rotate_left; (focus (intro w hSw; (try dsimp only at hSw); go_simp; (try with_reducible rfl); done)); simp only [Act.put, List.getElem_toArray, List.getElem_cons_zero, List.getElem_cons_succ, List.setIfInBounds_toArray, List.set_cons_zero, List.set_cons_succ])
        (refine wpAnyH_take (i := 7) (v := ?_) rfl (by kernel_rfl) (by kernel_rfl) (by kernel_rfl) (fun _ _ _ h => h) (Or.inl ⟨by rfl, ?_⟩) (by assumption) ?_; rotate_left; (focus (intro w hSw; (try dsimp only at hSw); go_simp; (try with_reducible rfl); done)); simp only [Act.put, List.getElem_toArray, List.getElem_cons_zero, List.getElem_cons_succ, List.setIfInBounds_toArray, List.set_cons_zero, List.set_cons_succ])
        have zc0 := BOX.out.c0
        have zc1 := BOX.out.c1
        have zc2 := BOX.out.c2
        have zc3 := BOX.out.c3
        have zc4 := BOX.out.c4
        have zc5 := BOX.out.c5
        have zc6 := BOX.out.c6
        have zc7 := BOX.out.c7
        have zf := BOX.out.fz
        refine wpAnyH_ready (rs := [9]) (by kernel_rfl) (by simp) ?_
        refine AllReadyH.cons rfl (fun K hK => ?_) AllReadyH.nil
        go_simp
        have hneBA : w13.heap.size ≠ w.heap.size := by have := Z1.out; have := Z2.out; have := Z3.out; have := ZZ1.out; have := Z4.out; have := ZwL.out; have := Z5.out; have := ZZ3.out; have := Z6.out; have := Z7.out; have := Z8.out; have := Z9.out; have := Z10.out; have := Z11.out; have := Z12.out; have := Z13.out; have := Z14.out; have := Z15.out; omega
        have BAs := hide0 (BA.out.o8 hneBA (.int .i64 t.id) (.int .i64 t.st) (.int .i64 t.snap) (.int .i64 t.cs) (.slice ra4 t.rs.length rc4) (.slice wa4 l.length wc4) (.bool t.out) (.string t.nm))
        have hneBR : w13.heap.size ≠ w.heap.size + 1 := by have := Z1.out; have := Z2.out; have := Z3.out; have := ZZ1.out; have := Z4.out; have := ZwL.out; have := Z5.out; have := ZZ3.out; have := Z6.out; have := Z7.out; have := Z8.out; have := Z9.out; have := Z10.out; have := Z11.out; have := Z12.out; have := Z13.out; have := Z14.out; have := Z15.out; omega
        have BRs := hide0 (BR.out.o8 hneBR (.int .i64 t.id) (.int .i64 t.st) (.int .i64 t.snap) (.int .i64 t.cs) (.slice ra4 t.rs.length rc4) (.slice wa4 l.length wc4) (.bool t.out) (.string t.nm))
        refine hK.out _ _ ⟨BAs.out.c0, BAs.out.c1, BAs.out.c2, BAs.out.c3, BAs.out.c4, BAs.out.c5, BAs.out.c6, BAs.out.c7, BRs.out.c0, BRs.out.c1, BRs.out.c2⟩ (fun hHeldS => ?_)
        clear hK K zc0 zc1 zc2 zc3 zc4 zc5 zc6 zc7 zf
        (refine wpAnyH_take (i := 10) (v := ?_) rfl (by kernel_rfl) (by kernel_rfl) (by kernel_rfl) (fun _ _ _ h => h) (Or.inl ⟨by rfl, ?_⟩) (by assumption) ?_; rotate_left; (focus (intro w hSw; (try dsimp only at hSw); go_simp; (try with_reducible rfl); done)); simp only [Act.put, List.getElem_toArray, List.getElem_cons_zero, List.getElem_cons_succ, List.setIfInBounds_toArray, List.set_cons_zero, List.set_cons_succ])
        refine wpAnyH_done (by kernel_rfl) ?_ _
        have OB : Hid (Bx ((((((((w15.setCell ⟨w13.heap.size, 0, none⟩ (.int .i64 t.id)).setCell ⟨w13.heap.size, 1, none⟩ (.int .i64 t.st)).setCell ⟨w13.heap.size, 2, none⟩ (.int .i64 t.snap)).setCell ⟨w13.heap.size, 3, none⟩ (.int .i64 t.cs)).setCell ⟨w13.heap.size, 4, none⟩ (.slice ra4 t.rs.length rc4)).setCell ⟨w13.heap.size, 5, none⟩ (.slice wa4 l.length wc4)).setCell ⟨w13.heap.size, 6, none⟩ (.bool t.out)).setCell ⟨w13.heap.size, 7, none⟩ (.string t.nm)) (w13.heap.size) [.int .i64 t.id, .int .i64 t.st, .int .i64 t.snap, .int .i64 t.cs, .slice ra4 t.rs.length rc4, .slice wa4 l.length wc4, .bool t.out, .string t.nm]) := BOX.out.s8 (.int .i64 t.id) (.int .i64 t.st) (.int .i64 t.snap) (.int .i64 t.cs) (.slice ra4 t.rs.length rc4) (.slice wa4 l.length wc4) (.bool t.out) (.string t.nm)
        have hnz : w13.heap.size < w14.heap.size ∨ w15.heap.size ≤ w13.heap.size := by have := Z1.out; have := Z2.out; have := Z3.out; have := ZZ1.out; have := Z4.out; have := ZwL.out; have := Z5.out; have := ZZ3.out; have := Z6.out; have := Z7.out; have := Z8.out; have := Z9.out; have := Z10.out; have := Z11.out; have := Z12.out; have := Z13.out; have := Z14.out; have := Z15.out; omega
        have TT : Hid (TLie ((((((((w15.setCell ⟨w13.heap.size, 0, none⟩ (.int .i64 t.id)).setCell ⟨w13.heap.size, 1, none⟩ (.int .i64 t.st)).setCell ⟨w13.heap.size, 2, none⟩ (.int .i64 t.snap)).setCell ⟨w13.heap.size, 3, none⟩ (.int .i64 t.cs)).setCell ⟨w13.heap.size, 4, none⟩ (.slice ra4 t.rs.length rc4)).setCell ⟨w13.heap.size, 5, none⟩ (.slice wa4 l.length wc4)).setCell ⟨w13.heap.size, 6, none⟩ (.bool t.out)).setCell ⟨w13.heap.size, 7, none⟩ (.string t.nm)) (w14.heap.size) (w15.heap.size) (setW t l) ra4 rc4 wa4 wc4) := TA.out.s8 hnz (.int .i64 t.id) (.int .i64 t.st) (.int .i64 t.snap) (.int .i64 t.cs) (.slice ra4 t.rs.length rc4) (.slice wa4 l.length wc4) (.bool t.out) (.string t.nm)
        have hno : w12.heap.size ≤ w13.heap.size := by have := Z1.out; have := Z2.out; have := Z3.out; have := ZZ1.out; have := Z4.out; have := ZwL.out; have := Z5.out; have := ZZ3.out; have := Z6.out; have := Z7.out; have := Z8.out; have := Z9.out; have := Z10.out; have := Z11.out; have := Z12.out; have := Z13.out; have := Z14.out; have := Z15.out; omega
        have NN : Hid (Below (w12.heap.size) w12 ((((((((w15.setCell ⟨w13.heap.size, 0, none⟩ (.int .i64 t.id)).setCell ⟨w13.heap.size, 1, none⟩ (.int .i64 t.st)).setCell ⟨w13.heap.size, 2, none⟩ (.int .i64 t.snap)).setCell ⟨w13.heap.size, 3, none⟩ (.int .i64 t.cs)).setCell ⟨w13.heap.size, 4, none⟩ (.slice ra4 t.rs.length rc4)).setCell ⟨w13.heap.size, 5, none⟩ (.slice wa4 l.length wc4)).setCell ⟨w13.heap.size, 6, none⟩ (.bool t.out)).setCell ⟨w13.heap.size, 7, none⟩ (.string t.nm))) := below_s8 HN.out hno (.int .i64 t.id) (.int .i64 t.st) (.int .i64 t.snap) (.int .i64 t.cs) (.slice ra4 t.rs.length rc4) (.slice wa4 l.length wc4) (.bool t.out) (.string t.nm)
        have SS : Hid (((((((((w15.setCell ⟨w13.heap.size, 0, none⟩ (.int .i64 t.id)).setCell ⟨w13.heap.size, 1, none⟩ (.int .i64 t.st)).setCell ⟨w13.heap.size, 2, none⟩ (.int .i64 t.snap)).setCell ⟨w13.heap.size, 3, none⟩ (.int .i64 t.cs)).setCell ⟨w13.heap.size, 4, none⟩ (.slice ra4 t.rs.length rc4)).setCell ⟨w13.heap.size, 5, none⟩ (.slice wa4 l.length wc4)).setCell ⟨w13.heap.size, 6, none⟩ (.bool t.out)).setCell ⟨w13.heap.size, 7, none⟩ (.string t.nm)).heap.size = w15.heap.size) := by show _ = _; simp [World.setCell]
        go_wp2_with fail
        go_meet
        exact ⟨w13.heap.size, w14.heap.size, w15.heap.size, ra4, wa4, rc4, wc4, rfl, rfl, (by show _ ∧ _; have := Z1.out; have := Z2.out; have := Z3.out; have := ZZ1.out; have := Z4.out; have := ZwL.out; have := Z5.out; have := ZZ3.out; have := Z6.out; have := Z7.out; have := Z8.out; have := Z9.out; have := Z10.out; have := Z11.out; have := Z12.out; have := Z13.out; have := Z14.out; have := Z15.out; have := SS.out; omega), OB, TT, NN⟩
    · go_simp
      have hba : Below w12.heap.size w12 (w12.alloc (.cells #[.int .i64 0, .int .i64 0, .int .i64 0, .int .i64 0, .slice none 0 0, .slice none 0 0, .bool false, .string ⟨#[]⟩] 27)) := (belowRefl _).alloc (Nat.le_refl _) _
      replace BA : Hid (Bx (w12.alloc (.cells #[.int .i64 0, .int .i64 0, .int .i64 0, .int .i64 0, .slice none 0 0, .slice none 0 0, .bool false, .string ⟨#[]⟩] 27)) (w.heap.size) [.int .i64 t.id, .int .i64 t.st, .int .i64 t.snap, .int .i64 t.cs, .slice ra t.rs.length rc, .slice wa t.ws.length wc, .bool t.out, .string t.nm]) := BA.out.below hba
      replace BR : Hid (Bx (w12.alloc (.cells #[.int .i64 0, .int .i64 0, .int .i64 0, .int .i64 0, .slice none 0 0, .slice none 0 0, .bool false, .string ⟨#[]⟩] 27)) (w.heap.size + 1) [.string x.1, .string x.2.1, .bool x.2.2]) := BR.out.below hba
      replace HB : Hid (Below w.heap.size w (w12.alloc (.cells #[.int .i64 0, .int .i64 0, .int .i64 0, .int .i64 0, .slice none 0 0, .slice none 0 0, .bool false, .string ⟨#[]⟩] 27))) := HB.out.trans (hba.mono HB.out.size)
      replace TR : Hid (TRow (w12.alloc (.cells #[.int .i64 0, .int .i64 0, .int .i64 0, .int .i64 0, .slice none 0 0, .slice none 0 0, .bool false, .string ⟨#[]⟩] 27)) t ra wa) := HP.out.row.below HB.out
      replace OB1 : Hid (Bx (w12.alloc (.cells #[.int .i64 0, .int .i64 0, .int .i64 0, .int .i64 0, .slice none 0 0, .slice none 0 0, .bool false, .string ⟨#[]⟩] 27)) (ob1) [.int .i64 t.id, .int .i64 t.st, .int .i64 t.snap, .int .i64 t.cs, .slice ra1 t.rs.length rc1, .slice wa1 l.length wc1, .bool t.out, .string t.nm]) := OB1.out.below hba
      replace TT1 : Hid (TLie (w12.alloc (.cells #[.int .i64 0, .int .i64 0, .int .i64 0, .int .i64 0, .slice none 0 0, .slice none 0 0, .bool false, .string ⟨#[]⟩] 27)) (lo1) (hi1) (setW t l) ra1 rc1 wa1 wc1) := TT1.out.below hba
      replace BX : Hid (Bx (w12.alloc (.cells #[.int .i64 0, .int .i64 0, .int .i64 0, .int .i64 0, .slice none 0 0, .slice none 0 0, .bool false, .string ⟨#[]⟩] 27)) (w4.heap.size) [.int .i64 t.id, .int .i64 t.st, .int .i64 t.snap, .int .i64 t.cs, .slice pa2 t.rs.length pc2, .slice qa2 t.ws.length qc2, .bool t.out, .string t.nm]) := BX.out.below hba
      replace OB3 : Hid (Bx (w12.alloc (.cells #[.int .i64 0, .int .i64 0, .int .i64 0, .int .i64 0, .slice none 0 0, .slice none 0 0, .bool false, .string ⟨#[]⟩] 27)) (ob3) [.int .i64 t.id, .int .i64 t.st, .int .i64 t.snap, .int .i64 t.cs, .slice ra3 t.rs.length rc3, .slice wa3 l.length wc3, .bool t.out, .string t.nm]) := OB3.out.below hba
      replace MM : Hid (TLie (w12.alloc (.cells #[.int .i64 0, .int .i64 0, .int .i64 0, .int .i64 0, .slice none 0 0, .slice none 0 0, .bool false, .string ⟨#[]⟩] 27)) (lo3) (hi3) (mkT (setW t l) 1) ra3 rc3 wa3 wc3) := MM.out.below hba
      replace HN : Hid (Below (w12.heap.size) w12 (w12.alloc (.cells #[.int .i64 0, .int .i64 0, .int .i64 0, .int .i64 0, .slice none 0 0, .slice none 0 0, .bool false, .string ⟨#[]⟩] 27))) := HN.out.trans (hba.mono HN.out.size)
      clear hba
      have BOX : Hid (Bx (w12.alloc (.cells #[.int .i64 0, .int .i64 0, .int .i64 0, .int .i64 0, .slice none 0 0, .slice none 0 0, .bool false, .string ⟨#[]⟩] 27)) (w12.heap.size) [.int .i64 0, .int .i64 0, .int .i64 0, .int .i64 0, .slice none 0 0, .slice none 0 0, .bool false, .string ⟨#[]⟩]) := Bx.new w12 [.int .i64 0, .int .i64 0, .int .i64 0, .int .i64 0, .slice none 0 0, .slice none 0 0, .bool false, .string ⟨#[]⟩] 27
      (try go_wp2_with fail)
      refine hK.out _ _ ⟨BA.out.drew.c0, BA.out.drew.c1, BA.out.drew.c2, BA.out.drew.c3, BA.out.drew.c4, BA.out.drew.c5, BA.out.drew.c6, BA.out.drew.c7, BR.out.drew.c0, BR.out.drew.c1, BR.out.drew.c2⟩ (fun hHeldB => ?_)
      clear hK K
      refine wpAnyH_ready (rs := [1]) (by kernel_rfl) (by simp) ?_
      refine AllReadyH.cons rfl (fun K hK => ?_) AllReadyH.nil
      go_simp
      go_wp2_with fail
      refine (toT t ra wa rc wc (by omega) (by omega) _ TR.out.drewT).mono ?_
      rintro e w13 ⟨pa6, pc6, qa6, qc6, rfl, hl, hb13⟩
      have hbu13 := undrew hb13
      have Z13 : Hid (w12.heap.size + 1 ≤ w13.heap.size) := by show _ ≤ _; have h := hbu13.size; simpa using h
      replace BA : Hid (Bx w13 (w.heap.size) [.int .i64 t.id, .int .i64 t.st, .int .i64 t.snap, .int .i64 t.cs, .slice ra t.rs.length rc, .slice wa t.ws.length wc, .bool t.out, .string t.nm]) := BA.out.below hbu13
      replace BR : Hid (Bx w13 (w.heap.size + 1) [.string x.1, .string x.2.1, .bool x.2.2]) := BR.out.below hbu13
      replace HB : Hid (Below w.heap.size w w13) := HB.out.trans (hbu13.mono HB.out.size)
      replace TR : Hid (TRow w13 t ra wa) := HP.out.row.below HB.out
      replace OB1 : Hid (Bx w13 (ob1) [.int .i64 t.id, .int .i64 t.st, .int .i64 t.snap, .int .i64 t.cs, .slice ra1 t.rs.length rc1, .slice wa1 l.length wc1, .bool t.out, .string t.nm]) := OB1.out.below hbu13
      replace TT1 : Hid (TLie w13 (lo1) (hi1) (setW t l) ra1 rc1 wa1 wc1) := TT1.out.below hbu13
      replace BX : Hid (Bx w13 (w4.heap.size) [.int .i64 t.id, .int .i64 t.st, .int .i64 t.snap, .int .i64 t.cs, .slice pa2 t.rs.length pc2, .slice qa2 t.ws.length qc2, .bool t.out, .string t.nm]) := BX.out.below hbu13
      replace OB3 : Hid (Bx w13 (ob3) [.int .i64 t.id, .int .i64 t.st, .int .i64 t.snap, .int .i64 t.cs, .slice ra3 t.rs.length rc3, .slice wa3 l.length wc3, .bool t.out, .string t.nm]) := OB3.out.below hbu13
      replace MM : Hid (TLie w13 (lo3) (hi3) (mkT (setW t l) 1) ra3 rc3 wa3 wc3) := MM.out.below hbu13
      replace HN : Hid (Below (w12.heap.size) w12 w13) := HN.out.trans (hbu13.mono HN.out.size)
      replace BOX : Hid (Bx w13 (w12.heap.size) [.int .i64 0, .int .i64 0, .int .i64 0, .int .i64 0, .slice none 0 0, .slice none 0 0, .bool false, .string ⟨#[]⟩]) := BOX.out.below hbu13
      have T6 : Hid (TLie w13 (w12.heap.size + 1) w13.heap.size t pa6 pc6 qa6 qc6) := (by show TLie _ _ _ _ _ _ _ _; simpa using hl)
      clear hl
      go_wp2_with fail
      refine hK.out _ _ ⟨BA.out.c0, BA.out.c1, BA.out.c2, BA.out.c3, BA.out.c4, BA.out.c5, BA.out.c6, BA.out.c7, BR.out.c0, BR.out.c1, BR.out.c2⟩ (fun hHeld13 => ?_)
      clear hK K hb13 hbu13
      refine wpAnyH_ready (rs := [3]) (by kernel_rfl) (by simp) ?_
      refine AllReadyH.cons rfl (fun K hK => ?_) AllReadyH.nil
      go_simp
      go_wp2_with fail
      refine (TW.out _).mono ?_
      rintro e w14 ⟨rfl, hb14⟩
      have Z14 : Hid (w13.heap.size ≤ w14.heap.size) := by show _ ≤ _; have h := hb14.size; simpa using h
      replace BA : Hid (Bx w14 (w.heap.size) [.int .i64 t.id, .int .i64 t.st, .int .i64 t.snap, .int .i64 t.cs, .slice ra t.rs.length rc, .slice wa t.ws.length wc, .bool t.out, .string t.nm]) := BA.out.below hb14
      replace BR : Hid (Bx w14 (w.heap.size + 1) [.string x.1, .string x.2.1, .bool x.2.2]) := BR.out.below hb14
      replace HB : Hid (Below w.heap.size w w14) := HB.out.trans (hb14.mono HB.out.size)
      replace TR : Hid (TRow w14 t ra wa) := HP.out.row.below HB.out
      replace OB1 : Hid (Bx w14 (ob1) [.int .i64 t.id, .int .i64 t.st, .int .i64 t.snap, .int .i64 t.cs, .slice ra1 t.rs.length rc1, .slice wa1 l.length wc1, .bool t.out, .string t.nm]) := OB1.out.below hb14
      replace TT1 : Hid (TLie w14 (lo1) (hi1) (setW t l) ra1 rc1 wa1 wc1) := TT1.out.below hb14
      replace BX : Hid (Bx w14 (w4.heap.size) [.int .i64 t.id, .int .i64 t.st, .int .i64 t.snap, .int .i64 t.cs, .slice pa2 t.rs.length pc2, .slice qa2 t.ws.length qc2, .bool t.out, .string t.nm]) := BX.out.below hb14
      replace OB3 : Hid (Bx w14 (ob3) [.int .i64 t.id, .int .i64 t.st, .int .i64 t.snap, .int .i64 t.cs, .slice ra3 t.rs.length rc3, .slice wa3 l.length wc3, .bool t.out, .string t.nm]) := OB3.out.below hb14
      replace MM : Hid (TLie w14 (lo3) (hi3) (mkT (setW t l) 1) ra3 rc3 wa3 wc3) := MM.out.below hb14
      replace HN : Hid (Below (w12.heap.size) w12 w14) := HN.out.trans (hb14.mono HN.out.size)
      replace BOX : Hid (Bx w14 (w12.heap.size) [.int .i64 0, .int .i64 0, .int .i64 0, .int .i64 0, .slice none 0 0, .slice none 0 0, .bool false, .string ⟨#[]⟩]) := BOX.out.below hb14
      replace T6 : Hid (TLie w14 (w12.heap.size + 1) w13.heap.size t pa6 pc6 qa6 qc6) := T6.out.below hb14
      go_wp2_with fail
      refine hK.out _ _ ⟨BA.out.c0, BA.out.c1, BA.out.c2, BA.out.c3, BA.out.c4, BA.out.c5, BA.out.c6, BA.out.c7, BR.out.c0, BR.out.c1, BR.out.c2⟩ (fun hHeld14 => ?_)
      clear hK K hb14
      refine wpAnyH_ready (rs := [4]) (by kernel_rfl) (by simp) ?_
      refine AllReadyH.cons rfl (fun K hK => ?_) AllReadyH.nil
      go_simp
      go_wp2_with fail
      refine (CI.out pa6 pc6 qa6 qc6 _ T6.out.row).mono ?_
      rintro e w15 ⟨ra4, rc4, wa4, wc4, rfl, hl, hb15⟩
      have Z15 : Hid (w14.heap.size ≤ w15.heap.size) := by show _ ≤ _; have h := hb15.size; simpa using h
      replace BA : Hid (Bx w15 (w.heap.size) [.int .i64 t.id, .int .i64 t.st, .int .i64 t.snap, .int .i64 t.cs, .slice ra t.rs.length rc, .slice wa t.ws.length wc, .bool t.out, .string t.nm]) := BA.out.below hb15
      replace BR : Hid (Bx w15 (w.heap.size + 1) [.string x.1, .string x.2.1, .bool x.2.2]) := BR.out.below hb15
      replace HB : Hid (Below w.heap.size w w15) := HB.out.trans (hb15.mono HB.out.size)
      replace TR : Hid (TRow w15 t ra wa) := HP.out.row.below HB.out
      replace OB1 : Hid (Bx w15 (ob1) [.int .i64 t.id, .int .i64 t.st, .int .i64 t.snap, .int .i64 t.cs, .slice ra1 t.rs.length rc1, .slice wa1 l.length wc1, .bool t.out, .string t.nm]) := OB1.out.below hb15
      replace TT1 : Hid (TLie w15 (lo1) (hi1) (setW t l) ra1 rc1 wa1 wc1) := TT1.out.below hb15
      replace BX : Hid (Bx w15 (w4.heap.size) [.int .i64 t.id, .int .i64 t.st, .int .i64 t.snap, .int .i64 t.cs, .slice pa2 t.rs.length pc2, .slice qa2 t.ws.length qc2, .bool t.out, .string t.nm]) := BX.out.below hb15
      replace OB3 : Hid (Bx w15 (ob3) [.int .i64 t.id, .int .i64 t.st, .int .i64 t.snap, .int .i64 t.cs, .slice ra3 t.rs.length rc3, .slice wa3 l.length wc3, .bool t.out, .string t.nm]) := OB3.out.below hb15
      replace MM : Hid (TLie w15 (lo3) (hi3) (mkT (setW t l) 1) ra3 rc3 wa3 wc3) := MM.out.below hb15
      replace HN : Hid (Below (w12.heap.size) w12 w15) := HN.out.trans (hb15.mono HN.out.size)
      replace BOX : Hid (Bx w15 (w12.heap.size) [.int .i64 0, .int .i64 0, .int .i64 0, .int .i64 0, .slice none 0 0, .slice none 0 0, .bool false, .string ⟨#[]⟩]) := BOX.out.below hb15
      replace T6 : Hid (TLie w15 (w12.heap.size + 1) w13.heap.size t pa6 pc6 qa6 qc6) := T6.out.below hb15
      have TA : Hid (TLie w15 (w14.heap.size) w15.heap.size (setW t l) ra4 rc4 wa4 wc4) := hl
      clear hl
      go_wp2_with fail
      refine hK.out _ _ ⟨BA.out.c0, BA.out.c1, BA.out.c2, BA.out.c3, BA.out.c4, BA.out.c5, BA.out.c6, BA.out.c7, BR.out.c0, BR.out.c1, BR.out.c2⟩ (fun hHeld15 => ?_)
      clear hK K hb15
      (refine wpAnyH_take (i := 5) (v := ?_) rfl (by kernel_rfl) (by kernel_rfl) (by kernel_rfl) (fun _ _ _ h => h) (Or.inl ⟨by rfl, ?_⟩) (by assumption) ?_; rotate_left; (focus (intro w hSw; (try dsimp only at hSw); go_simp; (try with_reducible rfl); done)); simp only [Act.put, List.getElem_toArray, List.getElem_cons_zero, List.getElem_cons_succ, List.setIfInBounds_toArray, List.set_cons_zero, List.set_cons_succ])
      (refine wpAnyH_take (i := 6) (v := ?_) rfl (by kernel_rfl) (by kernel_rfl) (by kernel_rfl) (fun _ _ _ h => h) (Or.inl ⟨by rfl, ?_⟩) (by assumption) ?_; rotate_left; (focus (intro w hSw; (try dsimp only at hSw); go_simp; (try with_reducible rfl); done)); simp only [Act.put, List.getElem_toArray, List.getElem_cons_zero, List.getElem_cons_succ, List.setIfInBounds_toArray, List.set_cons_zero, List.set_cons_succ])
      (refine wpAnyH_take (i := 7) (v := ?_) rfl (by kernel_rfl) (by kernel_rfl) (by kernel_rfl) (fun _ _ _ h => h) (Or.inl ⟨by rfl, ?_⟩) (by assumption) ?_; rotate_left; (focus (intro w hSw; (try dsimp only at hSw); go_simp; (try with_reducible rfl); done)); simp only [Act.put, List.getElem_toArray, List.getElem_cons_zero, List.getElem_cons_succ, List.setIfInBounds_toArray, List.set_cons_zero, List.set_cons_succ])
      have zc0 := BOX.out.c0
      have zc1 := BOX.out.c1
      have zc2 := BOX.out.c2
      have zc3 := BOX.out.c3
      have zc4 := BOX.out.c4
      have zc5 := BOX.out.c5
      have zc6 := BOX.out.c6
      have zc7 := BOX.out.c7
      have zf := BOX.out.fz
      refine wpAnyH_ready (rs := [9]) (by kernel_rfl) (by simp) ?_
      refine AllReadyH.cons rfl (fun K hK => ?_) AllReadyH.nil
      go_simp
      have hneBA : w12.heap.size ≠ w.heap.size := by have := Z1.out; have := Z2.out; have := Z3.out; have := ZZ1.out; have := Z4.out; have := ZwL.out; have := Z5.out; have := ZZ3.out; have := Z6.out; have := Z7.out; have := Z8.out; have := Z9.out; have := Z10.out; have := Z11.out; have := Z12.out; have := Z13.out; have := Z14.out; have := Z15.out; omega
      have BAs := hide0 (BA.out.o8 hneBA (.int .i64 t.id) (.int .i64 t.st) (.int .i64 t.snap) (.int .i64 t.cs) (.slice ra4 t.rs.length rc4) (.slice wa4 l.length wc4) (.bool t.out) (.string t.nm))
      have hneBR : w12.heap.size ≠ w.heap.size + 1 := by have := Z1.out; have := Z2.out; have := Z3.out; have := ZZ1.out; have := Z4.out; have := ZwL.out; have := Z5.out; have := ZZ3.out; have := Z6.out; have := Z7.out; have := Z8.out; have := Z9.out; have := Z10.out; have := Z11.out; have := Z12.out; have := Z13.out; have := Z14.out; have := Z15.out; omega
      have BRs := hide0 (BR.out.o8 hneBR (.int .i64 t.id) (.int .i64 t.st) (.int .i64 t.snap) (.int .i64 t.cs) (.slice ra4 t.rs.length rc4) (.slice wa4 l.length wc4) (.bool t.out) (.string t.nm))
      refine hK.out _ _ ⟨BAs.out.c0, BAs.out.c1, BAs.out.c2, BAs.out.c3, BAs.out.c4, BAs.out.c5, BAs.out.c6, BAs.out.c7, BRs.out.c0, BRs.out.c1, BRs.out.c2⟩ (fun hHeldS => ?_)
      clear hK K zc0 zc1 zc2 zc3 zc4 zc5 zc6 zc7 zf
      (refine wpAnyH_take (i := 10) (v := ?_) rfl (by kernel_rfl) (by kernel_rfl) (by kernel_rfl) (fun _ _ _ h => h) (Or.inl ⟨by rfl, ?_⟩) (by assumption) ?_; rotate_left; (focus (intro w hSw; (try dsimp only at hSw); go_simp; (try with_reducible rfl); done)); simp only [Act.put, List.getElem_toArray, List.getElem_cons_zero, List.getElem_cons_succ, List.setIfInBounds_toArray, List.set_cons_zero, List.set_cons_succ])
      refine wpAnyH_done (by kernel_rfl) ?_ _
      have OB : Hid (Bx ((((((((w15.setCell ⟨w12.heap.size, 0, none⟩ (.int .i64 t.id)).setCell ⟨w12.heap.size, 1, none⟩ (.int .i64 t.st)).setCell ⟨w12.heap.size, 2, none⟩ (.int .i64 t.snap)).setCell ⟨w12.heap.size, 3, none⟩ (.int .i64 t.cs)).setCell ⟨w12.heap.size, 4, none⟩ (.slice ra4 t.rs.length rc4)).setCell ⟨w12.heap.size, 5, none⟩ (.slice wa4 l.length wc4)).setCell ⟨w12.heap.size, 6, none⟩ (.bool t.out)).setCell ⟨w12.heap.size, 7, none⟩ (.string t.nm)) (w12.heap.size) [.int .i64 t.id, .int .i64 t.st, .int .i64 t.snap, .int .i64 t.cs, .slice ra4 t.rs.length rc4, .slice wa4 l.length wc4, .bool t.out, .string t.nm]) := BOX.out.s8 (.int .i64 t.id) (.int .i64 t.st) (.int .i64 t.snap) (.int .i64 t.cs) (.slice ra4 t.rs.length rc4) (.slice wa4 l.length wc4) (.bool t.out) (.string t.nm)
      have hnz : w12.heap.size < w14.heap.size ∨ w15.heap.size ≤ w12.heap.size := by have := Z1.out; have := Z2.out; have := Z3.out; have := ZZ1.out; have := Z4.out; have := ZwL.out; have := Z5.out; have := ZZ3.out; have := Z6.out; have := Z7.out; have := Z8.out; have := Z9.out; have := Z10.out; have := Z11.out; have := Z12.out; have := Z13.out; have := Z14.out; have := Z15.out; omega
      have TT : Hid (TLie ((((((((w15.setCell ⟨w12.heap.size, 0, none⟩ (.int .i64 t.id)).setCell ⟨w12.heap.size, 1, none⟩ (.int .i64 t.st)).setCell ⟨w12.heap.size, 2, none⟩ (.int .i64 t.snap)).setCell ⟨w12.heap.size, 3, none⟩ (.int .i64 t.cs)).setCell ⟨w12.heap.size, 4, none⟩ (.slice ra4 t.rs.length rc4)).setCell ⟨w12.heap.size, 5, none⟩ (.slice wa4 l.length wc4)).setCell ⟨w12.heap.size, 6, none⟩ (.bool t.out)).setCell ⟨w12.heap.size, 7, none⟩ (.string t.nm)) (w14.heap.size) (w15.heap.size) (setW t l) ra4 rc4 wa4 wc4) := TA.out.s8 hnz (.int .i64 t.id) (.int .i64 t.st) (.int .i64 t.snap) (.int .i64 t.cs) (.slice ra4 t.rs.length rc4) (.slice wa4 l.length wc4) (.bool t.out) (.string t.nm)
      have hno : w12.heap.size ≤ w12.heap.size := by have := Z1.out; have := Z2.out; have := Z3.out; have := ZZ1.out; have := Z4.out; have := ZwL.out; have := Z5.out; have := ZZ3.out; have := Z6.out; have := Z7.out; have := Z8.out; have := Z9.out; have := Z10.out; have := Z11.out; have := Z12.out; have := Z13.out; have := Z14.out; have := Z15.out; omega
      have NN : Hid (Below (w12.heap.size) w12 ((((((((w15.setCell ⟨w12.heap.size, 0, none⟩ (.int .i64 t.id)).setCell ⟨w12.heap.size, 1, none⟩ (.int .i64 t.st)).setCell ⟨w12.heap.size, 2, none⟩ (.int .i64 t.snap)).setCell ⟨w12.heap.size, 3, none⟩ (.int .i64 t.cs)).setCell ⟨w12.heap.size, 4, none⟩ (.slice ra4 t.rs.length rc4)).setCell ⟨w12.heap.size, 5, none⟩ (.slice wa4 l.length wc4)).setCell ⟨w12.heap.size, 6, none⟩ (.bool t.out)).setCell ⟨w12.heap.size, 7, none⟩ (.string t.nm))) := below_s8 HN.out hno (.int .i64 t.id) (.int .i64 t.st) (.int .i64 t.snap) (.int .i64 t.cs) (.slice ra4 t.rs.length rc4) (.slice wa4 l.length wc4) (.bool t.out) (.string t.nm)
      have SS : Hid (((((((((w15.setCell ⟨w12.heap.size, 0, none⟩ (.int .i64 t.id)).setCell ⟨w12.heap.size, 1, none⟩ (.int .i64 t.st)).setCell ⟨w12.heap.size, 2, none⟩ (.int .i64 t.snap)).setCell ⟨w12.heap.size, 3, none⟩ (.int .i64 t.cs)).setCell ⟨w12.heap.size, 4, none⟩ (.slice ra4 t.rs.length rc4)).setCell ⟨w12.heap.size, 5, none⟩ (.slice wa4 l.length wc4)).setCell ⟨w12.heap.size, 6, none⟩ (.bool t.out)).setCell ⟨w12.heap.size, 7, none⟩ (.string t.nm)).heap.size = w15.heap.size) := by show _ = _; simp [World.setCell]
      go_wp2_with fail
      go_meet
      exact ⟨w12.heap.size, w14.heap.size, w15.heap.size, ra4, wa4, rc4, wc4, rfl, rfl, (by show _ ∧ _; have := Z1.out; have := Z2.out; have := Z3.out; have := ZZ1.out; have := Z4.out; have := ZwL.out; have := Z5.out; have := ZZ3.out; have := Z6.out; have := Z7.out; have := Z8.out; have := Z9.out; have := Z10.out; have := Z11.out; have := Z12.out; have := Z13.out; have := Z14.out; have := Z15.out; have := SS.out; omega), OB, TT, NN⟩
  case rest =>
  obtain ⟨ob4, lo4, hi4, ra4, wa4, rc4, wc4, rfl, rfl, ZZ4, OB4, TT4, hbn⟩ := hcut
  obtain ⟨w13, rfl⟩ : ∃ x, x = wc := ⟨_, rfl⟩
  have hb13 : Below w12.heap.size w12 w13 := hbn.out
  have Z13 : Hid (w12.heap.size ≤ w13.heap.size) := by show _ ≤ _; have h := hb13.size; simpa using h
  replace BA : Hid (Bx w13 (w.heap.size) [.int .i64 t.id, .int .i64 t.st, .int .i64 t.snap, .int .i64 t.cs, .slice ra t.rs.length rc, .slice wa t.ws.length wc, .bool t.out, .string t.nm]) := BA.out.below hb13
  replace BR : Hid (Bx w13 (w.heap.size + 1) [.string x.1, .string x.2.1, .bool x.2.2]) := BR.out.below hb13
  replace HB : Hid (Below w.heap.size w w13) := HB.out.trans (hb13.mono HB.out.size)
  replace TR : Hid (TRow w13 t ra wa) := HP.out.row.below HB.out
  replace OB1 : Hid (Bx w13 (ob1) [.int .i64 t.id, .int .i64 t.st, .int .i64 t.snap, .int .i64 t.cs, .slice ra1 t.rs.length rc1, .slice wa1 l.length wc1, .bool t.out, .string t.nm]) := OB1.out.below hb13
  replace TT1 : Hid (TLie w13 (lo1) (hi1) (setW t l) ra1 rc1 wa1 wc1) := TT1.out.below hb13
  replace BX : Hid (Bx w13 (w4.heap.size) [.int .i64 t.id, .int .i64 t.st, .int .i64 t.snap, .int .i64 t.cs, .slice pa2 t.rs.length pc2, .slice qa2 t.ws.length qc2, .bool t.out, .string t.nm]) := BX.out.below hb13
  replace OB3 : Hid (Bx w13 (ob3) [.int .i64 t.id, .int .i64 t.st, .int .i64 t.snap, .int .i64 t.cs, .slice ra3 t.rs.length rc3, .slice wa3 l.length wc3, .bool t.out, .string t.nm]) := OB3.out.below hb13
  replace MM : Hid (TLie w13 (lo3) (hi3) (mkT (setW t l) 1) ra3 rc3 wa3 wc3) := MM.out.below hb13
  clear hbn hb13
  have x0 := OB4.out.c0
  have x1 := OB4.out.c1
  have x2 := OB4.out.c2
  have x3 := OB4.out.c3
  have x4 := OB4.out.c4
  have x5 := OB4.out.c5
  have x6 := OB4.out.c6
  have x7 := OB4.out.c7
  have y0 := OB1.out.c0
  have y1 := OB1.out.c1
  have y2 := OB1.out.c2
  have y3 := OB1.out.c3
  have y4 := OB1.out.c4
  have y5 := OB1.out.c5
  have y6 := OB1.out.c6
  have y7 := OB1.out.c7
  go_wp2_with fail
  refine (eqT (setW t l) ra4 wa4 ra1 wa1 rc4 wc4 rc1 wc1 (by show t.rs.length ≤ _; omega) (by show l.length ≤ _; omega) _ TT4.out.row TT1.out.row).mono ?_
  rintro e w14 ⟨rfl, hb14⟩
  have Z14 : Hid (w13.heap.size ≤ w14.heap.size) := by show _ ≤ _; have h := hb14.size; simpa using h
  replace BA : Hid (Bx w14 (w.heap.size) [.int .i64 t.id, .int .i64 t.st, .int .i64 t.snap, .int .i64 t.cs, .slice ra t.rs.length rc, .slice wa t.ws.length wc, .bool t.out, .string t.nm]) := BA.out.below hb14
  replace BR : Hid (Bx w14 (w.heap.size + 1) [.string x.1, .string x.2.1, .bool x.2.2]) := BR.out.below hb14
  replace HB : Hid (Below w.heap.size w w14) := HB.out.trans (hb14.mono HB.out.size)
  replace TR : Hid (TRow w14 t ra wa) := HP.out.row.below HB.out
  replace OB1 : Hid (Bx w14 (ob1) [.int .i64 t.id, .int .i64 t.st, .int .i64 t.snap, .int .i64 t.cs, .slice ra1 t.rs.length rc1, .slice wa1 l.length wc1, .bool t.out, .string t.nm]) := OB1.out.below hb14
  replace TT1 : Hid (TLie w14 (lo1) (hi1) (setW t l) ra1 rc1 wa1 wc1) := TT1.out.below hb14
  replace BX : Hid (Bx w14 (w4.heap.size) [.int .i64 t.id, .int .i64 t.st, .int .i64 t.snap, .int .i64 t.cs, .slice pa2 t.rs.length pc2, .slice qa2 t.ws.length qc2, .bool t.out, .string t.nm]) := BX.out.below hb14
  replace OB3 : Hid (Bx w14 (ob3) [.int .i64 t.id, .int .i64 t.st, .int .i64 t.snap, .int .i64 t.cs, .slice ra3 t.rs.length rc3, .slice wa3 l.length wc3, .bool t.out, .string t.nm]) := OB3.out.below hb14
  replace MM : Hid (TLie w14 (lo3) (hi3) (mkT (setW t l) 1) ra3 rc3 wa3 wc3) := MM.out.below hb14
  replace OB4 : Hid (Bx w14 (ob4) [.int .i64 t.id, .int .i64 t.st, .int .i64 t.snap, .int .i64 t.cs, .slice ra4 t.rs.length rc4, .slice wa4 l.length wc4, .bool t.out, .string t.nm]) := OB4.out.below hb14
  replace TT4 : Hid (TLie w14 (lo4) (hi4) (setW t l) ra4 rc4 wa4 wc4) := TT4.out.below hb14
  clear hb14 x0 x1 x2 x3 x4 x5 x6 x7 y0 y1 y2 y3 y4 y5 y6 y7
  have x0 := OB3.out.c0
  have x1 := OB3.out.c1
  have x2 := OB3.out.c2
  have x3 := OB3.out.c3
  have x4 := OB3.out.c4
  have x5 := OB3.out.c5
  have x6 := OB3.out.c6
  have x7 := OB3.out.c7
  go_wp2_with fail
  refine (heldT (setW t l) ra3 wa3 rc3 wc3 1 (by show t.rs.length ≤ _; omega) (by show l.length ≤ _; omega) (by omega) (by omega) _ MM.out.row).mono ?_
  rintro e w15 ⟨rfl, hb15⟩
  have Z15 : Hid (w14.heap.size ≤ w15.heap.size) := by show _ ≤ _; have h := hb15.size; simpa using h
  replace BA : Hid (Bx w15 (w.heap.size) [.int .i64 t.id, .int .i64 t.st, .int .i64 t.snap, .int .i64 t.cs, .slice ra t.rs.length rc, .slice wa t.ws.length wc, .bool t.out, .string t.nm]) := BA.out.below hb15
  replace BR : Hid (Bx w15 (w.heap.size + 1) [.string x.1, .string x.2.1, .bool x.2.2]) := BR.out.below hb15
  replace HB : Hid (Below w.heap.size w w15) := HB.out.trans (hb15.mono HB.out.size)
  replace TR : Hid (TRow w15 t ra wa) := HP.out.row.below HB.out
  replace OB1 : Hid (Bx w15 (ob1) [.int .i64 t.id, .int .i64 t.st, .int .i64 t.snap, .int .i64 t.cs, .slice ra1 t.rs.length rc1, .slice wa1 l.length wc1, .bool t.out, .string t.nm]) := OB1.out.below hb15
  replace TT1 : Hid (TLie w15 (lo1) (hi1) (setW t l) ra1 rc1 wa1 wc1) := TT1.out.below hb15
  replace BX : Hid (Bx w15 (w4.heap.size) [.int .i64 t.id, .int .i64 t.st, .int .i64 t.snap, .int .i64 t.cs, .slice pa2 t.rs.length pc2, .slice qa2 t.ws.length qc2, .bool t.out, .string t.nm]) := BX.out.below hb15
  replace OB3 : Hid (Bx w15 (ob3) [.int .i64 t.id, .int .i64 t.st, .int .i64 t.snap, .int .i64 t.cs, .slice ra3 t.rs.length rc3, .slice wa3 l.length wc3, .bool t.out, .string t.nm]) := OB3.out.below hb15
  replace MM : Hid (TLie w15 (lo3) (hi3) (mkT (setW t l) 1) ra3 rc3 wa3 wc3) := MM.out.below hb15
  replace OB4 : Hid (Bx w15 (ob4) [.int .i64 t.id, .int .i64 t.st, .int .i64 t.snap, .int .i64 t.cs, .slice ra4 t.rs.length rc4, .slice wa4 l.length wc4, .bool t.out, .string t.nm]) := OB4.out.below hb15
  replace TT4 : Hid (TLie w15 (lo4) (hi4) (setW t l) ra4 rc4 wa4 wc4) := TT4.out.below hb15
  rw [← HK3.out]
  clear hb15 x0 x1 x2 x3 x4 x5 x6 x7
  go_wp2
  go_ret
  exact ⟨rfl, HB.out⟩
end Go.Proofs.Ytblfljmcbpodbaa

/- The law FnExactDanger, walked. -/
import Derived.Test.YtnefncmkhgkdnaaN13
namespace Go.Proofs.Ytnefncmkhgkdnaa
open Go.RowKit
open KM
attribute [local go_sem ↓] Go.wp_at_zero Go.wp_at_succ

set_option maxRecDepth 100000 in
set_option maxHeartbeats 2000000 in
theorem law4 (t : Tx) (xs : List Ta) (ra wa : Option Addr) (rc wc : Nat) (la : Option Addr) (lc : Nat) (w : World) (hpt : TArg w t ra wa) (hpl : LArg w la xs) : Calls Try.prog 4 #[.agg #[.int .i64 t.id, .int .i64 t.st, .int .i64 t.snap, .int .i64 t.cs, .slice ra t.rs.length rc, .slice wa t.ws.length wc, .bool t.out, .string t.nm], .slice la xs.length lc] w fun e w' => e = .returned (.bool true) ∧ Below w.heap.size w w' := by
  have HPt : Hid (TArg w t ra wa) := hpt
  have HPl : Hid (LArg w la xs) := hpl
  clear hpt hpl
  have BA : Hid (Bx (w.alloc (.cells #[.int .i64 t.id, .int .i64 t.st, .int .i64 t.snap, .int .i64 t.cs, .slice ra t.rs.length rc, .slice wa t.ws.length wc, .bool t.out, .string t.nm] 35)) w.heap.size [.int .i64 t.id, .int .i64 t.st, .int .i64 t.snap, .int .i64 t.cs, .slice ra t.rs.length rc, .slice wa t.ws.length wc, .bool t.out, .string t.nm]) := Bx.new w [.int .i64 t.id, .int .i64 t.st, .int .i64 t.snap, .int .i64 t.cs, .slice ra t.rs.length rc, .slice wa t.ws.length wc, .bool t.out, .string t.nm] 35
  have HB : Hid (Below w.heap.size w (w.alloc (.cells #[.int .i64 t.id, .int .i64 t.st, .int .i64 t.snap, .int .i64 t.cs, .slice ra t.rs.length rc, .slice wa t.ws.length wc, .bool t.out, .string t.nm] 35))) := (belowRefl w).alloc (Nat.le_refl _) _
  have TRt : Hid (TRow (w.alloc (.cells #[.int .i64 t.id, .int .i64 t.st, .int .i64 t.snap, .int .i64 t.cs, .slice ra t.rs.length rc, .slice wa t.ws.length wc, .bool t.out, .string t.nm] 35)) t ra wa) := HPt.out.row.below HB.out
  have LA : Hid (LArg (w.alloc (.cells #[.int .i64 t.id, .int .i64 t.st, .int .i64 t.snap, .int .i64 t.cs, .slice ra t.rs.length rc, .slice wa t.ws.length wc, .bool t.out, .string t.nm] 35)) la xs) := HPl.out.below HB.out
  go_enter Try.func4, Try.ntmps4
  go_wp2_with fail
  refine (szT t ra wa rc wc 1048576 (by omega) (by omega) _ ⟨HPt.out.rl, HPt.out.rf, HPt.out.wl, HPt.out.wf, HPt.out.nm, TRt.out⟩).mono ?_
  rintro e w1 ⟨hb1, lft, rfl, hut, hrt⟩
  replace BA : Hid (Bx w1 w.heap.size [.int .i64 t.id, .int .i64 t.st, .int .i64 t.snap, .int .i64 t.cs, .slice ra t.rs.length rc, .slice wa t.ws.length wc, .bool t.out, .string t.nm]) := BA.out.below hb1
  replace HB : Hid (Below w.heap.size w w1) := HB.out.trans (hb1.mono HB.out.size)
  replace TRt : Hid (TRow w1 t ra wa) := TRt.out.below hb1
  replace LA : Hid (LArg w1 la xs) := LA.out.below hb1
  clear hb1
  by_cases hneg : lft < 0
  · clear hrt
    go_wp2
    go_ret
    exact ⟨rfl, HB.out⟩
  have hpost : ¬ lft < 0 := hneg
  have HFt : Hid (TFit t) := hrt (by omega)
  clear hrt hneg
  have hrlt : t.rs.length ≤ 100000000 := Nat.le_trans HFt.out.1 (by omega)
  have hwlt : t.ws.length ≤ 100000000 := Nat.le_trans HFt.out.2.2.1 (by omega)
  go_wp2_with fail
  refine (szL xs la lc lft (by omega) hut _ LA.out).mono ?_
  rintro e w2 ⟨hb2, lfl, rfl, hul, hrl⟩
  replace BA : Hid (Bx w2 w.heap.size [.int .i64 t.id, .int .i64 t.st, .int .i64 t.snap, .int .i64 t.cs, .slice ra t.rs.length rc, .slice wa t.ws.length wc, .bool t.out, .string t.nm]) := BA.out.below hb2
  replace HB : Hid (Below w.heap.size w w2) := HB.out.trans (hb2.mono HB.out.size)
  replace TRt : Hid (TRow w2 t ra wa) := TRt.out.below hb2
  replace LA : Hid (LArg w2 la xs) := LA.out.below hb2
  clear hb2
  by_cases hneg : lfl < 0
  · clear hrl
    go_wp2
    go_ret
    exact ⟨rfl, HB.out⟩
  have hposl : ¬ lfl < 0 := hneg
  have HFl : Hid (LFit (txs xs)) := hrl (by omega)
  clear hrl hneg
  have hxl : xs.length ≤ 1048576 := by have h := HFl.out.1; rwa [txs_len] at h
  have CS : Hid (∀ (pa : Option Addr) (pc : Nat) (qa : Option Addr) (qc : Nat) (ys : List Ta) (a1 : Option Addr) (c1 : Nat) (W : World), txs ys = txs xs → ys.length = xs.length → TRow W t pa qa → TRows W a1 ys → Calls Try.prog 15 #[.agg #[.int .i64 t.id, .int .i64 t.st, .int .i64 t.snap, .int .i64 t.cs, .slice pa t.rs.length pc, .slice qa t.ws.length qc, .bool t.out, .string t.nm], .slice a1 xs.length c1] W fun e w' => e = .returned (.bool (dangerB t (txs xs))) ∧ Below W.heap.size W w') := fun pa pc qa qc ys a1 c1 W h1 h2 h3 h4 => by
    have h := sdanger t pa qa pc qc ys a1 c1 xs.length h2.symm (by omega) HFt.out (by rw [h1]; exact HFl.out) W h3 h4
    rwa [h1] at h
  have CI : Hid (∀ (pa : Option Addr) (pc : Nat) (qa : Option Addr) (qc : Nat) (ys : List Ta) (a1 : Option Addr) (c1 : Nat) (W : World), txs ys = txs xs → ys.length = xs.length → TRow W t pa qa → TRows W a1 ys → Calls Try.prog 14 #[.agg #[.int .i64 t.id, .int .i64 t.st, .int .i64 t.snap, .int .i64 t.cs, .slice pa t.rs.length pc, .slice qa t.ws.length qc, .bool t.out, .string t.nm], .slice a1 xs.length c1] W fun e w' => e = .returned (.bool (dangerB t (txs xs))) ∧ Below W.heap.size W w') := fun pa pc qa qc ys a1 c1 W h1 h2 h3 h4 => by
    have h := idanger t pa qa pc qc ys a1 c1 xs.length h2.symm (by omega) HFt.out (by rw [h1]; exact HFl.out) W h3 h4
    rwa [h1] at h
  have HRS : Hid (∃ rb, rb = dangerB t (txs xs)) := ⟨_, rfl⟩
  obtain ⟨rb, hrb⟩ := HRS.out
  rw [← hrb] at CS CI
  clear hrb HRS
  have hbn := bne_self' rb
  have x0 := BA.out.c0
  have x1 := BA.out.c1
  have x2 := BA.out.c2
  have x3 := BA.out.c3
  have x4 := BA.out.c4
  have x5 := BA.out.c5
  have x6 := BA.out.c6
  have x7 := BA.out.c7
  go_wp2_with fail
  refine (toT t ra wa rc wc hrlt hwlt _ TRt.out).mono ?_
  rintro e w3 ⟨pa, pc, qa, qc, rfl, hl, hb3⟩
  replace BA : Hid (Bx w3 w.heap.size [.int .i64 t.id, .int .i64 t.st, .int .i64 t.snap, .int .i64 t.cs, .slice ra t.rs.length rc, .slice wa t.ws.length wc, .bool t.out, .string t.nm]) := BA.out.below hb3
  replace HB : Hid (Below w.heap.size w w3) := HB.out.trans (hb3.mono HB.out.size)
  replace TRt : Hid (TRow w3 t ra wa) := TRt.out.below hb3
  replace LA : Hid (LArg w3 la xs) := LA.out.below hb3
  clear hb3 x0 x1 x2 x3 x4 x5 x6 x7
  have T1 : Hid (TRow w3 t pa qa) := hl.row
  clear hl
  go_wp2_with fail
  refine (toL xs la lc (by omega) HFl.out _ LA.out.rows).mono ?_
  rintro e w4 ⟨ys1, ya1, yc1, rfl, ht1, hl1, ho, hy, hb4⟩
  replace BA : Hid (Bx w4 w.heap.size [.int .i64 t.id, .int .i64 t.st, .int .i64 t.snap, .int .i64 t.cs, .slice ra t.rs.length rc, .slice wa t.ws.length wc, .bool t.out, .string t.nm]) := BA.out.below hb4
  replace HB : Hid (Below w.heap.size w w4) := HB.out.trans (hb4.mono HB.out.size)
  replace TRt : Hid (TRow w4 t ra wa) := TRt.out.below hb4
  replace LA : Hid (LArg w4 la xs) := LA.out.below hb4
  replace T1 : Hid (TRow w4 t pa qa) := T1.out.below hb4
  clear hb4
  have YT1 : Hid (txs ys1 = txs xs) := ht1
  have YL1 : Hid (ys1.length = xs.length) := hl1
  have Y1 : Hid (TRows w4 ya1 ys1) := ⟨ho.grow, fun y hy9 => (hy y hy9).row⟩
  clear ho hy ht1 hl1
  go_wp2_with fail
  refine (CS.out pa pc qa qc ys1 ya1 yc1 _ YT1.out YL1.out T1.out Y1.out).mono ?_
  rintro e w5 ⟨rfl, hb5⟩
  replace BA : Hid (Bx w5 w.heap.size [.int .i64 t.id, .int .i64 t.st, .int .i64 t.snap, .int .i64 t.cs, .slice ra t.rs.length rc, .slice wa t.ws.length wc, .bool t.out, .string t.nm]) := BA.out.below hb5
  replace HB : Hid (Below w.heap.size w w5) := HB.out.trans (hb5.mono HB.out.size)
  replace TRt : Hid (TRow w5 t ra wa) := TRt.out.below hb5
  replace LA : Hid (LArg w5 la xs) := LA.out.below hb5
  replace T1 : Hid (TRow w5 t pa qa) := T1.out.below hb5
  replace Y1 : Hid (TRows w5 ya1 ys1) := Y1.out.below hb5
  clear hb5
  clear T1 Y1
  have x0 := BA.out.c0
  have x1 := BA.out.c1
  have x2 := BA.out.c2
  have x3 := BA.out.c3
  have x4 := BA.out.c4
  have x5 := BA.out.c5
  have x6 := BA.out.c6
  have x7 := BA.out.c7
  go_wp2_with fail
  refine (toT t ra wa rc wc hrlt hwlt _ TRt.out).mono ?_
  rintro e w6 ⟨va, vc, ya, yc, rfl, hl, hb6⟩
  replace BA : Hid (Bx w6 w.heap.size [.int .i64 t.id, .int .i64 t.st, .int .i64 t.snap, .int .i64 t.cs, .slice ra t.rs.length rc, .slice wa t.ws.length wc, .bool t.out, .string t.nm]) := BA.out.below hb6
  replace HB : Hid (Below w.heap.size w w6) := HB.out.trans (hb6.mono HB.out.size)
  replace TRt : Hid (TRow w6 t ra wa) := TRt.out.below hb6
  replace LA : Hid (LArg w6 la xs) := LA.out.below hb6
  clear hb6 x0 x1 x2 x3 x4 x5 x6 x7
  have T2 : Hid (TRow w6 t va ya) := hl.row
  clear hl
  have hba : Below w6.heap.size w6 (w6.alloc (.cells #[.int .i64 t.id, .int .i64 t.st, .int .i64 t.snap, .int .i64 t.cs, .slice va t.rs.length vc, .slice ya t.ws.length yc, .bool t.out, .string t.nm] 27)) := (belowRefl w6).alloc (Nat.le_refl _) _
  replace BA : Hid (Bx (w6.alloc (.cells #[.int .i64 t.id, .int .i64 t.st, .int .i64 t.snap, .int .i64 t.cs, .slice va t.rs.length vc, .slice ya t.ws.length yc, .bool t.out, .string t.nm] 27)) w.heap.size [.int .i64 t.id, .int .i64 t.st, .int .i64 t.snap, .int .i64 t.cs, .slice ra t.rs.length rc, .slice wa t.ws.length wc, .bool t.out, .string t.nm]) := BA.out.below hba
  replace HB : Hid (Below w.heap.size w (w6.alloc (.cells #[.int .i64 t.id, .int .i64 t.st, .int .i64 t.snap, .int .i64 t.cs, .slice va t.rs.length vc, .slice ya t.ws.length yc, .bool t.out, .string t.nm] 27))) := HB.out.trans (hba.mono HB.out.size)
  replace TRt : Hid (TRow (w6.alloc (.cells #[.int .i64 t.id, .int .i64 t.st, .int .i64 t.snap, .int .i64 t.cs, .slice va t.rs.length vc, .slice ya t.ws.length yc, .bool t.out, .string t.nm] 27)) t ra wa) := TRt.out.below hba
  replace LA : Hid (LArg (w6.alloc (.cells #[.int .i64 t.id, .int .i64 t.st, .int .i64 t.snap, .int .i64 t.cs, .slice va t.rs.length vc, .slice ya t.ws.length yc, .bool t.out, .string t.nm] 27)) la xs) := LA.out.below hba
  replace T2 : Hid (TRow (w6.alloc (.cells #[.int .i64 t.id, .int .i64 t.st, .int .i64 t.snap, .int .i64 t.cs, .slice va t.rs.length vc, .slice ya t.ws.length yc, .bool t.out, .string t.nm] 27)) t va ya) := T2.out.below hba
  clear hba
  have XA : Hid (Bx (w6.alloc (.cells #[.int .i64 t.id, .int .i64 t.st, .int .i64 t.snap, .int .i64 t.cs, .slice va t.rs.length vc, .slice ya t.ws.length yc, .bool t.out, .string t.nm] 27)) w6.heap.size [.int .i64 t.id, .int .i64 t.st, .int .i64 t.snap, .int .i64 t.cs, .slice va t.rs.length vc, .slice ya t.ws.length yc, .bool t.out, .string t.nm]) := Bx.new w6 [.int .i64 t.id, .int .i64 t.st, .int .i64 t.snap, .int .i64 t.cs, .slice va t.rs.length vc, .slice ya t.ws.length yc, .bool t.out, .string t.nm] 27
  go_wp2_with fail
  refine (toL xs la lc (by omega) HFl.out _ LA.out.rows).mono ?_
  rintro e w7 ⟨ys2, ya2, yc2, rfl, ht2, hl2, ho, hy, hb7⟩
  replace BA : Hid (Bx w7 w.heap.size [.int .i64 t.id, .int .i64 t.st, .int .i64 t.snap, .int .i64 t.cs, .slice ra t.rs.length rc, .slice wa t.ws.length wc, .bool t.out, .string t.nm]) := BA.out.below hb7
  replace HB : Hid (Below w.heap.size w w7) := HB.out.trans (hb7.mono HB.out.size)
  replace TRt : Hid (TRow w7 t ra wa) := TRt.out.below hb7
  replace LA : Hid (LArg w7 la xs) := LA.out.below hb7
  replace T2 : Hid (TRow w7 t va ya) := T2.out.below hb7
  replace XA : Hid (Bx w7 w6.heap.size [.int .i64 t.id, .int .i64 t.st, .int .i64 t.snap, .int .i64 t.cs, .slice va t.rs.length vc, .slice ya t.ws.length yc, .bool t.out, .string t.nm]) := XA.out.below hb7
  clear hb7
  have YT2 : Hid (txs ys2 = txs xs) := ht2
  have YL2 : Hid (ys2.length = xs.length) := hl2
  have Y2 : Hid (TRows w7 ya2 ys2) := ⟨ho.grow, fun y hy9 => (hy y hy9).row⟩
  clear ho hy ht2 hl2
  have x0 := XA.out.c0
  have x1 := XA.out.c1
  have x2 := XA.out.c2
  have x3 := XA.out.c3
  have x4 := XA.out.c4
  have x5 := XA.out.c5
  have x6 := XA.out.c6
  have x7 := XA.out.c7
  go_wp2_with fail
  refine (CI.out va vc ya yc ys2 ya2 yc2 _ YT2.out YL2.out T2.out Y2.out).mono ?_
  rintro e w8 ⟨rfl, hb8⟩
  replace BA : Hid (Bx w8 w.heap.size [.int .i64 t.id, .int .i64 t.st, .int .i64 t.snap, .int .i64 t.cs, .slice ra t.rs.length rc, .slice wa t.ws.length wc, .bool t.out, .string t.nm]) := BA.out.below hb8
  replace HB : Hid (Below w.heap.size w w8) := HB.out.trans (hb8.mono HB.out.size)
  replace TRt : Hid (TRow w8 t ra wa) := TRt.out.below hb8
  replace LA : Hid (LArg w8 la xs) := LA.out.below hb8
  replace T2 : Hid (TRow w8 t va ya) := T2.out.below hb8
  replace XA : Hid (Bx w8 w6.heap.size [.int .i64 t.id, .int .i64 t.st, .int .i64 t.snap, .int .i64 t.cs, .slice va t.rs.length vc, .slice ya t.ws.length yc, .bool t.out, .string t.nm]) := XA.out.below hb8
  replace Y2 : Hid (TRows w8 ya2 ys2) := Y2.out.below hb8
  clear hb8 x0 x1 x2 x3 x4 x5 x6 x7
  go_wp2
  refine wp_region_held_drew (S := fun w' => w'.cell? ⟨w6.heap.size, 0, none⟩ = some (.int .i64 t.id) ∧ w'.cell? ⟨w6.heap.size, 1, none⟩ = some (.int .i64 t.st) ∧ w'.cell? ⟨w6.heap.size, 2, none⟩ = some (.int .i64 t.snap) ∧ w'.cell? ⟨w6.heap.size, 3, none⟩ = some (.int .i64 t.cs) ∧ w'.cell? ⟨w6.heap.size, 4, none⟩ = some (.slice va t.rs.length vc) ∧ w'.cell? ⟨w6.heap.size, 5, none⟩ = some (.slice ya t.ws.length yc) ∧ w'.cell? ⟨w6.heap.size, 6, none⟩ = some (.bool t.out) ∧ w'.cell? ⟨w6.heap.size, 7, none⟩ = some (.string t.nm) ∧ w'.cell? ⟨w.heap.size, 0, none⟩ = some (.int .i64 t.id) ∧ w'.cell? ⟨w.heap.size, 1, none⟩ = some (.int .i64 t.st) ∧ w'.cell? ⟨w.heap.size, 2, none⟩ = some (.int .i64 t.snap) ∧ w'.cell? ⟨w.heap.size, 3, none⟩ = some (.int .i64 t.cs) ∧ w'.cell? ⟨w.heap.size, 4, none⟩ = some (.slice ra t.rs.length rc) ∧ w'.cell? ⟨w.heap.size, 5, none⟩ = some (.slice wa t.ws.length wc) ∧ w'.cell? ⟨w.heap.size, 6, none⟩ = some (.bool t.out) ∧ w'.cell? ⟨w.heap.size, 7, none⟩ = some (.string t.nm)) (by kernel_rfl) ⟨XA.out.c0, XA.out.c1, XA.out.c2, XA.out.c3, XA.out.c4, XA.out.c5, XA.out.c6, XA.out.c7, BA.out.c0, BA.out.c1, BA.out.c2, BA.out.c3, BA.out.c4, BA.out.c5, BA.out.c6, BA.out.c7⟩ (fun hHeld => ?_)
  (refine wpAnyH_take (i := 0) (v := ?_) rfl (by kernel_rfl) (by kernel_rfl) (by kernel_rfl) (fun _ _ _ h => h) (Or.inl ⟨by rfl, ?_⟩) (by assumption) ?_; rotate_left; (focus (intro w hSw; (try dsimp only at hSw); go_simp; (try with_reducible rfl); done)); simp only [Act.put, List.getElem_toArray, List.getElem_cons_zero, List.setIfInBounds_toArray, List.set_cons_zero, List.set_cons_succ])
  (refine wpAnyH_take (i := 1) (v := ?_) rfl (by kernel_rfl) (by kernel_rfl) (by kernel_rfl) (fun _ _ _ h => h) (Or.inl ⟨by rfl, ?_⟩) (by assumption) ?_; rotate_left; (focus (intro w hSw; (try dsimp only at hSw); go_simp; (try with_reducible rfl); done)); simp only [Act.put, List.getElem_toArray, List.getElem_cons_zero, List.getElem_cons_succ, List.setIfInBounds_toArray, List.set_cons_zero, List.set_cons_succ])
  refine wpAnyH_ready (rs := [2]) (by kernel_rfl) (by simp) ?_
  refine AllReadyH.cons rfl (fun K hK => ?_) AllReadyH.nil
  go_simp
  go_wp2_with fail
  refine (toT t ra wa rc wc hrlt hwlt _ TRt.out.drewT).mono ?_
  rintro e w9 ⟨z, zc, u, uc, rfl, hl, hb9⟩
  have hbu9 := undrew hb9
  replace BA : Hid (Bx w9 w.heap.size [.int .i64 t.id, .int .i64 t.st, .int .i64 t.snap, .int .i64 t.cs, .slice ra t.rs.length rc, .slice wa t.ws.length wc, .bool t.out, .string t.nm]) := BA.out.below hbu9
  replace HB : Hid (Below w.heap.size w w9) := HB.out.trans (hbu9.mono HB.out.size)
  replace TRt : Hid (TRow w9 t ra wa) := TRt.out.below hbu9
  replace LA : Hid (LArg w9 la xs) := LA.out.below hbu9
  replace T2 : Hid (TRow w9 t va ya) := T2.out.below hbu9
  replace XA : Hid (Bx w9 w6.heap.size [.int .i64 t.id, .int .i64 t.st, .int .i64 t.snap, .int .i64 t.cs, .slice va t.rs.length vc, .slice ya t.ws.length yc, .bool t.out, .string t.nm]) := XA.out.below hbu9
  replace Y2 : Hid (TRows w9 ya2 ys2) := Y2.out.below hbu9
  have U := hide0 hl.row
  clear hl
  go_wp2_with fail
  refine hK.out _ _ ⟨XA.out.c0, XA.out.c1, XA.out.c2, XA.out.c3, XA.out.c4, XA.out.c5, XA.out.c6, XA.out.c7, BA.out.c0, BA.out.c1, BA.out.c2, BA.out.c3, BA.out.c4, BA.out.c5, BA.out.c6, BA.out.c7⟩ (fun hHeld9 => ?_)
  clear hK K hb9 hbu9
  refine wpAnyH_ready (rs := [3]) (by kernel_rfl) (by simp) ?_
  refine AllReadyH.cons rfl (fun K hK => ?_) AllReadyH.nil
  go_simp
  go_wp2_with fail
  refine (eqT t va ya z u vc yc zc uc hrlt hwlt _ T2.out U.out).mono ?_
  rintro e w10 ⟨rfl, hb10⟩
  replace BA : Hid (Bx w10 w.heap.size [.int .i64 t.id, .int .i64 t.st, .int .i64 t.snap, .int .i64 t.cs, .slice ra t.rs.length rc, .slice wa t.ws.length wc, .bool t.out, .string t.nm]) := BA.out.below hb10
  replace HB : Hid (Below w.heap.size w w10) := HB.out.trans (hb10.mono HB.out.size)
  replace TRt : Hid (TRow w10 t ra wa) := TRt.out.below hb10
  replace LA : Hid (LArg w10 la xs) := LA.out.below hb10
  replace T2 : Hid (TRow w10 t va ya) := T2.out.below hb10
  replace XA : Hid (Bx w10 w6.heap.size [.int .i64 t.id, .int .i64 t.st, .int .i64 t.snap, .int .i64 t.cs, .slice va t.rs.length vc, .slice ya t.ws.length yc, .bool t.out, .string t.nm]) := XA.out.below hb10
  replace Y2 : Hid (TRows w10 ya2 ys2) := Y2.out.below hb10
  replace U : Hid (TRow w10 t z u) := U.out.below hb10
  go_wp2_with fail
  refine hK.out _ _ ⟨XA.out.c0, XA.out.c1, XA.out.c2, XA.out.c3, XA.out.c4, XA.out.c5, XA.out.c6, XA.out.c7, BA.out.c0, BA.out.c1, BA.out.c2, BA.out.c3, BA.out.c4, BA.out.c5, BA.out.c6, BA.out.c7⟩ (fun hHeld10 => ?_)
  clear hK K hb10
  (refine wpAnyH_take (i := 4) (v := ?_) rfl (by kernel_rfl) (by kernel_rfl) (by kernel_rfl) (fun _ _ _ h => h) (Or.inl ⟨by rfl, ?_⟩) (by assumption) ?_; rotate_left; (focus (intro w hSw; (try dsimp only at hSw); go_simp; (try with_reducible rfl); done)); simp only [Act.put, List.getElem_toArray, List.getElem_cons_zero, List.getElem_cons_succ, List.setIfInBounds_toArray, List.set_cons_zero, List.set_cons_succ])
  refine wpAnyH_done (by kernel_rfl) ?_ _
  clear U
  go_wp2_with fail
  refine (toL xs la lc (by omega) HFl.out _ LA.out.rows).mono ?_
  rintro e w11 ⟨ys3, ya3, yc3, rfl, ht3, hl3, ho, hy, hb11⟩
  replace BA : Hid (Bx w11 w.heap.size [.int .i64 t.id, .int .i64 t.st, .int .i64 t.snap, .int .i64 t.cs, .slice ra t.rs.length rc, .slice wa t.ws.length wc, .bool t.out, .string t.nm]) := BA.out.below hb11
  replace HB : Hid (Below w.heap.size w w11) := HB.out.trans (hb11.mono HB.out.size)
  replace TRt : Hid (TRow w11 t ra wa) := TRt.out.below hb11
  replace LA : Hid (LArg w11 la xs) := LA.out.below hb11
  replace T2 : Hid (TRow w11 t va ya) := T2.out.below hb11
  replace XA : Hid (Bx w11 w6.heap.size [.int .i64 t.id, .int .i64 t.st, .int .i64 t.snap, .int .i64 t.cs, .slice va t.rs.length vc, .slice ya t.ws.length yc, .bool t.out, .string t.nm]) := XA.out.below hb11
  replace Y2 : Hid (TRows w11 ya2 ys2) := Y2.out.below hb11
  clear hb11
  have YT3 : Hid (txs ys3 = txs xs) := ht3
  have YL3 : Hid (ys3.length = xs.length) := hl3
  have Y3 : Hid (TRows w11 ya3 ys3) := ⟨ho.grow, fun y hy9 => (hy y hy9).row⟩
  clear ho hy ht3 hl3
  go_wp2_with fail
  refine (eqL ys2 ys3 ya2 ya3 yc2 yc3 xs.length YL2.out.symm YL3.out.symm (by omega) (YT2.out.trans YT3.out.symm) (by rw [YT2.out]; exact HFl.out) _ Y2.out Y3.out).mono ?_
  rintro e w12 ⟨rfl, hb12⟩
  replace BA : Hid (Bx w12 w.heap.size [.int .i64 t.id, .int .i64 t.st, .int .i64 t.snap, .int .i64 t.cs, .slice ra t.rs.length rc, .slice wa t.ws.length wc, .bool t.out, .string t.nm]) := BA.out.below hb12
  replace HB : Hid (Below w.heap.size w w12) := HB.out.trans (hb12.mono HB.out.size)
  replace TRt : Hid (TRow w12 t ra wa) := TRt.out.below hb12
  replace LA : Hid (LArg w12 la xs) := LA.out.below hb12
  replace T2 : Hid (TRow w12 t va ya) := T2.out.below hb12
  replace XA : Hid (Bx w12 w6.heap.size [.int .i64 t.id, .int .i64 t.st, .int .i64 t.snap, .int .i64 t.cs, .slice va t.rs.length vc, .slice ya t.ws.length yc, .bool t.out, .string t.nm]) := XA.out.below hb12
  replace Y2 : Hid (TRows w12 ya2 ys2) := Y2.out.below hb12
  replace Y3 : Hid (TRows w12 ya3 ys3) := Y3.out.below hb12
  clear hb12
  go_wp2
  go_ret
  exact ⟨rfl, HB.out⟩

end Go.Proofs.Ytnefncmkhgkdnaa

/- The law FnDangers, walked, by what Danger answers. -/
import Derived.Test.YtnefncmkhgkdnaaP4
import Derived.Test.YtnefncmkhgkdnaaN13
import Derived.Test.YtnefncmkhgkdnaaU6
import Derived.Deep.CutRange
import Derived.Deep.RegionHeld3
namespace Go.Proofs.Ytnefncmkhgkdnaa
open Go.RowKit
open KM
attribute [local go_sem ↓] Go.wp_at_zero Go.wp_at_succ

/-- what the program's Danger answers -/
def DangerSpec : Prop := ∀ (t : Tx) (ra wa : Option Addr) (rc wc : Nat) (xs : List Ta) (a : Option Addr) (c n : Nat), n = xs.length → n ≤ 10000000 → TFit t → LFit (txs xs) → ∀ w : World, TRow w t ra wa → TRows w a xs →
  Calls Try.prog 14 #[.agg #[.int .i64 t.id, .int .i64 t.st, .int .i64 t.snap, .int .i64 t.cs, .slice ra t.rs.length rc, .slice wa t.ws.length wc, .bool t.out, .string t.nm], .slice a n c] w fun e w' => e = .returned (.bool (dangerB t (txs xs))) ∧ Below w.heap.size w w'
theorem any_next (p : Tx → Bool) (ys : List Ta) (k : Nat) (h : k < ys.length) : (txs (ys.take (k + 1))).any p = ((txs (ys.take k)).any p || p ys[k].t) := by
  have e : ys.take (k + 1) = ys.take k ++ [ys[k]] := by rw [List.take_add_one, List.getElem?_eq_getElem h]; rfl
  rw [e]
  unfold txs
  rw [List.map_append, List.any_append]
  congr 1
  exact Bool.or_false _
theorem touch_nil_r (rs : List Rg) : touchB rs [] = false := by simp [touchB]
theorem touch_nil_l (ws : List Wt) : touchB [] ws = false := rfl
theorem any_false {p : Tx → Bool} {l : List Tx} (h : ∀ x, p x = false) : l.any p = false := by rw [List.any_eq_false]; intro x _; simp [h x]
theorem danger_none (t : Tx) (l : List Tx) (h1 : t.rs = []) (h2 : t.ws = []) : dangerB t l = false := by
  have a1 : ∀ x, ahB t x = false := fun x => by unfold ahB; rw [h1, touch_nil_l]; simp
  have a2 : ∀ x, ahB x t = false := fun x => by unfold ahB; rw [h2, touch_nil_r]; simp
  have e1 : intoB t l = false := any_false fun x => by unfold inQ; rw [a2]; simp
  have e2 : l.any (dQ t l) = false := any_false fun x => by unfold dQ; rw [a1, a2]; simp
  unfold dangerB
  rw [e1, e2]
  rfl
theorem blocked_none (t : Tx) (l : List Tx) (h2 : t.ws = []) : blockedB t l = false := any_false fun x => by unfold blkB; rw [h2]; simp [meetB]
theorem danger_calm (t : Tx) (l : List Tx) (h1 : t.rs = []) (h2 : l.any readyB = false) : dangerB t l = false := by
  have a1 : ∀ x, ahB t x = false := fun x => by unfold ahB; rw [h1, touch_nil_l]; simp
  have e1 : outB t l = false := any_false fun x => by unfold outQ; rw [a1]; simp
  have e2 : l.any (dQ t l) = false := by
    rw [List.any_eq_false] at h2 ⊢
    intro x hx
    have h3 : readyB x = false := by simpa using h2 x hx
    unfold dQ
    rw [a1, h3]
    simp
  unfold dangerB
  rw [e1, e2, Bool.and_false]
  rfl

/-- the state is the one before with a value put -/
def GQ (a : Act) (o : Oper) (R : Value → World → Prop) (a' : Act) (w' : World) : Prop := ∃ v, a' = a.put o.dst v ∧ R v w'
/-- a guarded operation: wanted or not, the walk goes on in one -/
theorem gcall {P : Program} {ops : Array Oper} {Q : Exit → Act → World → Prop} {o : Oper} {a : Act} {w : World} {K : Act → World → Prop} (R : Value → World → Prop)
    (h1 : Region.wanted o (yielded ops a.tmps) = true → Oper.wp P o a w (GQ a o R) Q) (h2 : Region.wanted o (yielded ops a.tmps) = false → R undef w) (h : ∀ v w', R v w' → K (a.put o.dst v) w') :
    if Region.wanted o (yielded ops a.tmps) = true then Oper.wp P o a w K Q else K (a.put o.dst undef) w := by
  split
  · rename_i hw
    refine Oper.wp_mono ?_ (h1 hw)
    rintro a' w' ⟨v, rfl, hR⟩
    exact h v w' hR
  · rename_i hw
    exact h undef w (h2 (by simpa using hw))

set_option maxRecDepth 100000 in
set_option maxHeartbeats 8000000 in
theorem law3 (hD : DangerSpec) (len cap : Nat) (a : Option Addr) (w : World) (hl0 : len ≤ 9223372036854775807) (hr : CodeRow w a len) :
    Calls Try.prog 3 #[.slice a len cap] w fun e w' => e = .returned (.bool true) ∧ Below w.heap.size w w' := by
  have HBG : Hid (∀ W : World, Calls Try.prog 9 #[.slice a len cap] W fun e w' => e = .returned (.bool (decide ((1048576 : Int) < (len : Int)))) ∧ w' = W) := fun W => big10 len cap a W
  have HR : Hid (CodeRow w a len) := hr
  have HDS : Hid DangerSpec := hD
  clear hr hD
  by_cases hl : len ≤ 1048576
  · rw [decide_eq_false (by omega)] at HBG
    go_enter Try.func3, Try.ntmps3
    go_wp2_with fail
    refine (HBG.out _).mono ?_
    rintro e w ⟨rfl, rfl⟩
    have HB : Hid (Below w.heap.size w w) := belowRefl w
    go_wp2_with fail
    refine (dOthers len cap a hl _ HR.out).mono ?_
    rintro e w1 ⟨x, ys, ya, yc, hx, hid, hys, rfl, tx, lo, hb⟩
    have HX := hide hx
    have HYS := hide hys
    have hyl : ys.length ≤ 10000000 := Nat.le_trans hys.1 (by omega)
    clear hid
    replace HB : Hid (Below w.heap.size w w1) := HB.out.trans (hb.mono HB.out.size)
    have TX : Hid (TRow w1 x.t x.ra x.wa) := tx.row
    have LY : Hid (TRows w1 ya ys) := lo.rows
    clear hb hx hys tx lo
    go_upto_region 4 with fail
    have hba : Below w1.heap.size w1 (w1.alloc (.cells #[.int .i64 x.t.id, .int .i64 x.t.st, .int .i64 x.t.snap, .int .i64 x.t.cs, .slice x.ra x.t.rs.length x.rc, .slice x.wa x.t.ws.length x.wc, .bool x.t.out, .string x.t.nm] 27)) := (belowRefl w1).alloc (Nat.le_refl _) _
    replace HB : Hid (Below w.heap.size w (w1.alloc (.cells #[.int .i64 x.t.id, .int .i64 x.t.st, .int .i64 x.t.snap, .int .i64 x.t.cs, .slice x.ra x.t.rs.length x.rc, .slice x.wa x.t.ws.length x.wc, .bool x.t.out, .string x.t.nm] 27))) := HB.out.trans (hba.mono HB.out.size)
    replace TX : Hid (TRow (w1.alloc (.cells #[.int .i64 x.t.id, .int .i64 x.t.st, .int .i64 x.t.snap, .int .i64 x.t.cs, .slice x.ra x.t.rs.length x.rc, .slice x.wa x.t.ws.length x.wc, .bool x.t.out, .string x.t.nm] 27)) x.t x.ra x.wa) := TX.out.below hba
    replace LY : Hid (TRows (w1.alloc (.cells #[.int .i64 x.t.id, .int .i64 x.t.st, .int .i64 x.t.snap, .int .i64 x.t.cs, .slice x.ra x.t.rs.length x.rc, .slice x.wa x.t.ws.length x.wc, .bool x.t.out, .string x.t.nm] 27)) ya ys) := LY.out.below hba
    clear hba
    have BX : Hid (Bx (w1.alloc (.cells #[.int .i64 x.t.id, .int .i64 x.t.st, .int .i64 x.t.snap, .int .i64 x.t.cs, .slice x.ra x.t.rs.length x.rc, .slice x.wa x.t.ws.length x.wc, .bool x.t.out, .string x.t.nm] 27)) w1.heap.size [.int .i64 x.t.id, .int .i64 x.t.st, .int .i64 x.t.snap, .int .i64 x.t.cs, .slice x.ra x.t.rs.length x.rc, .slice x.wa x.t.ws.length x.wc, .bool x.t.out, .string x.t.nm]) := Bx.new w1 [.int .i64 x.t.id, .int .i64 x.t.st, .int .i64 x.t.snap, .int .i64 x.t.cs, .slice x.ra x.t.rs.length x.rc, .slice x.wa x.t.ws.length x.wc, .bool x.t.out, .string x.t.nm] 27
    generalize (w1.alloc (.cells #[.int .i64 x.t.id, .int .i64 x.t.st, .int .i64 x.t.snap, .int .i64 x.t.cs, .slice x.ra x.t.rs.length x.rc, .slice x.wa x.t.ws.length x.wc, .bool x.t.out, .string x.t.nm] 27)) = w2 at *
    have x0 := BX.out.c0
    have x1 := BX.out.c1
    have x2 := BX.out.c2
    have x3 := BX.out.c3
    have x4 := BX.out.c4
    have x5 := BX.out.c5
    have x6 := BX.out.c6
    have x7 := BX.out.c7
    go_wp2_with fail
    refine (iinof x.t x.ra x.wa x.rc x.wc ys ya yc ys.length rfl hyl HX.out.fit HYS.out.fit _ TX.out LY.out).mono ?_
    rintro e w3 ⟨rfl, hb⟩
    clear x0 x1 x2 x3 x4 x5 x6 x7
    replace HB : Hid (Below w.heap.size w w3) := HB.out.trans (hb.mono HB.out.size)
    replace TX : Hid (TRow w3 x.t x.ra x.wa) := TX.out.below hb
    replace LY : Hid (TRows w3 ya ys) := LY.out.below hb
    replace BX : Hid (Bx w3 w1.heap.size [.int .i64 x.t.id, .int .i64 x.t.st, .int .i64 x.t.snap, .int .i64 x.t.cs, .slice x.ra x.t.rs.length x.rc, .slice x.wa x.t.ws.length x.wc, .bool x.t.out, .string x.t.nm]) := BX.out.below hb
    clear hb
    have x0 := BX.out.c0
    have x1 := BX.out.c1
    have x2 := BX.out.c2
    have x3 := BX.out.c3
    have x4 := BX.out.c4
    have x5 := BX.out.c5
    have x6 := BX.out.c6
    have x7 := BX.out.c7
    go_wp2_with fail
    refine (ioutof x.t x.ra x.wa x.rc x.wc ys ya yc ys.length rfl hyl HX.out.fit HYS.out.fit _ TX.out LY.out).mono ?_
    rintro e w4 ⟨rfl, hb⟩
    clear x0 x1 x2 x3 x4 x5 x6 x7
    replace HB : Hid (Below w.heap.size w w4) := HB.out.trans (hb.mono HB.out.size)
    replace TX : Hid (TRow w4 x.t x.ra x.wa) := TX.out.below hb
    replace LY : Hid (TRows w4 ya ys) := LY.out.below hb
    replace BX : Hid (Bx w4 w1.heap.size [.int .i64 x.t.id, .int .i64 x.t.st, .int .i64 x.t.snap, .int .i64 x.t.cs, .slice x.ra x.t.rs.length x.rc, .slice x.wa x.t.ws.length x.wc, .bool x.t.out, .string x.t.nm]) := BX.out.below hb
    clear hb
    go_wp2_with fail
    refine (dDanger len cap a hl _ (HR.out.below HB.out)).mono ?_
    rintro e w5 ⟨u, vs, va, vc, hu, hvs, rfl, tu, lo, hb⟩
    have HU := hide hu
    have HVS := hide hvs
    have hvl : vs.length ≤ 10000000 := Nat.le_trans hvs.1 (by omega)
    replace HB : Hid (Below w.heap.size w w5) := HB.out.trans (hb.mono HB.out.size)
    replace TX : Hid (TRow w5 x.t x.ra x.wa) := TX.out.below hb
    replace LY : Hid (TRows w5 ya ys) := LY.out.below hb
    replace BX : Hid (Bx w5 w1.heap.size [.int .i64 x.t.id, .int .i64 x.t.st, .int .i64 x.t.snap, .int .i64 x.t.cs, .slice x.ra x.t.rs.length x.rc, .slice x.wa x.t.ws.length x.wc, .bool x.t.out, .string x.t.nm]) := BX.out.below hb
    have TU : Hid (TRow w5 u.t u.ra u.wa) := tu.row
    have LV : Hid (TRows w5 va vs) := lo.rows
    clear hb hu hvs tu lo
    go_upto_region 7 with fail
    have hba : Below w5.heap.size w5 (w5.alloc (.cells #[.int .i64 u.t.id, .int .i64 u.t.st, .int .i64 u.t.snap, .int .i64 u.t.cs, .slice u.ra u.t.rs.length u.rc, .slice u.wa u.t.ws.length u.wc, .bool u.t.out, .string u.t.nm] 27)) := (belowRefl w5).alloc (Nat.le_refl _) _
    replace HB : Hid (Below w.heap.size w (w5.alloc (.cells #[.int .i64 u.t.id, .int .i64 u.t.st, .int .i64 u.t.snap, .int .i64 u.t.cs, .slice u.ra u.t.rs.length u.rc, .slice u.wa u.t.ws.length u.wc, .bool u.t.out, .string u.t.nm] 27))) := HB.out.trans (hba.mono HB.out.size)
    replace TX : Hid (TRow (w5.alloc (.cells #[.int .i64 u.t.id, .int .i64 u.t.st, .int .i64 u.t.snap, .int .i64 u.t.cs, .slice u.ra u.t.rs.length u.rc, .slice u.wa u.t.ws.length u.wc, .bool u.t.out, .string u.t.nm] 27)) x.t x.ra x.wa) := TX.out.below hba
    replace LY : Hid (TRows (w5.alloc (.cells #[.int .i64 u.t.id, .int .i64 u.t.st, .int .i64 u.t.snap, .int .i64 u.t.cs, .slice u.ra u.t.rs.length u.rc, .slice u.wa u.t.ws.length u.wc, .bool u.t.out, .string u.t.nm] 27)) ya ys) := LY.out.below hba
    replace BX : Hid (Bx (w5.alloc (.cells #[.int .i64 u.t.id, .int .i64 u.t.st, .int .i64 u.t.snap, .int .i64 u.t.cs, .slice u.ra u.t.rs.length u.rc, .slice u.wa u.t.ws.length u.wc, .bool u.t.out, .string u.t.nm] 27)) w1.heap.size [.int .i64 x.t.id, .int .i64 x.t.st, .int .i64 x.t.snap, .int .i64 x.t.cs, .slice x.ra x.t.rs.length x.rc, .slice x.wa x.t.ws.length x.wc, .bool x.t.out, .string x.t.nm]) := BX.out.below hba
    replace TU : Hid (TRow (w5.alloc (.cells #[.int .i64 u.t.id, .int .i64 u.t.st, .int .i64 u.t.snap, .int .i64 u.t.cs, .slice u.ra u.t.rs.length u.rc, .slice u.wa u.t.ws.length u.wc, .bool u.t.out, .string u.t.nm] 27)) u.t u.ra u.wa) := TU.out.below hba
    replace LV : Hid (TRows (w5.alloc (.cells #[.int .i64 u.t.id, .int .i64 u.t.st, .int .i64 u.t.snap, .int .i64 u.t.cs, .slice u.ra u.t.rs.length u.rc, .slice u.wa u.t.ws.length u.wc, .bool u.t.out, .string u.t.nm] 27)) va vs) := LV.out.below hba
    clear hba
    have BU : Hid (Bx (w5.alloc (.cells #[.int .i64 u.t.id, .int .i64 u.t.st, .int .i64 u.t.snap, .int .i64 u.t.cs, .slice u.ra u.t.rs.length u.rc, .slice u.wa u.t.ws.length u.wc, .bool u.t.out, .string u.t.nm] 27)) w5.heap.size [.int .i64 u.t.id, .int .i64 u.t.st, .int .i64 u.t.snap, .int .i64 u.t.cs, .slice u.ra u.t.rs.length u.rc, .slice u.wa u.t.ws.length u.wc, .bool u.t.out, .string u.t.nm]) := Bx.new w5 [.int .i64 u.t.id, .int .i64 u.t.st, .int .i64 u.t.snap, .int .i64 u.t.cs, .slice u.ra u.t.rs.length u.rc, .slice u.wa u.t.ws.length u.wc, .bool u.t.out, .string u.t.nm] 27
    generalize (w5.alloc (.cells #[.int .i64 u.t.id, .int .i64 u.t.st, .int .i64 u.t.snap, .int .i64 u.t.cs, .slice u.ra u.t.rs.length u.rc, .slice u.wa u.t.ws.length u.wc, .bool u.t.out, .string u.t.nm] 27)) = w6 at *
    have x0 := BX.out.c0
    have x1 := BX.out.c1
    have x2 := BX.out.c2
    have x3 := BX.out.c3
    have x4 := BX.out.c4
    have x5 := BX.out.c5
    have x6 := BX.out.c6
    have x7 := BX.out.c7
    go_upto_region 8 with fail
    clear x0 x1 x2 x3 x4 x5 x6 x7
    have hba : Below w6.heap.size w6 (w6.alloc (.cells #[.int .i64 x.t.id, .int .i64 x.t.st, .int .i64 x.t.snap, .int .i64 x.t.cs, .slice x.ra x.t.rs.length x.rc, .slice x.wa x.t.ws.length x.wc, .bool x.t.out, .string x.t.nm] 27)) := (belowRefl w6).alloc (Nat.le_refl _) _
    have BX7 : Hid (Bx (w6.alloc (.cells #[.int .i64 x.t.id, .int .i64 x.t.st, .int .i64 x.t.snap, .int .i64 x.t.cs, .slice x.ra x.t.rs.length x.rc, .slice x.wa x.t.ws.length x.wc, .bool x.t.out, .string x.t.nm] 27)) w1.heap.size [.int .i64 x.t.id, .int .i64 x.t.st, .int .i64 x.t.snap, .int .i64 x.t.cs, .slice x.ra x.t.rs.length x.rc, .slice x.wa x.t.ws.length x.wc, .bool x.t.out, .string x.t.nm]) := BX.out.below hba
    have BY7 : Hid (Bx (w6.alloc (.cells #[.int .i64 x.t.id, .int .i64 x.t.st, .int .i64 x.t.snap, .int .i64 x.t.cs, .slice x.ra x.t.rs.length x.rc, .slice x.wa x.t.ws.length x.wc, .bool x.t.out, .string x.t.nm] 27)) w6.heap.size [.int .i64 x.t.id, .int .i64 x.t.st, .int .i64 x.t.snap, .int .i64 x.t.cs, .slice x.ra x.t.rs.length x.rc, .slice x.wa x.t.ws.length x.wc, .bool x.t.out, .string x.t.nm]) := Bx.new w6 [.int .i64 x.t.id, .int .i64 x.t.st, .int .i64 x.t.snap, .int .i64 x.t.cs, .slice x.ra x.t.rs.length x.rc, .slice x.wa x.t.ws.length x.wc, .bool x.t.out, .string x.t.nm] 27
    have HB7 : Hid (Below w6.heap.size w6 (w6.alloc (.cells #[.int .i64 x.t.id, .int .i64 x.t.st, .int .i64 x.t.snap, .int .i64 x.t.cs, .slice x.ra x.t.rs.length x.rc, .slice x.wa x.t.ws.length x.wc, .bool x.t.out, .string x.t.nm] 27))) := hba
    clear hba
    have hs7 : w6.heap.size < (w6.alloc (.cells #[.int .i64 x.t.id, .int .i64 x.t.st, .int .i64 x.t.snap, .int .i64 x.t.cs, .slice x.ra x.t.rs.length x.rc, .slice x.wa x.t.ws.length x.wc, .bool x.t.out, .string x.t.nm] 27)).heap.size := by simp
    generalize (w6.alloc (.cells #[.int .i64 x.t.id, .int .i64 x.t.st, .int .i64 x.t.snap, .int .i64 x.t.cs, .slice x.ra x.t.rs.length x.rc, .slice x.wa x.t.ws.length x.wc, .bool x.t.out, .string x.t.nm] 27)) = w7 at *
    have hx6 : w1.heap.size < w6.heap.size := BX.out.lt
    have y4 := BY7.out.c4
    have f4 := BY7.out.fz 4
    have y5 := BY7.out.c5
    have f5 := BY7.out.fz 5
    go_upto_region 10 with fail
    clear y4 f4 y5 f5
    have HB8 : Hid (Below w6.heap.size w6 ((((w7.setCell ⟨w6.heap.size, 4, none⟩ (.slice (some ⟨w7.heap.size, 0, none⟩) 0 0)).setCell ⟨w6.heap.size, 5, none⟩ (.slice (some ⟨w7.heap.size + 1, 0, none⟩) 0 0)).alloc (.cells #[] 92)).alloc (.cells #[] 96))) := by
      have h1 : Below w6.heap.size w6 ((w7.setCell ⟨w6.heap.size, 4, none⟩ (.slice (some ⟨w7.heap.size, 0, none⟩) 0 0)).setCell ⟨w6.heap.size, 5, none⟩ (.slice (some ⟨w7.heap.size + 1, 0, none⟩) 0 0)) := (HB7.out.setCell (Nat.le_refl _) _).setCell (Nat.le_refl _) _
      have h2 : Below w6.heap.size w6 (((w7.setCell ⟨w6.heap.size, 4, none⟩ (.slice (some ⟨w7.heap.size, 0, none⟩) 0 0)).setCell ⟨w6.heap.size, 5, none⟩ (.slice (some ⟨w7.heap.size + 1, 0, none⟩) 0 0)).alloc (.cells #[] 92)) := h1.alloc h1.size _
      exact h2.alloc h2.size _
    have BX8 : Hid (Bx ((((w7.setCell ⟨w6.heap.size, 4, none⟩ (.slice (some ⟨w7.heap.size, 0, none⟩) 0 0)).setCell ⟨w6.heap.size, 5, none⟩ (.slice (some ⟨w7.heap.size + 1, 0, none⟩) 0 0)).alloc (.cells #[] 92)).alloc (.cells #[] 96)) w1.heap.size [.int .i64 x.t.id, .int .i64 x.t.st, .int .i64 x.t.snap, .int .i64 x.t.cs, .slice x.ra x.t.rs.length x.rc, .slice x.wa x.t.ws.length x.wc, .bool x.t.out, .string x.t.nm]) := (((BX7.out.setO (p := ⟨w6.heap.size, 4, none⟩) (by show w6.heap.size ≠ w1.heap.size; omega) _).setO (p := ⟨w6.heap.size, 5, none⟩) (by show w6.heap.size ≠ w1.heap.size; omega) _).alloc _).alloc _
    have BY8 : Hid (Bx ((((w7.setCell ⟨w6.heap.size, 4, none⟩ (.slice (some ⟨w7.heap.size, 0, none⟩) 0 0)).setCell ⟨w6.heap.size, 5, none⟩ (.slice (some ⟨w7.heap.size + 1, 0, none⟩) 0 0)).alloc (.cells #[] 92)).alloc (.cells #[] 96)) w6.heap.size [.int .i64 x.t.id, .int .i64 x.t.st, .int .i64 x.t.snap, .int .i64 x.t.cs, .slice (some ⟨w7.heap.size, 0, none⟩) 0 0, .slice (some ⟨w7.heap.size + 1, 0, none⟩) 0 0, .bool x.t.out, .string x.t.nm]) := (((BY7.out.set 4 (.slice (some ⟨w7.heap.size, 0, none⟩) 0 0)).set 5 (.slice (some ⟨w7.heap.size + 1, 0, none⟩) 0 0)).alloc _).alloc _
    have hs8 : w6.heap.size < ((((w7.setCell ⟨w6.heap.size, 4, none⟩ (.slice (some ⟨w7.heap.size, 0, none⟩) 0 0)).setCell ⟨w6.heap.size, 5, none⟩ (.slice (some ⟨w7.heap.size + 1, 0, none⟩) 0 0)).alloc (.cells #[] 92)).alloc (.cells #[] 96)).heap.size := BY8.out.lt
    generalize ((((w7.setCell ⟨w6.heap.size, 4, none⟩ (.slice (some ⟨w7.heap.size, 0, none⟩) 0 0)).setCell ⟨w6.heap.size, 5, none⟩ (.slice (some ⟨w7.heap.size + 1, 0, none⟩) 0 0)).alloc (.cells #[] 92)).alloc (.cells #[] 96)) = w8 at *
    generalize some (⟨w7.heap.size, 0, none⟩ : Addr) = ea at *
    generalize some (⟨w7.heap.size + 1, 0, none⟩ : Addr) = eb at *
    clear BX7 BY7 HB7 hs7
    have x0 := BX8.out.c0
    have x1 := BX8.out.c1
    have x2 := BX8.out.c2
    have x3 := BX8.out.c3
    have x4 := BX8.out.c4
    have x5 := BX8.out.c5
    have x6 := BX8.out.c6
    have x7 := BX8.out.c7
    go_upto_region 11 with fail
    clear x0 x1 x2 x3 x4 x5 x6 x7
    have hba : Below w8.heap.size w8 (w8.alloc (.cells #[.int .i64 x.t.id, .int .i64 x.t.st, .int .i64 x.t.snap, .int .i64 x.t.cs, .slice x.ra x.t.rs.length x.rc, .slice x.wa x.t.ws.length x.wc, .bool x.t.out, .string x.t.nm] 27)) := (belowRefl w8).alloc (Nat.le_refl _) _
    have HB9 : Hid (Below w6.heap.size w6 (w8.alloc (.cells #[.int .i64 x.t.id, .int .i64 x.t.st, .int .i64 x.t.snap, .int .i64 x.t.cs, .slice x.ra x.t.rs.length x.rc, .slice x.wa x.t.ws.length x.wc, .bool x.t.out, .string x.t.nm] 27))) := HB8.out.trans (hba.mono HB8.out.size)
    have BX9 : Hid (Bx (w8.alloc (.cells #[.int .i64 x.t.id, .int .i64 x.t.st, .int .i64 x.t.snap, .int .i64 x.t.cs, .slice x.ra x.t.rs.length x.rc, .slice x.wa x.t.ws.length x.wc, .bool x.t.out, .string x.t.nm] 27)) w1.heap.size [.int .i64 x.t.id, .int .i64 x.t.st, .int .i64 x.t.snap, .int .i64 x.t.cs, .slice x.ra x.t.rs.length x.rc, .slice x.wa x.t.ws.length x.wc, .bool x.t.out, .string x.t.nm]) := BX8.out.below hba
    have BY9 : Hid (Bx (w8.alloc (.cells #[.int .i64 x.t.id, .int .i64 x.t.st, .int .i64 x.t.snap, .int .i64 x.t.cs, .slice x.ra x.t.rs.length x.rc, .slice x.wa x.t.ws.length x.wc, .bool x.t.out, .string x.t.nm] 27)) w6.heap.size [.int .i64 x.t.id, .int .i64 x.t.st, .int .i64 x.t.snap, .int .i64 x.t.cs, .slice ea 0 0, .slice eb 0 0, .bool x.t.out, .string x.t.nm]) := BY8.out.below hba
    have BZ9 : Hid (Bx (w8.alloc (.cells #[.int .i64 x.t.id, .int .i64 x.t.st, .int .i64 x.t.snap, .int .i64 x.t.cs, .slice x.ra x.t.rs.length x.rc, .slice x.wa x.t.ws.length x.wc, .bool x.t.out, .string x.t.nm] 27)) w8.heap.size [.int .i64 x.t.id, .int .i64 x.t.st, .int .i64 x.t.snap, .int .i64 x.t.cs, .slice x.ra x.t.rs.length x.rc, .slice x.wa x.t.ws.length x.wc, .bool x.t.out, .string x.t.nm]) := Bx.new w8 [.int .i64 x.t.id, .int .i64 x.t.st, .int .i64 x.t.snap, .int .i64 x.t.cs, .slice x.ra x.t.rs.length x.rc, .slice x.wa x.t.ws.length x.wc, .bool x.t.out, .string x.t.nm] 27
    clear hba BX8 BY8 HB8
    generalize (w8.alloc (.cells #[.int .i64 x.t.id, .int .i64 x.t.st, .int .i64 x.t.snap, .int .i64 x.t.cs, .slice x.ra x.t.rs.length x.rc, .slice x.wa x.t.ws.length x.wc, .bool x.t.out, .string x.t.nm] 27)) = w9 at *
    have hs9 : w8.heap.size < w9.heap.size := BZ9.out.lt
    have y4 := BZ9.out.c4
    have f4 := BZ9.out.fz 4
    go_upto_region 13 with fail
    clear y4 f4
    have HBg : Hid (Below w6.heap.size w6 ((w9.setCell ⟨w8.heap.size, 4, none⟩ (.slice (some ⟨w9.heap.size, 0, none⟩) 0 0)).alloc (.cells #[] 92))) := by
      have h1 : Below w6.heap.size w6 (w9.setCell ⟨w8.heap.size, 4, none⟩ (.slice (some ⟨w9.heap.size, 0, none⟩) 0 0)) := HB9.out.setCell (by show w6.heap.size ≤ w8.heap.size; omega) _
      exact h1.alloc h1.size _
    have BXg : Hid (Bx ((w9.setCell ⟨w8.heap.size, 4, none⟩ (.slice (some ⟨w9.heap.size, 0, none⟩) 0 0)).alloc (.cells #[] 92)) w1.heap.size [.int .i64 x.t.id, .int .i64 x.t.st, .int .i64 x.t.snap, .int .i64 x.t.cs, .slice x.ra x.t.rs.length x.rc, .slice x.wa x.t.ws.length x.wc, .bool x.t.out, .string x.t.nm]) := (BX9.out.setO (p := ⟨w8.heap.size, 4, none⟩) (by show w8.heap.size ≠ w1.heap.size; omega) _).alloc _
    have BYg : Hid (Bx ((w9.setCell ⟨w8.heap.size, 4, none⟩ (.slice (some ⟨w9.heap.size, 0, none⟩) 0 0)).alloc (.cells #[] 92)) w6.heap.size [.int .i64 x.t.id, .int .i64 x.t.st, .int .i64 x.t.snap, .int .i64 x.t.cs, .slice ea 0 0, .slice eb 0 0, .bool x.t.out, .string x.t.nm]) := (BY9.out.setO (p := ⟨w8.heap.size, 4, none⟩) (by show w8.heap.size ≠ w6.heap.size; omega) _).alloc _
    have BZg : Hid (Bx ((w9.setCell ⟨w8.heap.size, 4, none⟩ (.slice (some ⟨w9.heap.size, 0, none⟩) 0 0)).alloc (.cells #[] 92)) w8.heap.size [.int .i64 x.t.id, .int .i64 x.t.st, .int .i64 x.t.snap, .int .i64 x.t.cs, .slice (some ⟨w9.heap.size, 0, none⟩) 0 0, .slice x.wa x.t.ws.length x.wc, .bool x.t.out, .string x.t.nm]) := (BZ9.out.set 4 (.slice (some ⟨w9.heap.size, 0, none⟩) 0 0)).alloc _
    generalize ((w9.setCell ⟨w8.heap.size, 4, none⟩ (.slice (some ⟨w9.heap.size, 0, none⟩) 0 0)).alloc (.cells #[] 92)) = wg at *
    generalize some (⟨w9.heap.size, 0, none⟩ : Addr) = ec at *
    clear BX9 BY9 BZ9 HB9
    replace HB : Hid (Below w.heap.size w wg) := HB.out.trans (HBg.out.mono HB.out.size)
    replace TX : Hid (TRow wg x.t x.ra x.wa) := TX.out.below HBg.out
    replace LY : Hid (TRows wg ya ys) := LY.out.below HBg.out
    replace TU : Hid (TRow wg u.t u.ra u.wa) := TU.out.below HBg.out
    replace LV : Hid (TRows wg va vs) := LV.out.below HBg.out
    replace BU : Hid (Bx wg w5.heap.size [.int .i64 u.t.id, .int .i64 u.t.st, .int .i64 u.t.snap, .int .i64 u.t.cs, .slice u.ra u.t.rs.length u.rc, .slice u.wa u.t.ws.length u.wc, .bool u.t.out, .string u.t.nm]) := BU.out.below HBg.out
    replace BX := BXg
    have BY := BYg
    have BZ := BZg
    clear BXg BYg BZg HBg
    go_wp2
    go_loopw [11, 12] (fun vr tk wr => ∃ (k : Nat) (rb : Bool), vr = .bool rb ∧ tk = .int .i64 k ∧ k ≤ ys.length ∧ Hid (rb = (txs (ys.take k)).any readyB) ∧ wg = wr) (fun _ tk _ => ys.length - (intOf tk).toNat)
    case atStart => exact ⟨0, false, rfl, rfl, Nat.zero_le _, rfl, rfl⟩
    case round =>
      obtain ⟨k, rb, rfl, rfl, hk, HRB, rfl⟩ := hrel
      by_cases hlt : k < ys.length
      · have hlt' : (k : Int) < (ys.length : Int) := by omega
        have h0 : (0 : Int) ≤ (k : Int) := by omega
        obtain ⟨b, o, rfl, hbl, hc, -⟩ := LY.out.cls k hlt
        have r1 := hc.c1
        have HNX : Hid ((txs (ys.take (k + 1))).any readyB = ((txs (ys.take k)).any readyB || readyB ys[k].t)) := any_next readyB ys k hlt
        obtain ⟨st, hst⟩ : ∃ st, st = ys[k].t.st := ⟨_, rfl⟩
        have hrd : readyB ys[k].t = (st == 2) := by unfold readyB; rw [← hst]; rfl
        rw [hrd] at HNX
        rw [← hst] at r1
        clear hc hrd hst hbl
        cases rb
        · have HR2 : Hid ((st == 2) = (txs (ys.take (k + 1))).any readyB) := by show _ = _; rw [HNX.out, ← HRB.out]; rfl
          go_wp2
          go_roundw
          case rel => exact ⟨k + 1, (st == 2), rfl, by go_num, by omega, HR2, trivial⟩
          case measure => simp [intOf]; omega
        · have HR2 : Hid (true = (txs (ys.take (k + 1))).any readyB) := by show _ = _; rw [HNX.out, ← HRB.out]; rfl
          go_wp2
          go_roundw
          case rel => exact ⟨k + 1, true, rfl, by go_num, by omega, HR2, trivial⟩
          case measure => simp [intOf]; omega
      · have hd : ¬ (k : Int) < (ys.length : Int) := by omega
        have HRY : Hid (rb = (txs ys).any readyB) := by show _ = _; rw [HRB.out, List.take_of_length_le (by omega)]
        clear HRB
        have K2 : Hid (∀ W : World, Below wg.heap.size wg W → Calls Try.prog 14 #[.agg #[.int .i64 u.t.id, .int .i64 u.t.st, .int .i64 u.t.snap, .int .i64 u.t.cs, .slice u.ra u.t.rs.length u.rc, .slice u.wa u.t.ws.length u.wc, .bool u.t.out, .string u.t.nm], .slice va vs.length vc] W fun e w' => e = .returned (.bool (dangerB u.t (txs vs))) ∧ Below W.heap.size W w') := fun W hW => HDS.out u.t u.ra u.wa u.rc u.wc vs va vc vs.length rfl hvl HU.out.fit HVS.out.fit W (TU.out.below hW) (LV.out.below hW)
        have K5 : Hid (∀ W : World, Below wg.heap.size wg W → Calls Try.prog 15 #[.agg #[.int .i64 u.t.id, .int .i64 u.t.st, .int .i64 u.t.snap, .int .i64 u.t.cs, .slice u.ra u.t.rs.length u.rc, .slice u.wa u.t.ws.length u.wc, .bool u.t.out, .string u.t.nm], .slice va vs.length vc] W fun e w' => e = .returned (.bool (dangerB u.t (txs vs))) ∧ Below W.heap.size W w') := fun W hW => sdanger u.t u.ra u.wa u.rc u.wc vs va vc vs.length rfl hvl HU.out.fit HVS.out.fit W (TU.out.below hW) (LV.out.below hW)
        have K10 : Hid (∀ W : World, Below wg.heap.size wg W → Calls Try.prog 16 #[.agg #[.int .i64 u.t.id, .int .i64 u.t.st, .int .i64 u.t.snap, .int .i64 u.t.cs, .slice u.ra u.t.rs.length u.rc, .slice u.wa u.t.ws.length u.wc, .bool u.t.out, .string u.t.nm], .slice va vs.length vc] W fun e w' => e = .returned (.bool (readyDB u.t (txs vs))) ∧ Below W.heap.size W w') := fun W hW => ireadyd u.t u.ra u.wa u.rc u.wc vs va vc vs.length rfl hvl HU.out.fit HVS.out.fit W (TU.out.below hW) (LV.out.below hW)
        have K13 : Hid (∀ W : World, Below wg.heap.size wg W → Calls Try.prog 17 #[.agg #[.int .i64 u.t.id, .int .i64 u.t.st, .int .i64 u.t.snap, .int .i64 u.t.cs, .slice u.ra u.t.rs.length u.rc, .slice u.wa u.t.ws.length u.wc, .bool u.t.out, .string u.t.nm], .slice va vs.length vc] W fun e w' => e = .returned (.bool (readyDB u.t (txs vs))) ∧ Below W.heap.size W w') := fun W hW => sreadyd u.t u.ra u.wa u.rc u.wc vs va vc vs.length rfl hvl HU.out.fit HVS.out.fit W (TU.out.below hW) (LV.out.below hW)
        have K19 : Hid (∀ W : World, Below wg.heap.size wg W → Calls Try.prog 18 #[.agg #[.int .i64 u.t.id, .int .i64 u.t.st, .int .i64 u.t.snap, .int .i64 u.t.cs, .slice u.ra u.t.rs.length u.rc, .slice u.wa u.t.ws.length u.wc, .bool u.t.out, .string u.t.nm], .slice va vs.length vc] W fun e w' => e = .returned (.bool (blockedB u.t (txs vs))) ∧ Below W.heap.size W w') := fun W hW => iblocked u.t u.ra u.wa u.rc u.wc vs va vc vs.length rfl hvl HU.out.fit HVS.out.fit W (TU.out.below hW) (LV.out.below hW)
        have K22 : Hid (∀ W : World, Below wg.heap.size wg W → Calls Try.prog 19 #[.agg #[.int .i64 u.t.id, .int .i64 u.t.st, .int .i64 u.t.snap, .int .i64 u.t.cs, .slice u.ra u.t.rs.length u.rc, .slice u.wa u.t.ws.length u.wc, .bool u.t.out, .string u.t.nm], .slice va vs.length vc] W fun e w' => e = .returned (.bool (blockedB u.t (txs vs))) ∧ Below W.heap.size W w') := fun W hW => sblocked u.t u.ra u.wa u.rc u.wc vs va vc vs.length rfl (by omega) HU.out.fit HVS.out.fit W (TU.out.below hW) (LV.out.below hW)
        have K34 : Hid (∀ W : World, Below wg.heap.size wg W → Calls Try.prog 14 #[.agg #[.int .i64 x.t.id, .int .i64 x.t.st, .int .i64 x.t.snap, .int .i64 x.t.cs, .slice x.ra x.t.rs.length x.rc, .slice x.wa x.t.ws.length x.wc, .bool x.t.out, .string x.t.nm], .slice ya ys.length yc] W fun e w' => e = .returned (.bool (dangerB x.t (txs ys))) ∧ Below W.heap.size W w') := fun W hW => HDS.out x.t x.ra x.wa x.rc x.wc ys ya yc ys.length rfl hyl HX.out.fit HYS.out.fit W (TX.out.below hW) (LY.out.below hW)
        have K40 : Hid (∀ W : World, Below wg.heap.size wg W → Calls Try.prog 14 #[.agg #[.int .i64 x.t.id, .int .i64 x.t.st, .int .i64 x.t.snap, .int .i64 x.t.cs, .slice ea 0 0, .slice eb 0 0, .bool x.t.out, .string x.t.nm], .slice ya ys.length yc] W fun e w' => e = .returned (.bool false) ∧ Below W.heap.size W w') := fun W hW => by
          have h := HDS.out ⟨x.t.id, x.t.st, x.t.snap, x.t.cs, [], [], x.t.out, x.t.nm⟩ ea eb 0 0 ys ya yc ys.length rfl hyl (show TFit ⟨x.t.id, x.t.st, x.t.snap, x.t.cs, [], [], x.t.out, x.t.nm⟩ from ⟨Nat.zero_le _, fun _ h => (by cases h), Nat.zero_le _, fun _ h => (by cases h), HX.out.fit.2.2.2.2⟩) HYS.out.fit W (show TRow W ⟨x.t.id, x.t.st, x.t.snap, x.t.cs, [], [], x.t.out, x.t.nm⟩ ea eb from ⟨GRow.nil _ _, GRow.nil _ _⟩) (LY.out.below hW)
          rw [danger_none _ _ rfl rfl] at h
          exact h
        have K46 : Hid (∀ W : World, Below wg.heap.size wg W → Calls Try.prog 18 #[.agg #[.int .i64 x.t.id, .int .i64 x.t.st, .int .i64 x.t.snap, .int .i64 x.t.cs, .slice ea 0 0, .slice eb 0 0, .bool x.t.out, .string x.t.nm], .slice ya ys.length yc] W fun e w' => e = .returned (.bool false) ∧ Below W.heap.size W w') := fun W hW => by
          have h := iblocked ⟨x.t.id, x.t.st, x.t.snap, x.t.cs, [], [], x.t.out, x.t.nm⟩ ea eb 0 0 ys ya yc ys.length rfl hyl (show TFit ⟨x.t.id, x.t.st, x.t.snap, x.t.cs, [], [], x.t.out, x.t.nm⟩ from ⟨Nat.zero_le _, fun _ h => (by cases h), Nat.zero_le _, fun _ h => (by cases h), HX.out.fit.2.2.2.2⟩) HYS.out.fit W (show TRow W ⟨x.t.id, x.t.st, x.t.snap, x.t.cs, [], [], x.t.out, x.t.nm⟩ ea eb from ⟨GRow.nil _ _, GRow.nil _ _⟩) (LY.out.below hW)
          rw [blocked_none _ _ rfl] at h
          exact h
        have K54 : Hid (∀ W : World, Below wg.heap.size wg W → (txs ys).any readyB = false → Calls Try.prog 14 #[.agg #[.int .i64 x.t.id, .int .i64 x.t.st, .int .i64 x.t.snap, .int .i64 x.t.cs, .slice ec 0 0, .slice x.wa x.t.ws.length x.wc, .bool x.t.out, .string x.t.nm], .slice ya ys.length yc] W fun e w' => e = .returned (.bool false) ∧ Below W.heap.size W w') := fun W hW => fun hrb => by
          have h := HDS.out ⟨x.t.id, x.t.st, x.t.snap, x.t.cs, [], x.t.ws, x.t.out, x.t.nm⟩ ec x.wa 0 x.wc ys ya yc ys.length rfl hyl (show TFit ⟨x.t.id, x.t.st, x.t.snap, x.t.cs, [], x.t.ws, x.t.out, x.t.nm⟩ from ⟨Nat.zero_le _, fun _ h => (by cases h), HX.out.fit.2.2.1, HX.out.fit.2.2.2.1, HX.out.fit.2.2.2.2⟩) HYS.out.fit W (show TRow W ⟨x.t.id, x.t.st, x.t.snap, x.t.cs, [], x.t.ws, x.t.out, x.t.nm⟩ ec x.wa from ⟨GRow.nil _ _, (TX.out.below hW).w⟩) (LY.out.below hW)
          rw [danger_calm _ _ rfl hrb] at h
          exact h
        have K61 : Hid (∀ W : World, Below wg.heap.size wg W → Calls Try.prog 11 #[.agg #[.int .i64 u.t.id, .int .i64 u.t.st, .int .i64 u.t.snap, .int .i64 u.t.cs, .slice u.ra u.t.rs.length u.rc, .slice u.wa u.t.ws.length u.wc, .bool u.t.out, .string u.t.nm], .slice va vs.length vc] W fun e w' => e = .returned (.bool (intoB u.t (txs vs))) ∧ Below W.heap.size W w') := fun W hW => iinof u.t u.ra u.wa u.rc u.wc vs va vc vs.length rfl hvl HU.out.fit HVS.out.fit W (TU.out.below hW) (LV.out.below hW)
        have K64 : Hid (∀ W : World, Below wg.heap.size wg W → Calls Try.prog 20 #[.agg #[.int .i64 u.t.id, .int .i64 u.t.st, .int .i64 u.t.snap, .int .i64 u.t.cs, .slice u.ra u.t.rs.length u.rc, .slice u.wa u.t.ws.length u.wc, .bool u.t.out, .string u.t.nm], .slice va vs.length vc] W fun e w' => e = .returned (.bool (intoB u.t (txs vs))) ∧ Below W.heap.size W w') := fun W hW => sinof u.t u.ra u.wa u.rc u.wc vs va vc vs.length rfl (by omega) HU.out.fit HVS.out.fit W (TU.out.below hW) (LV.out.below hW)
        have K70 : Hid (∀ W : World, Below wg.heap.size wg W → Calls Try.prog 12 #[.agg #[.int .i64 u.t.id, .int .i64 u.t.st, .int .i64 u.t.snap, .int .i64 u.t.cs, .slice u.ra u.t.rs.length u.rc, .slice u.wa u.t.ws.length u.wc, .bool u.t.out, .string u.t.nm], .slice va vs.length vc] W fun e w' => e = .returned (.bool (outB u.t (txs vs))) ∧ Below W.heap.size W w') := fun W hW => ioutof u.t u.ra u.wa u.rc u.wc vs va vc vs.length rfl hvl HU.out.fit HVS.out.fit W (TU.out.below hW) (LV.out.below hW)
        have K73 : Hid (∀ W : World, Below wg.heap.size wg W → Calls Try.prog 21 #[.agg #[.int .i64 u.t.id, .int .i64 u.t.st, .int .i64 u.t.snap, .int .i64 u.t.cs, .slice u.ra u.t.rs.length u.rc, .slice u.wa u.t.ws.length u.wc, .bool u.t.out, .string u.t.nm], .slice va vs.length vc] W fun e w' => e = .returned (.bool (outB u.t (txs vs))) ∧ Below W.heap.size W w') := fun W hW => soutof u.t u.ra u.wa u.rc u.wc vs va vc vs.length rfl (by omega) HU.out.fit HVS.out.fit W (TU.out.below hW) (LV.out.below hW)
        have K79 : Hid (∀ W : World, Below wg.heap.size wg W → Calls Try.prog 16 #[.agg #[.int .i64 x.t.id, .int .i64 x.t.st, .int .i64 x.t.snap, .int .i64 x.t.cs, .slice x.ra x.t.rs.length x.rc, .slice x.wa x.t.ws.length x.wc, .bool x.t.out, .string x.t.nm], .slice ya ys.length yc] W fun e w' => e = .returned (.bool (readyDB x.t (txs ys))) ∧ Below W.heap.size W w') := fun W hW => ireadyd x.t x.ra x.wa x.rc x.wc ys ya yc ys.length rfl hyl HX.out.fit HYS.out.fit W (TX.out.below hW) (LY.out.below hW)
        obtain ⟨io, hio⟩ : ∃ io, io = (intoB x.t (txs ys) && outB x.t (txs ys)) := ⟨_, rfl⟩
        have HIO : Hid (io = true → dangerB x.t (txs ys) = true) := fun h => by rw [hio] at h; show _ = _; unfold dangerB; rw [h]; rfl
        have HIOE : Hid (io = (intoB x.t (txs ys) && outB x.t (txs ys))) := hio
        clear hio
        have HRD : Hid (readyDB x.t (txs ys) = false → dangerB x.t (txs ys) = false) := fun h => by show _ = _; unfold readyDB at h; exact (Bool.or_eq_false_iff.1 h).1
        generalize intoB x.t (txs ys) = bi at *
        generalize outB x.t (txs ys) = bo at *
        generalize dangerB x.t (txs ys) = dx at *
        generalize readyDB x.t (txs ys) = rdx at *
        generalize dangerB u.t (txs vs) = du at *
        generalize readyDB u.t (txs vs) = rdu at *
        generalize blockedB u.t (txs vs) = bu at *
        generalize intoB u.t (txs vs) = iu at *
        generalize outB u.t (txs vs) = ou at *
        have HW0 : Hid (Below wg.heap.size wg wg) := belowRefl wg
        go_wp2
        refine wp_region_held_drew (S := fun w' => w'.cell? ⟨w1.heap.size, 0, none⟩ = some (.int .i64 x.t.id) ∧ w'.cell? ⟨w1.heap.size, 1, none⟩ = some (.int .i64 x.t.st) ∧ w'.cell? ⟨w1.heap.size, 2, none⟩ = some (.int .i64 x.t.snap) ∧ w'.cell? ⟨w1.heap.size, 3, none⟩ = some (.int .i64 x.t.cs) ∧ w'.cell? ⟨w1.heap.size, 4, none⟩ = some (.slice x.ra x.t.rs.length x.rc) ∧ w'.cell? ⟨w1.heap.size, 5, none⟩ = some (.slice x.wa x.t.ws.length x.wc) ∧ w'.cell? ⟨w1.heap.size, 6, none⟩ = some (.bool x.t.out) ∧ w'.cell? ⟨w1.heap.size, 7, none⟩ = some (.string x.t.nm) ∧ w'.cell? ⟨w5.heap.size, 0, none⟩ = some (.int .i64 u.t.id) ∧ w'.cell? ⟨w5.heap.size, 1, none⟩ = some (.int .i64 u.t.st) ∧ w'.cell? ⟨w5.heap.size, 2, none⟩ = some (.int .i64 u.t.snap) ∧ w'.cell? ⟨w5.heap.size, 3, none⟩ = some (.int .i64 u.t.cs) ∧ w'.cell? ⟨w5.heap.size, 4, none⟩ = some (.slice u.ra u.t.rs.length u.rc) ∧ w'.cell? ⟨w5.heap.size, 5, none⟩ = some (.slice u.wa u.t.ws.length u.wc) ∧ w'.cell? ⟨w5.heap.size, 6, none⟩ = some (.bool u.t.out) ∧ w'.cell? ⟨w5.heap.size, 7, none⟩ = some (.string u.t.nm) ∧ w'.cell? ⟨w6.heap.size, 0, none⟩ = some (.int .i64 x.t.id) ∧ w'.cell? ⟨w6.heap.size, 1, none⟩ = some (.int .i64 x.t.st) ∧ w'.cell? ⟨w6.heap.size, 2, none⟩ = some (.int .i64 x.t.snap) ∧ w'.cell? ⟨w6.heap.size, 3, none⟩ = some (.int .i64 x.t.cs) ∧ w'.cell? ⟨w6.heap.size, 4, none⟩ = some (.slice ea 0 0) ∧ w'.cell? ⟨w6.heap.size, 5, none⟩ = some (.slice eb 0 0) ∧ w'.cell? ⟨w6.heap.size, 6, none⟩ = some (.bool x.t.out) ∧ w'.cell? ⟨w6.heap.size, 7, none⟩ = some (.string x.t.nm) ∧ w'.cell? ⟨w8.heap.size, 0, none⟩ = some (.int .i64 x.t.id) ∧ w'.cell? ⟨w8.heap.size, 1, none⟩ = some (.int .i64 x.t.st) ∧ w'.cell? ⟨w8.heap.size, 2, none⟩ = some (.int .i64 x.t.snap) ∧ w'.cell? ⟨w8.heap.size, 3, none⟩ = some (.int .i64 x.t.cs) ∧ w'.cell? ⟨w8.heap.size, 4, none⟩ = some (.slice ec 0 0) ∧ w'.cell? ⟨w8.heap.size, 5, none⟩ = some (.slice x.wa x.t.ws.length x.wc) ∧ w'.cell? ⟨w8.heap.size, 6, none⟩ = some (.bool x.t.out) ∧ w'.cell? ⟨w8.heap.size, 7, none⟩ = some (.string x.t.nm)) (by kernel_rfl) ⟨BX.out.c0, BX.out.c1, BX.out.c2, BX.out.c3, BX.out.c4, BX.out.c5, BX.out.c6, BX.out.c7, BU.out.c0, BU.out.c1, BU.out.c2, BU.out.c3, BU.out.c4, BU.out.c5, BU.out.c6, BU.out.c7, BY.out.c0, BY.out.c1, BY.out.c2, BY.out.c3, BY.out.c4, BY.out.c5, BY.out.c6, BY.out.c7, BZ.out.c0, BZ.out.c1, BZ.out.c2, BZ.out.c3, BZ.out.c4, BZ.out.c5, BZ.out.c6, BZ.out.c7⟩ (fun hHeld => ?_)
        (refine wpAnyH_take (i := 0) (v := ?_) rfl (by kernel_rfl) (by kernel_rfl) (by kernel_rfl) (fun _ _ _ h => h) (Or.inl ⟨by rfl, ?_⟩) (by assumption) ?_; rotate_left; (focus (intro w hSw; (try dsimp only at hSw); go_simp; (try with_reducible rfl); done)); simp only [Act.put, List.getElem_toArray, List.getElem_cons_zero, List.setIfInBounds_toArray, List.set_cons_zero, List.set_cons_succ])
        (refine wpAnyH_take (i := 1) (v := ?_) rfl (by kernel_rfl) (by kernel_rfl) (by kernel_rfl) (fun _ _ _ h => h) (Or.inl ⟨by rfl, ?_⟩) (by assumption) ?_; rotate_left; (focus (intro w hSw; (try dsimp only at hSw); go_simp; (try with_reducible rfl); done)); simp only [Act.put, List.getElem_toArray, List.getElem_cons_zero, List.getElem_cons_succ, List.setIfInBounds_toArray, List.set_cons_zero, List.set_cons_succ])
        (refine wpAnyH_take (i := 3) (v := ?_) rfl (by kernel_rfl) (by kernel_rfl) (by kernel_rfl) (fun _ _ _ h => h) (Or.inl ⟨by rfl, ?_⟩) (by assumption) ?_; rotate_left; (focus (intro w hSw; (try dsimp only at hSw); go_simp; (try with_reducible rfl); done)); simp only [Act.put, List.getElem_toArray, List.getElem_cons_zero, List.getElem_cons_succ, List.setIfInBounds_toArray, List.set_cons_zero, List.set_cons_succ])
        (refine wpAnyH_take (i := 4) (v := ?_) rfl (by kernel_rfl) (by kernel_rfl) (by kernel_rfl) (fun _ _ _ h => h) (Or.inl ⟨by rfl, ?_⟩) (by assumption) ?_; rotate_left; (focus (intro w hSw; (try dsimp only at hSw); go_simp; (try with_reducible rfl); done)); simp only [Act.put, List.getElem_toArray, List.getElem_cons_zero, List.getElem_cons_succ, List.setIfInBounds_toArray, List.set_cons_zero, List.set_cons_succ])
        refine wpAnyH_ready (rs := [2]) (by kernel_rfl) (by simp) ?_
        refine AllReadyH.cons rfl (fun K hK => ?_) AllReadyH.nil
        go_simp
        go_wp2_with fail
        refine (K2.out _ HW0.out.drew).mono ?_
        rintro e v21 ⟨rfl, hb0⟩
        have hb := undrew hb0
        replace HW0 : Hid (Below wg.heap.size wg v21) := HW0.out.trans (hb.mono HW0.out.size)
        replace BX : Hid (Bx v21 w1.heap.size [.int .i64 x.t.id, .int .i64 x.t.st, .int .i64 x.t.snap, .int .i64 x.t.cs, .slice x.ra x.t.rs.length x.rc, .slice x.wa x.t.ws.length x.wc, .bool x.t.out, .string x.t.nm]) := BX.out.below hb
        replace BU : Hid (Bx v21 w5.heap.size [.int .i64 u.t.id, .int .i64 u.t.st, .int .i64 u.t.snap, .int .i64 u.t.cs, .slice u.ra u.t.rs.length u.rc, .slice u.wa u.t.ws.length u.wc, .bool u.t.out, .string u.t.nm]) := BU.out.below hb
        replace BY : Hid (Bx v21 w6.heap.size [.int .i64 x.t.id, .int .i64 x.t.st, .int .i64 x.t.snap, .int .i64 x.t.cs, .slice ea 0 0, .slice eb 0 0, .bool x.t.out, .string x.t.nm]) := BY.out.below hb
        replace BZ : Hid (Bx v21 w8.heap.size [.int .i64 x.t.id, .int .i64 x.t.st, .int .i64 x.t.snap, .int .i64 x.t.cs, .slice ec 0 0, .slice x.wa x.t.ws.length x.wc, .bool x.t.out, .string x.t.nm]) := BZ.out.below hb
        go_wp2_with fail
        refine hK.out _ _ ⟨BX.out.c0, BX.out.c1, BX.out.c2, BX.out.c3, BX.out.c4, BX.out.c5, BX.out.c6, BX.out.c7, BU.out.c0, BU.out.c1, BU.out.c2, BU.out.c3, BU.out.c4, BU.out.c5, BU.out.c6, BU.out.c7, BY.out.c0, BY.out.c1, BY.out.c2, BY.out.c3, BY.out.c4, BY.out.c5, BY.out.c6, BY.out.c7, BZ.out.c0, BZ.out.c1, BZ.out.c2, BZ.out.c3, BZ.out.c4, BZ.out.c5, BZ.out.c6, BZ.out.c7⟩ (fun hHeld => ?_)
        clear hK K hb hb0
        refine wpAnyH_ready (rs := [5]) (by kernel_rfl) (by simp) ?_
        refine AllReadyH.cons rfl (fun K hK => ?_) AllReadyH.nil
        go_simp
        go_wp2_with fail
        refine (K5.out _ HW0.out).mono ?_
        rintro e v22 ⟨rfl, hb0⟩
        have hb := hb0
        replace HW0 : Hid (Below wg.heap.size wg v22) := HW0.out.trans (hb.mono HW0.out.size)
        replace BX : Hid (Bx v22 w1.heap.size [.int .i64 x.t.id, .int .i64 x.t.st, .int .i64 x.t.snap, .int .i64 x.t.cs, .slice x.ra x.t.rs.length x.rc, .slice x.wa x.t.ws.length x.wc, .bool x.t.out, .string x.t.nm]) := BX.out.below hb
        replace BU : Hid (Bx v22 w5.heap.size [.int .i64 u.t.id, .int .i64 u.t.st, .int .i64 u.t.snap, .int .i64 u.t.cs, .slice u.ra u.t.rs.length u.rc, .slice u.wa u.t.ws.length u.wc, .bool u.t.out, .string u.t.nm]) := BU.out.below hb
        replace BY : Hid (Bx v22 w6.heap.size [.int .i64 x.t.id, .int .i64 x.t.st, .int .i64 x.t.snap, .int .i64 x.t.cs, .slice ea 0 0, .slice eb 0 0, .bool x.t.out, .string x.t.nm]) := BY.out.below hb
        replace BZ : Hid (Bx v22 w8.heap.size [.int .i64 x.t.id, .int .i64 x.t.st, .int .i64 x.t.snap, .int .i64 x.t.cs, .slice ec 0 0, .slice x.wa x.t.ws.length x.wc, .bool x.t.out, .string x.t.nm]) := BZ.out.below hb
        go_wp2_with fail
        refine hK.out _ _ ⟨BX.out.c0, BX.out.c1, BX.out.c2, BX.out.c3, BX.out.c4, BX.out.c5, BX.out.c6, BX.out.c7, BU.out.c0, BU.out.c1, BU.out.c2, BU.out.c3, BU.out.c4, BU.out.c5, BU.out.c6, BU.out.c7, BY.out.c0, BY.out.c1, BY.out.c2, BY.out.c3, BY.out.c4, BY.out.c5, BY.out.c6, BY.out.c7, BZ.out.c0, BZ.out.c1, BZ.out.c2, BZ.out.c3, BZ.out.c4, BZ.out.c5, BZ.out.c6, BZ.out.c7⟩ (fun hHeld => ?_)
        clear hK K hb hb0
        (refine wpAnyH_take (i := 6) (v := ?_) rfl (by kernel_rfl) (by kernel_rfl) (by kernel_rfl) (fun _ _ _ h => h) (Or.inl ⟨by rfl, ?_⟩) (by assumption) ?_; rotate_left; (focus (intro w hSw; (try dsimp only at hSw); go_simp; (try with_reducible rfl); done)); simp only [Act.put, List.getElem_toArray, List.getElem_cons_zero, List.getElem_cons_succ, List.setIfInBounds_toArray, List.set_cons_zero, List.set_cons_succ])
        (refine wpAnyH_take (i := 7) (v := ?_) rfl (by kernel_rfl) (by kernel_rfl) (by kernel_rfl) (fun _ _ _ h => h) (Or.inl ⟨by rfl, ?_⟩) (by assumption) ?_; rotate_left; (focus (intro w hSw; (try dsimp only at hSw); go_simp; (try with_reducible rfl); done)); simp only [Act.put, List.getElem_toArray, List.getElem_cons_zero, List.getElem_cons_succ, List.setIfInBounds_toArray, List.set_cons_zero, List.set_cons_succ])
        (refine wpAnyH_take (i := 8) (v := ?_) rfl (by kernel_rfl) (by kernel_rfl) (by kernel_rfl) (fun _ _ _ h => h) (Or.inl ⟨by rfl, ?_⟩) (by assumption) ?_; rotate_left; (focus (intro w hSw; (try dsimp only at hSw); go_simp; (try with_reducible rfl); done)); simp only [Act.put, List.getElem_toArray, List.getElem_cons_zero, List.getElem_cons_succ, List.setIfInBounds_toArray, List.set_cons_zero, List.set_cons_succ])
        (refine wpAnyH_take (i := 9) (v := ?_) rfl (by kernel_rfl) (by kernel_rfl) (by kernel_rfl) (fun _ _ _ h => h) (Or.inl ⟨by rfl, ?_⟩) (by assumption) ?_; rotate_left; (focus (intro w hSw; (try dsimp only at hSw); go_simp; (try with_reducible rfl); done)); simp only [Act.put, List.getElem_toArray, List.getElem_cons_zero, List.getElem_cons_succ, List.setIfInBounds_toArray, List.set_cons_zero, List.set_cons_succ])
        (refine wpAnyH_take (i := 11) (v := ?_) rfl (by kernel_rfl) (by kernel_rfl) (by kernel_rfl) (fun _ _ _ h => h) (Or.inl ⟨by rfl, ?_⟩) (by assumption) ?_; rotate_left; (focus (intro w hSw; (try dsimp only at hSw); go_simp; (try with_reducible rfl); done)); simp only [Act.put, List.getElem_toArray, List.getElem_cons_zero, List.getElem_cons_succ, List.setIfInBounds_toArray, List.set_cons_zero, List.set_cons_succ])
        (refine wpAnyH_take (i := 12) (v := ?_) rfl (by kernel_rfl) (by kernel_rfl) (by kernel_rfl) (fun _ _ _ h => h) (Or.inl ⟨by rfl, ?_⟩) (by assumption) ?_; rotate_left; (focus (intro w hSw; (try dsimp only at hSw); go_simp; (try with_reducible rfl); done)); simp only [Act.put, List.getElem_toArray, List.getElem_cons_zero, List.getElem_cons_succ, List.setIfInBounds_toArray, List.set_cons_zero, List.set_cons_succ])
        as_aux_lemma =>
          refine wpAnyH_ready (rs := [10]) (by kernel_rfl) (by simp) ?_
          refine AllReadyH.cons rfl (fun K hK => ?_) AllReadyH.nil
          go_simp
          go_wp2_with fail
          refine (K10.out _ HW0.out).mono ?_
          rintro e v23 ⟨rfl, hb0⟩
          have hb := hb0
          replace HW0 : Hid (Below wg.heap.size wg v23) := HW0.out.trans (hb.mono HW0.out.size)
          replace BX : Hid (Bx v23 w1.heap.size [.int .i64 x.t.id, .int .i64 x.t.st, .int .i64 x.t.snap, .int .i64 x.t.cs, .slice x.ra x.t.rs.length x.rc, .slice x.wa x.t.ws.length x.wc, .bool x.t.out, .string x.t.nm]) := BX.out.below hb
          replace BU : Hid (Bx v23 w5.heap.size [.int .i64 u.t.id, .int .i64 u.t.st, .int .i64 u.t.snap, .int .i64 u.t.cs, .slice u.ra u.t.rs.length u.rc, .slice u.wa u.t.ws.length u.wc, .bool u.t.out, .string u.t.nm]) := BU.out.below hb
          replace BY : Hid (Bx v23 w6.heap.size [.int .i64 x.t.id, .int .i64 x.t.st, .int .i64 x.t.snap, .int .i64 x.t.cs, .slice ea 0 0, .slice eb 0 0, .bool x.t.out, .string x.t.nm]) := BY.out.below hb
          replace BZ : Hid (Bx v23 w8.heap.size [.int .i64 x.t.id, .int .i64 x.t.st, .int .i64 x.t.snap, .int .i64 x.t.cs, .slice ec 0 0, .slice x.wa x.t.ws.length x.wc, .bool x.t.out, .string x.t.nm]) := BZ.out.below hb
          go_wp2_with fail
          refine hK.out _ _ ⟨BX.out.c0, BX.out.c1, BX.out.c2, BX.out.c3, BX.out.c4, BX.out.c5, BX.out.c6, BX.out.c7, BU.out.c0, BU.out.c1, BU.out.c2, BU.out.c3, BU.out.c4, BU.out.c5, BU.out.c6, BU.out.c7, BY.out.c0, BY.out.c1, BY.out.c2, BY.out.c3, BY.out.c4, BY.out.c5, BY.out.c6, BY.out.c7, BZ.out.c0, BZ.out.c1, BZ.out.c2, BZ.out.c3, BZ.out.c4, BZ.out.c5, BZ.out.c6, BZ.out.c7⟩ (fun hHeld => ?_)
          clear hK K hb hb0
          refine wpAnyH_ready (rs := [13]) (by kernel_rfl) (by simp) ?_
          refine AllReadyH.cons rfl (fun K hK => ?_) AllReadyH.nil
          go_simp
          go_wp2_with fail
          refine (K13.out _ HW0.out).mono ?_
          rintro e v24 ⟨rfl, hb0⟩
          have hb := hb0
          replace HW0 : Hid (Below wg.heap.size wg v24) := HW0.out.trans (hb.mono HW0.out.size)
          replace BX : Hid (Bx v24 w1.heap.size [.int .i64 x.t.id, .int .i64 x.t.st, .int .i64 x.t.snap, .int .i64 x.t.cs, .slice x.ra x.t.rs.length x.rc, .slice x.wa x.t.ws.length x.wc, .bool x.t.out, .string x.t.nm]) := BX.out.below hb
          replace BU : Hid (Bx v24 w5.heap.size [.int .i64 u.t.id, .int .i64 u.t.st, .int .i64 u.t.snap, .int .i64 u.t.cs, .slice u.ra u.t.rs.length u.rc, .slice u.wa u.t.ws.length u.wc, .bool u.t.out, .string u.t.nm]) := BU.out.below hb
          replace BY : Hid (Bx v24 w6.heap.size [.int .i64 x.t.id, .int .i64 x.t.st, .int .i64 x.t.snap, .int .i64 x.t.cs, .slice ea 0 0, .slice eb 0 0, .bool x.t.out, .string x.t.nm]) := BY.out.below hb
          replace BZ : Hid (Bx v24 w8.heap.size [.int .i64 x.t.id, .int .i64 x.t.st, .int .i64 x.t.snap, .int .i64 x.t.cs, .slice ec 0 0, .slice x.wa x.t.ws.length x.wc, .bool x.t.out, .string x.t.nm]) := BZ.out.below hb
          go_wp2_with fail
          refine hK.out _ _ ⟨BX.out.c0, BX.out.c1, BX.out.c2, BX.out.c3, BX.out.c4, BX.out.c5, BX.out.c6, BX.out.c7, BU.out.c0, BU.out.c1, BU.out.c2, BU.out.c3, BU.out.c4, BU.out.c5, BU.out.c6, BU.out.c7, BY.out.c0, BY.out.c1, BY.out.c2, BY.out.c3, BY.out.c4, BY.out.c5, BY.out.c6, BY.out.c7, BZ.out.c0, BZ.out.c1, BZ.out.c2, BZ.out.c3, BZ.out.c4, BZ.out.c5, BZ.out.c6, BZ.out.c7⟩ (fun hHeld => ?_)
          clear hK K hb hb0
          (refine wpAnyH_take (i := 14) (v := ?_) rfl (by kernel_rfl) (by kernel_rfl) (by kernel_rfl) (fun _ _ _ h => h) (Or.inl ⟨by rfl, ?_⟩) (by assumption) ?_; rotate_left; (focus (intro w hSw; (try dsimp only at hSw); go_simp; (try with_reducible rfl); done)); simp only [Act.put, List.getElem_toArray, List.getElem_cons_zero, List.getElem_cons_succ, List.setIfInBounds_toArray, List.set_cons_zero, List.set_cons_succ])
          (refine wpAnyH_take (i := 15) (v := ?_) rfl (by kernel_rfl) (by kernel_rfl) (by kernel_rfl) (fun _ _ _ h => h) (Or.inl ⟨by rfl, ?_⟩) (by assumption) ?_; rotate_left; (focus (intro w hSw; (try dsimp only at hSw); go_simp; (try with_reducible rfl); done)); simp only [Act.put, List.getElem_toArray, List.getElem_cons_zero, List.getElem_cons_succ, List.setIfInBounds_toArray, List.set_cons_zero, List.set_cons_succ])
          (refine wpAnyH_take (i := 16) (v := ?_) rfl (by kernel_rfl) (by kernel_rfl) (by kernel_rfl) (fun _ _ _ h => h) (Or.inl ⟨by rfl, ?_⟩) (by assumption) ?_; rotate_left; (focus (intro w hSw; (try dsimp only at hSw); go_simp; (try with_reducible rfl); done)); simp only [Act.put, List.getElem_toArray, List.getElem_cons_zero, List.getElem_cons_succ, List.setIfInBounds_toArray, List.set_cons_zero, List.set_cons_succ])
          (refine wpAnyH_take (i := 17) (v := ?_) rfl (by kernel_rfl) (by kernel_rfl) (by kernel_rfl) (fun _ _ _ h => h) (Or.inl ⟨by rfl, ?_⟩) (by assumption) ?_; rotate_left; (focus (intro w hSw; (try dsimp only at hSw); go_simp; (try with_reducible rfl); done)); simp only [Act.put, List.getElem_toArray, List.getElem_cons_zero, List.getElem_cons_succ, List.setIfInBounds_toArray, List.set_cons_zero, List.set_cons_succ])
          (refine wpAnyH_take (i := 18) (v := ?_) rfl (by kernel_rfl) (by kernel_rfl) (by kernel_rfl) (fun _ _ _ h => h) (Or.inl ⟨by rfl, ?_⟩) (by assumption) ?_; rotate_left; (focus (intro w hSw; (try dsimp only at hSw); go_simp; (try with_reducible rfl); done)); simp only [Act.put, List.getElem_toArray, List.getElem_cons_zero, List.getElem_cons_succ, List.setIfInBounds_toArray, List.set_cons_zero, List.set_cons_succ])
          (refine wpAnyH_take (i := 20) (v := ?_) rfl (by kernel_rfl) (by kernel_rfl) (by kernel_rfl) (fun _ _ _ h => h) (Or.inl ⟨by rfl, ?_⟩) (by assumption) ?_; rotate_left; (focus (intro w hSw; (try dsimp only at hSw); go_simp; (try with_reducible rfl); done)); simp only [Act.put, List.getElem_toArray, List.getElem_cons_zero, List.getElem_cons_succ, List.setIfInBounds_toArray, List.set_cons_zero, List.set_cons_succ])
          (refine wpAnyH_take (i := 21) (v := ?_) rfl (by kernel_rfl) (by kernel_rfl) (by kernel_rfl) (fun _ _ _ h => h) (Or.inl ⟨by rfl, ?_⟩) (by assumption) ?_; rotate_left; (focus (intro w hSw; (try dsimp only at hSw); go_simp; (try with_reducible rfl); done)); simp only [Act.put, List.getElem_toArray, List.getElem_cons_zero, List.getElem_cons_succ, List.setIfInBounds_toArray, List.set_cons_zero, List.set_cons_succ])
          refine wpAnyH_ready (rs := [19]) (by kernel_rfl) (by simp) ?_
          refine AllReadyH.cons rfl (fun K hK => ?_) AllReadyH.nil
          go_simp
          go_wp2_with fail
          refine (K19.out _ HW0.out).mono ?_
          rintro e v25 ⟨rfl, hb0⟩
          have hb := hb0
          replace HW0 : Hid (Below wg.heap.size wg v25) := HW0.out.trans (hb.mono HW0.out.size)
          replace BX : Hid (Bx v25 w1.heap.size [.int .i64 x.t.id, .int .i64 x.t.st, .int .i64 x.t.snap, .int .i64 x.t.cs, .slice x.ra x.t.rs.length x.rc, .slice x.wa x.t.ws.length x.wc, .bool x.t.out, .string x.t.nm]) := BX.out.below hb
          replace BU : Hid (Bx v25 w5.heap.size [.int .i64 u.t.id, .int .i64 u.t.st, .int .i64 u.t.snap, .int .i64 u.t.cs, .slice u.ra u.t.rs.length u.rc, .slice u.wa u.t.ws.length u.wc, .bool u.t.out, .string u.t.nm]) := BU.out.below hb
          replace BY : Hid (Bx v25 w6.heap.size [.int .i64 x.t.id, .int .i64 x.t.st, .int .i64 x.t.snap, .int .i64 x.t.cs, .slice ea 0 0, .slice eb 0 0, .bool x.t.out, .string x.t.nm]) := BY.out.below hb
          replace BZ : Hid (Bx v25 w8.heap.size [.int .i64 x.t.id, .int .i64 x.t.st, .int .i64 x.t.snap, .int .i64 x.t.cs, .slice ec 0 0, .slice x.wa x.t.ws.length x.wc, .bool x.t.out, .string x.t.nm]) := BZ.out.below hb
          go_wp2_with fail
          refine hK.out _ _ ⟨BX.out.c0, BX.out.c1, BX.out.c2, BX.out.c3, BX.out.c4, BX.out.c5, BX.out.c6, BX.out.c7, BU.out.c0, BU.out.c1, BU.out.c2, BU.out.c3, BU.out.c4, BU.out.c5, BU.out.c6, BU.out.c7, BY.out.c0, BY.out.c1, BY.out.c2, BY.out.c3, BY.out.c4, BY.out.c5, BY.out.c6, BY.out.c7, BZ.out.c0, BZ.out.c1, BZ.out.c2, BZ.out.c3, BZ.out.c4, BZ.out.c5, BZ.out.c6, BZ.out.c7⟩ (fun hHeld => ?_)
          clear hK K hb hb0
          refine wpAnyH_ready (rs := [22]) (by kernel_rfl) (by simp) ?_
          refine AllReadyH.cons rfl (fun K hK => ?_) AllReadyH.nil
          go_simp
          go_wp2_with fail
          refine (K22.out _ HW0.out).mono ?_
          rintro e v26 ⟨rfl, hb0⟩
          have hb := hb0
          replace HW0 : Hid (Below wg.heap.size wg v26) := HW0.out.trans (hb.mono HW0.out.size)
          replace BX : Hid (Bx v26 w1.heap.size [.int .i64 x.t.id, .int .i64 x.t.st, .int .i64 x.t.snap, .int .i64 x.t.cs, .slice x.ra x.t.rs.length x.rc, .slice x.wa x.t.ws.length x.wc, .bool x.t.out, .string x.t.nm]) := BX.out.below hb
          replace BU : Hid (Bx v26 w5.heap.size [.int .i64 u.t.id, .int .i64 u.t.st, .int .i64 u.t.snap, .int .i64 u.t.cs, .slice u.ra u.t.rs.length u.rc, .slice u.wa u.t.ws.length u.wc, .bool u.t.out, .string u.t.nm]) := BU.out.below hb
          replace BY : Hid (Bx v26 w6.heap.size [.int .i64 x.t.id, .int .i64 x.t.st, .int .i64 x.t.snap, .int .i64 x.t.cs, .slice ea 0 0, .slice eb 0 0, .bool x.t.out, .string x.t.nm]) := BY.out.below hb
          replace BZ : Hid (Bx v26 w8.heap.size [.int .i64 x.t.id, .int .i64 x.t.st, .int .i64 x.t.snap, .int .i64 x.t.cs, .slice ec 0 0, .slice x.wa x.t.ws.length x.wc, .bool x.t.out, .string x.t.nm]) := BZ.out.below hb
          go_wp2_with fail
          refine hK.out _ _ ⟨BX.out.c0, BX.out.c1, BX.out.c2, BX.out.c3, BX.out.c4, BX.out.c5, BX.out.c6, BX.out.c7, BU.out.c0, BU.out.c1, BU.out.c2, BU.out.c3, BU.out.c4, BU.out.c5, BU.out.c6, BU.out.c7, BY.out.c0, BY.out.c1, BY.out.c2, BY.out.c3, BY.out.c4, BY.out.c5, BY.out.c6, BY.out.c7, BZ.out.c0, BZ.out.c1, BZ.out.c2, BZ.out.c3, BZ.out.c4, BZ.out.c5, BZ.out.c6, BZ.out.c7⟩ (fun hHeld => ?_)
          clear hK K hb hb0
          (refine wpAnyH_take (i := 23) (v := ?_) rfl (by kernel_rfl) (by kernel_rfl) (by kernel_rfl) (fun _ _ _ h => h) (Or.inl ⟨by rfl, ?_⟩) (by assumption) ?_; rotate_left; (focus (intro w hSw; (try dsimp only at hSw); go_simp; (try with_reducible rfl); done)); simp only [Act.put, List.getElem_toArray, List.getElem_cons_zero, List.getElem_cons_succ, List.setIfInBounds_toArray, List.set_cons_zero, List.set_cons_succ])
          as_aux_lemma =>
            (refine wpAnyH_take (i := 24) (v := ?_) rfl (by kernel_rfl) (by kernel_rfl) (by kernel_rfl) (fun _ _ _ h => h) (Or.inl ⟨by rfl, ?_⟩) (by assumption) ?_; rotate_left; (focus (intro w hSw; (try dsimp only at hSw); go_simp; (try with_reducible rfl); done)); simp only [Act.put, List.getElem_toArray, List.getElem_cons_zero, List.getElem_cons_succ, List.setIfInBounds_toArray, List.set_cons_zero, List.set_cons_succ])
            (refine wpAnyH_take (i := 25) (v := ?_) rfl (by kernel_rfl) (by kernel_rfl) (by kernel_rfl) (fun _ _ _ h => h) (Or.inl ⟨by rfl, ?_⟩) (by assumption) ?_; rotate_left; (focus (intro w hSw; (try dsimp only at hSw); go_simp; (try with_reducible rfl); done)); simp only [Act.put, List.getElem_toArray, List.getElem_cons_zero, List.getElem_cons_succ, List.setIfInBounds_toArray, List.set_cons_zero, List.set_cons_succ])
            (refine wpAnyH_take (i := 26) (v := ?_) rfl (by kernel_rfl) (by kernel_rfl) (by kernel_rfl) (fun _ _ _ h => h) (Or.inl ⟨by rfl, ?_⟩) (by assumption) ?_; rotate_left; (focus (intro w hSw; (try dsimp only at hSw); go_simp; (try with_reducible rfl); done)); simp only [Act.put, List.getElem_toArray, List.getElem_cons_zero, List.getElem_cons_succ, List.setIfInBounds_toArray, List.set_cons_zero, List.set_cons_succ])
            (refine wpAnyH_take (i := 27) (v := ?_) rfl (by kernel_rfl) (by kernel_rfl) (by kernel_rfl) (fun _ _ _ h => h) (Or.inl ⟨by rfl, ?_⟩) (by assumption) ?_; rotate_left; (focus (intro w hSw; (try dsimp only at hSw); go_simp; (try with_reducible rfl); done)); simp only [Act.put, List.getElem_toArray, List.getElem_cons_zero, List.getElem_cons_succ, List.setIfInBounds_toArray, List.set_cons_zero, List.set_cons_succ])
            (refine wpAnyH_take (i := 28) (v := cond bi (.bool bo) (undef)) rfl (by kernel_rfl) (by kernel_rfl) (by kernel_rfl) (fun _ _ _ h => h) ?_ (by assumption) ?_)
            · cases bi
              · exact Or.inr ⟨by rfl, rfl⟩
              · exact Or.inl ⟨by rfl, by intro w hSw; (try dsimp only at hSw); go_simp; (try rfl); done⟩
            simp only [Act.put, List.getElem_toArray, List.getElem_cons_zero, List.getElem_cons_succ, List.setIfInBounds_toArray, List.set_cons_zero, List.set_cons_succ]
            (refine wpAnyH_take (i := 29) (v := .bool io) rfl (by kernel_rfl) (by kernel_rfl) (by kernel_rfl) (fun _ _ _ h => h) ?_ (by assumption) ?_)
            · cases bi
              · obtain rfl : io = false := HIOE.out; exact Or.inl ⟨by rfl, by intro w hSw; (try dsimp only at hSw); go_simp; (try rfl); done⟩
              · obtain rfl : io = bo := HIOE.out; exact Or.inl ⟨by rfl, by intro w hSw; (try dsimp only at hSw); go_simp; (try rfl); done⟩
            simp only [Act.put, List.getElem_toArray, List.getElem_cons_zero, List.getElem_cons_succ, List.setIfInBounds_toArray, List.set_cons_zero, List.set_cons_succ]
            (refine wpAnyH_take (i := 30) (v := ?_) rfl (by kernel_rfl) (by kernel_rfl) (by kernel_rfl) (fun _ _ _ h => h) (Or.inl ⟨by rfl, ?_⟩) (by assumption) ?_; rotate_left; (focus (intro w hSw; (try dsimp only at hSw); go_simp; (try with_reducible rfl); done)); simp only [Act.put, List.getElem_toArray, List.getElem_cons_zero, List.getElem_cons_succ, List.setIfInBounds_toArray, List.set_cons_zero, List.set_cons_succ])
            (refine wpAnyH_take (i := 31) (v := ?_) rfl (by kernel_rfl) (by kernel_rfl) (by kernel_rfl) (fun _ _ _ h => h) (Or.inl ⟨by rfl, ?_⟩) (by assumption) ?_; rotate_left; (focus (intro w hSw; (try dsimp only at hSw); go_simp; (try with_reducible rfl); done)); simp only [Act.put, List.getElem_toArray, List.getElem_cons_zero, List.getElem_cons_succ, List.setIfInBounds_toArray, List.set_cons_zero, List.set_cons_succ])
            (refine wpAnyH_take (i := 32) (v := cond io (.agg #[.int .i64 x.t.id, .int .i64 x.t.st, .int .i64 x.t.snap, .int .i64 x.t.cs, .slice x.ra x.t.rs.length x.rc, .slice x.wa x.t.ws.length x.wc, .bool x.t.out, .string x.t.nm]) (undef)) rfl (by kernel_rfl) (by kernel_rfl) (by kernel_rfl) (fun _ _ _ h => h) ?_ (by assumption) ?_)
            · cases io
              · exact Or.inr ⟨by rfl, rfl⟩
              · exact Or.inl ⟨by rfl, by intro w hSw; (try dsimp only at hSw); go_simp; (try rfl); done⟩
            simp only [Act.put, List.getElem_toArray, List.getElem_cons_zero, List.getElem_cons_succ, List.setIfInBounds_toArray, List.set_cons_zero, List.set_cons_succ]
            (refine wpAnyH_take (i := 33) (v := cond io (.slice ya ys.length yc) (undef)) rfl (by kernel_rfl) (by kernel_rfl) (by kernel_rfl) (fun _ _ _ h => h) ?_ (by assumption) ?_)
            · cases io
              · exact Or.inr ⟨by rfl, rfl⟩
              · exact Or.inl ⟨by rfl, by intro w hSw; (try dsimp only at hSw); go_simp; (try rfl); done⟩
            simp only [Act.put, List.getElem_toArray, List.getElem_cons_zero, List.getElem_cons_succ, List.setIfInBounds_toArray, List.set_cons_zero, List.set_cons_succ]
            refine wpAnyH_ready (rs := [34]) (by kernel_rfl) (by simp) ?_
            refine AllReadyH.cons rfl (fun K hK => ?_) AllReadyH.nil
            refine gcall (fun v w' => v = cond io (.bool dx) (undef) ∧ Below v26.heap.size v26 w') ?_ ?_ ?_
            · intro hw
              cases io
              · exact absurd (show false = true from hw) (by simp)
              ·
                go_simp
                go_wp2_with fail
                refine (K34.out _ HW0.out).mono ?_
                rintro e v27 ⟨rfl, hb0⟩
                exact ⟨_, rfl, rfl, hb0⟩
            · intro hw
              cases io
              · exact ⟨rfl, belowRefl _⟩
              · exact absurd (show true = false from hw) (by simp)
            rintro v v27 ⟨rfl, hb⟩
            replace HW0 : Hid (Below wg.heap.size wg v27) := HW0.out.trans (hb.mono HW0.out.size)
            replace BX : Hid (Bx v27 w1.heap.size [.int .i64 x.t.id, .int .i64 x.t.st, .int .i64 x.t.snap, .int .i64 x.t.cs, .slice x.ra x.t.rs.length x.rc, .slice x.wa x.t.ws.length x.wc, .bool x.t.out, .string x.t.nm]) := BX.out.below hb
            replace BU : Hid (Bx v27 w5.heap.size [.int .i64 u.t.id, .int .i64 u.t.st, .int .i64 u.t.snap, .int .i64 u.t.cs, .slice u.ra u.t.rs.length u.rc, .slice u.wa u.t.ws.length u.wc, .bool u.t.out, .string u.t.nm]) := BU.out.below hb
            replace BY : Hid (Bx v27 w6.heap.size [.int .i64 x.t.id, .int .i64 x.t.st, .int .i64 x.t.snap, .int .i64 x.t.cs, .slice ea 0 0, .slice eb 0 0, .bool x.t.out, .string x.t.nm]) := BY.out.below hb
            replace BZ : Hid (Bx v27 w8.heap.size [.int .i64 x.t.id, .int .i64 x.t.st, .int .i64 x.t.snap, .int .i64 x.t.cs, .slice ec 0 0, .slice x.wa x.t.ws.length x.wc, .bool x.t.out, .string x.t.nm]) := BZ.out.below hb
            refine hK.out _ _ ⟨BX.out.c0, BX.out.c1, BX.out.c2, BX.out.c3, BX.out.c4, BX.out.c5, BX.out.c6, BX.out.c7, BU.out.c0, BU.out.c1, BU.out.c2, BU.out.c3, BU.out.c4, BU.out.c5, BU.out.c6, BU.out.c7, BY.out.c0, BY.out.c1, BY.out.c2, BY.out.c3, BY.out.c4, BY.out.c5, BY.out.c6, BY.out.c7, BZ.out.c0, BZ.out.c1, BZ.out.c2, BZ.out.c3, BZ.out.c4, BZ.out.c5, BZ.out.c6, BZ.out.c7⟩ (fun hHeld => ?_)
            clear hK K hb
            simp only [Act.put, List.getElem_toArray, List.getElem_cons_zero, List.getElem_cons_succ, List.setIfInBounds_toArray, List.set_cons_zero, List.set_cons_succ]
            (refine wpAnyH_take (i := 35) (v := .bool true) rfl (by kernel_rfl) (by kernel_rfl) (by kernel_rfl) (fun _ _ _ h => h) ?_ (by assumption) ?_)
            · cases io
              · exact Or.inl ⟨by rfl, by intro w hSw; (try dsimp only at hSw); go_simp; (try rfl); done⟩
              · obtain rfl : dx = true := HIO.out rfl; exact Or.inl ⟨by rfl, by intro w hSw; (try dsimp only at hSw); go_simp; (try rfl); done⟩
            simp only [Act.put, List.getElem_toArray, List.getElem_cons_zero, List.getElem_cons_succ, List.setIfInBounds_toArray, List.set_cons_zero, List.set_cons_succ]
            as_aux_lemma =>
              (refine wpAnyH_take (i := 36) (v := ?_) rfl (by kernel_rfl) (by kernel_rfl) (by kernel_rfl) (fun _ _ _ h => h) (Or.inl ⟨by rfl, ?_⟩) (by assumption) ?_; rotate_left; (focus (intro w hSw; (try dsimp only at hSw); go_simp; (try with_reducible rfl); done)); simp only [Act.put, List.getElem_toArray, List.getElem_cons_zero, List.getElem_cons_succ, List.setIfInBounds_toArray, List.set_cons_zero, List.set_cons_succ])
              (refine wpAnyH_take (i := 37) (v := ?_) rfl (by kernel_rfl) (by kernel_rfl) (by kernel_rfl) (fun _ _ _ h => h) (Or.inl ⟨by rfl, ?_⟩) (by assumption) ?_; rotate_left; (focus (intro w hSw; (try dsimp only at hSw); go_simp; (try with_reducible rfl); done)); simp only [Act.put, List.getElem_toArray, List.getElem_cons_zero, List.getElem_cons_succ, List.setIfInBounds_toArray, List.set_cons_zero, List.set_cons_succ])
              (refine wpAnyH_take (i := 38) (v := ?_) rfl (by kernel_rfl) (by kernel_rfl) (by kernel_rfl) (fun _ _ _ h => h) (Or.inl ⟨by rfl, ?_⟩) (by assumption) ?_; rotate_left; (focus (intro w hSw; (try dsimp only at hSw); go_simp; (try with_reducible rfl); done)); simp only [Act.put, List.getElem_toArray, List.getElem_cons_zero, List.getElem_cons_succ, List.setIfInBounds_toArray, List.set_cons_zero, List.set_cons_succ])
              (refine wpAnyH_take (i := 39) (v := ?_) rfl (by kernel_rfl) (by kernel_rfl) (by kernel_rfl) (fun _ _ _ h => h) (Or.inl ⟨by rfl, ?_⟩) (by assumption) ?_; rotate_left; (focus (intro w hSw; (try dsimp only at hSw); go_simp; (try with_reducible rfl); done)); simp only [Act.put, List.getElem_toArray, List.getElem_cons_zero, List.getElem_cons_succ, List.setIfInBounds_toArray, List.set_cons_zero, List.set_cons_succ])
              refine wpAnyH_ready (rs := [40]) (by kernel_rfl) (by simp) ?_
              refine AllReadyH.cons rfl (fun K hK => ?_) AllReadyH.nil
              go_simp
              go_wp2_with fail
              refine (K40.out _ HW0.out).mono ?_
              rintro e v28 ⟨rfl, hb0⟩
              have hb := hb0
              replace HW0 : Hid (Below wg.heap.size wg v28) := HW0.out.trans (hb.mono HW0.out.size)
              replace BX : Hid (Bx v28 w1.heap.size [.int .i64 x.t.id, .int .i64 x.t.st, .int .i64 x.t.snap, .int .i64 x.t.cs, .slice x.ra x.t.rs.length x.rc, .slice x.wa x.t.ws.length x.wc, .bool x.t.out, .string x.t.nm]) := BX.out.below hb
              replace BU : Hid (Bx v28 w5.heap.size [.int .i64 u.t.id, .int .i64 u.t.st, .int .i64 u.t.snap, .int .i64 u.t.cs, .slice u.ra u.t.rs.length u.rc, .slice u.wa u.t.ws.length u.wc, .bool u.t.out, .string u.t.nm]) := BU.out.below hb
              replace BY : Hid (Bx v28 w6.heap.size [.int .i64 x.t.id, .int .i64 x.t.st, .int .i64 x.t.snap, .int .i64 x.t.cs, .slice ea 0 0, .slice eb 0 0, .bool x.t.out, .string x.t.nm]) := BY.out.below hb
              replace BZ : Hid (Bx v28 w8.heap.size [.int .i64 x.t.id, .int .i64 x.t.st, .int .i64 x.t.snap, .int .i64 x.t.cs, .slice ec 0 0, .slice x.wa x.t.ws.length x.wc, .bool x.t.out, .string x.t.nm]) := BZ.out.below hb
              go_wp2_with fail
              refine hK.out _ _ ⟨BX.out.c0, BX.out.c1, BX.out.c2, BX.out.c3, BX.out.c4, BX.out.c5, BX.out.c6, BX.out.c7, BU.out.c0, BU.out.c1, BU.out.c2, BU.out.c3, BU.out.c4, BU.out.c5, BU.out.c6, BU.out.c7, BY.out.c0, BY.out.c1, BY.out.c2, BY.out.c3, BY.out.c4, BY.out.c5, BY.out.c6, BY.out.c7, BZ.out.c0, BZ.out.c1, BZ.out.c2, BZ.out.c3, BZ.out.c4, BZ.out.c5, BZ.out.c6, BZ.out.c7⟩ (fun hHeld => ?_)
              clear hK K hb hb0
              (refine wpAnyH_take (i := 41) (v := ?_) rfl (by kernel_rfl) (by kernel_rfl) (by kernel_rfl) (fun _ _ _ h => h) (Or.inl ⟨by rfl, ?_⟩) (by assumption) ?_; rotate_left; (focus (intro w hSw; (try dsimp only at hSw); go_simp; (try with_reducible rfl); done)); simp only [Act.put, List.getElem_toArray, List.getElem_cons_zero, List.getElem_cons_succ, List.setIfInBounds_toArray, List.set_cons_zero, List.set_cons_succ])
              (refine wpAnyH_take (i := 42) (v := ?_) rfl (by kernel_rfl) (by kernel_rfl) (by kernel_rfl) (fun _ _ _ h => h) (Or.inl ⟨by rfl, ?_⟩) (by assumption) ?_; rotate_left; (focus (intro w hSw; (try dsimp only at hSw); go_simp; (try with_reducible rfl); done)); simp only [Act.put, List.getElem_toArray, List.getElem_cons_zero, List.getElem_cons_succ, List.setIfInBounds_toArray, List.set_cons_zero, List.set_cons_succ])
              (refine wpAnyH_take (i := 43) (v := ?_) rfl (by kernel_rfl) (by kernel_rfl) (by kernel_rfl) (fun _ _ _ h => h) (Or.inl ⟨by rfl, ?_⟩) (by assumption) ?_; rotate_left; (focus (intro w hSw; (try dsimp only at hSw); go_simp; (try with_reducible rfl); done)); simp only [Act.put, List.getElem_toArray, List.getElem_cons_zero, List.getElem_cons_succ, List.setIfInBounds_toArray, List.set_cons_zero, List.set_cons_succ])
              (refine wpAnyH_take (i := 44) (v := ?_) rfl (by kernel_rfl) (by kernel_rfl) (by kernel_rfl) (fun _ _ _ h => h) (Or.inl ⟨by rfl, ?_⟩) (by assumption) ?_; rotate_left; (focus (intro w hSw; (try dsimp only at hSw); go_simp; (try with_reducible rfl); done)); simp only [Act.put, List.getElem_toArray, List.getElem_cons_zero, List.getElem_cons_succ, List.setIfInBounds_toArray, List.set_cons_zero, List.set_cons_succ])
              (refine wpAnyH_take (i := 45) (v := ?_) rfl (by kernel_rfl) (by kernel_rfl) (by kernel_rfl) (fun _ _ _ h => h) (Or.inl ⟨by rfl, ?_⟩) (by assumption) ?_; rotate_left; (focus (intro w hSw; (try dsimp only at hSw); go_simp; (try with_reducible rfl); done)); simp only [Act.put, List.getElem_toArray, List.getElem_cons_zero, List.getElem_cons_succ, List.setIfInBounds_toArray, List.set_cons_zero, List.set_cons_succ])
              refine wpAnyH_ready (rs := [46]) (by kernel_rfl) (by simp) ?_
              refine AllReadyH.cons rfl (fun K hK => ?_) AllReadyH.nil
              go_simp
              go_wp2_with fail
              refine (K46.out _ HW0.out).mono ?_
              rintro e v29 ⟨rfl, hb0⟩
              have hb := hb0
              replace HW0 : Hid (Below wg.heap.size wg v29) := HW0.out.trans (hb.mono HW0.out.size)
              replace BX : Hid (Bx v29 w1.heap.size [.int .i64 x.t.id, .int .i64 x.t.st, .int .i64 x.t.snap, .int .i64 x.t.cs, .slice x.ra x.t.rs.length x.rc, .slice x.wa x.t.ws.length x.wc, .bool x.t.out, .string x.t.nm]) := BX.out.below hb
              replace BU : Hid (Bx v29 w5.heap.size [.int .i64 u.t.id, .int .i64 u.t.st, .int .i64 u.t.snap, .int .i64 u.t.cs, .slice u.ra u.t.rs.length u.rc, .slice u.wa u.t.ws.length u.wc, .bool u.t.out, .string u.t.nm]) := BU.out.below hb
              replace BY : Hid (Bx v29 w6.heap.size [.int .i64 x.t.id, .int .i64 x.t.st, .int .i64 x.t.snap, .int .i64 x.t.cs, .slice ea 0 0, .slice eb 0 0, .bool x.t.out, .string x.t.nm]) := BY.out.below hb
              replace BZ : Hid (Bx v29 w8.heap.size [.int .i64 x.t.id, .int .i64 x.t.st, .int .i64 x.t.snap, .int .i64 x.t.cs, .slice ec 0 0, .slice x.wa x.t.ws.length x.wc, .bool x.t.out, .string x.t.nm]) := BZ.out.below hb
              go_wp2_with fail
              refine hK.out _ _ ⟨BX.out.c0, BX.out.c1, BX.out.c2, BX.out.c3, BX.out.c4, BX.out.c5, BX.out.c6, BX.out.c7, BU.out.c0, BU.out.c1, BU.out.c2, BU.out.c3, BU.out.c4, BU.out.c5, BU.out.c6, BU.out.c7, BY.out.c0, BY.out.c1, BY.out.c2, BY.out.c3, BY.out.c4, BY.out.c5, BY.out.c6, BY.out.c7, BZ.out.c0, BZ.out.c1, BZ.out.c2, BZ.out.c3, BZ.out.c4, BZ.out.c5, BZ.out.c6, BZ.out.c7⟩ (fun hHeld => ?_)
              clear hK K hb hb0
              (refine wpAnyH_take (i := 47) (v := ?_) rfl (by kernel_rfl) (by kernel_rfl) (by kernel_rfl) (fun _ _ _ h => h) (Or.inl ⟨by rfl, ?_⟩) (by assumption) ?_; rotate_left; (focus (intro w hSw; (try dsimp only at hSw); go_simp; (try with_reducible rfl); done)); simp only [Act.put, List.getElem_toArray, List.getElem_cons_zero, List.getElem_cons_succ, List.setIfInBounds_toArray, List.set_cons_zero, List.set_cons_succ])
              as_aux_lemma =>
                (refine wpAnyH_take (i := 48) (v := ?_) rfl (by kernel_rfl) (by kernel_rfl) (by kernel_rfl) (fun _ _ _ h => h) (Or.inl ⟨by rfl, ?_⟩) (by assumption) ?_; rotate_left; (focus (intro w hSw; (try dsimp only at hSw); go_simp; (try with_reducible rfl); done)); simp only [Act.put, List.getElem_toArray, List.getElem_cons_zero, List.getElem_cons_succ, List.setIfInBounds_toArray, List.set_cons_zero, List.set_cons_succ])
                (refine wpAnyH_take (i := 49) (v := ?_) rfl (by kernel_rfl) (by kernel_rfl) (by kernel_rfl) (fun _ _ _ h => h) (Or.inl ⟨by rfl, ?_⟩) (by assumption) ?_; rotate_left; (focus (intro w hSw; (try dsimp only at hSw); go_simp; (try with_reducible rfl); done)); simp only [Act.put, List.getElem_toArray, List.getElem_cons_zero, List.getElem_cons_succ, List.setIfInBounds_toArray, List.set_cons_zero, List.set_cons_succ])
                (refine wpAnyH_take (i := 50) (v := ?_) rfl (by kernel_rfl) (by kernel_rfl) (by kernel_rfl) (fun _ _ _ h => h) (Or.inl ⟨by rfl, ?_⟩) (by assumption) ?_; rotate_left; (focus (intro w hSw; (try dsimp only at hSw); go_simp; (try with_reducible rfl); done)); simp only [Act.put, List.getElem_toArray, List.getElem_cons_zero, List.getElem_cons_succ, List.setIfInBounds_toArray, List.set_cons_zero, List.set_cons_succ])
                (refine wpAnyH_take (i := 51) (v := ?_) rfl (by kernel_rfl) (by kernel_rfl) (by kernel_rfl) (fun _ _ _ h => h) (Or.inl ⟨by rfl, ?_⟩) (by assumption) ?_; rotate_left; (focus (intro w hSw; (try dsimp only at hSw); go_simp; (try with_reducible rfl); done)); simp only [Act.put, List.getElem_toArray, List.getElem_cons_zero, List.getElem_cons_succ, List.setIfInBounds_toArray, List.set_cons_zero, List.set_cons_succ])
                (refine wpAnyH_take (i := 52) (v := cond rb (undef) (.agg #[.int .i64 x.t.id, .int .i64 x.t.st, .int .i64 x.t.snap, .int .i64 x.t.cs, .slice ec 0 0, .slice x.wa x.t.ws.length x.wc, .bool x.t.out, .string x.t.nm])) rfl (by kernel_rfl) (by kernel_rfl) (by kernel_rfl) (fun _ _ _ h => h) ?_ (by assumption) ?_)
                · cases rb
                  · exact Or.inl ⟨by rfl, by intro w hSw; (try dsimp only at hSw); go_simp; (try rfl); done⟩
                  · exact Or.inr ⟨by rfl, rfl⟩
                simp only [Act.put, List.getElem_toArray, List.getElem_cons_zero, List.getElem_cons_succ, List.setIfInBounds_toArray, List.set_cons_zero, List.set_cons_succ]
                (refine wpAnyH_take (i := 53) (v := cond rb (undef) (.slice ya ys.length yc)) rfl (by kernel_rfl) (by kernel_rfl) (by kernel_rfl) (fun _ _ _ h => h) ?_ (by assumption) ?_)
                · cases rb
                  · exact Or.inl ⟨by rfl, by intro w hSw; (try dsimp only at hSw); go_simp; (try rfl); done⟩
                  · exact Or.inr ⟨by rfl, rfl⟩
                simp only [Act.put, List.getElem_toArray, List.getElem_cons_zero, List.getElem_cons_succ, List.setIfInBounds_toArray, List.set_cons_zero, List.set_cons_succ]
                refine wpAnyH_ready (rs := [54]) (by kernel_rfl) (by simp) ?_
                refine AllReadyH.cons rfl (fun K hK => ?_) AllReadyH.nil
                refine gcall (fun v w' => v = cond rb (undef) (.bool false) ∧ Below v29.heap.size v29 w') ?_ ?_ ?_
                · intro hw
                  cases rb
                  ·
                    go_simp
                    go_wp2_with fail
                    refine (K54.out _ HW0.out HRY.out.symm).mono ?_
                    rintro e v30 ⟨rfl, hb0⟩
                    exact ⟨_, rfl, rfl, hb0⟩
                  · exact absurd (show false = true from hw) (by simp)
                · intro hw
                  cases rb
                  · exact absurd (show true = false from hw) (by simp)
                  · exact ⟨rfl, belowRefl _⟩
                rintro v v30 ⟨rfl, hb⟩
                replace HW0 : Hid (Below wg.heap.size wg v30) := HW0.out.trans (hb.mono HW0.out.size)
                replace BX : Hid (Bx v30 w1.heap.size [.int .i64 x.t.id, .int .i64 x.t.st, .int .i64 x.t.snap, .int .i64 x.t.cs, .slice x.ra x.t.rs.length x.rc, .slice x.wa x.t.ws.length x.wc, .bool x.t.out, .string x.t.nm]) := BX.out.below hb
                replace BU : Hid (Bx v30 w5.heap.size [.int .i64 u.t.id, .int .i64 u.t.st, .int .i64 u.t.snap, .int .i64 u.t.cs, .slice u.ra u.t.rs.length u.rc, .slice u.wa u.t.ws.length u.wc, .bool u.t.out, .string u.t.nm]) := BU.out.below hb
                replace BY : Hid (Bx v30 w6.heap.size [.int .i64 x.t.id, .int .i64 x.t.st, .int .i64 x.t.snap, .int .i64 x.t.cs, .slice ea 0 0, .slice eb 0 0, .bool x.t.out, .string x.t.nm]) := BY.out.below hb
                replace BZ : Hid (Bx v30 w8.heap.size [.int .i64 x.t.id, .int .i64 x.t.st, .int .i64 x.t.snap, .int .i64 x.t.cs, .slice ec 0 0, .slice x.wa x.t.ws.length x.wc, .bool x.t.out, .string x.t.nm]) := BZ.out.below hb
                refine hK.out _ _ ⟨BX.out.c0, BX.out.c1, BX.out.c2, BX.out.c3, BX.out.c4, BX.out.c5, BX.out.c6, BX.out.c7, BU.out.c0, BU.out.c1, BU.out.c2, BU.out.c3, BU.out.c4, BU.out.c5, BU.out.c6, BU.out.c7, BY.out.c0, BY.out.c1, BY.out.c2, BY.out.c3, BY.out.c4, BY.out.c5, BY.out.c6, BY.out.c7, BZ.out.c0, BZ.out.c1, BZ.out.c2, BZ.out.c3, BZ.out.c4, BZ.out.c5, BZ.out.c6, BZ.out.c7⟩ (fun hHeld => ?_)
                clear hK K hb
                simp only [Act.put, List.getElem_toArray, List.getElem_cons_zero, List.getElem_cons_succ, List.setIfInBounds_toArray, List.set_cons_zero, List.set_cons_succ]
                (refine wpAnyH_take (i := 55) (v := cond rb (undef) (.bool true)) rfl (by kernel_rfl) (by kernel_rfl) (by kernel_rfl) (fun _ _ _ h => h) ?_ (by assumption) ?_)
                · cases rb
                  · exact Or.inl ⟨by rfl, by intro w hSw; (try dsimp only at hSw); go_simp; (try rfl); done⟩
                  · exact Or.inr ⟨by rfl, rfl⟩
                simp only [Act.put, List.getElem_toArray, List.getElem_cons_zero, List.getElem_cons_succ, List.setIfInBounds_toArray, List.set_cons_zero, List.set_cons_succ]
                (refine wpAnyH_take (i := 56) (v := .bool true) rfl (by kernel_rfl) (by kernel_rfl) (by kernel_rfl) (fun _ _ _ h => h) ?_ (by assumption) ?_)
                · cases rb
                  · exact Or.inl ⟨by rfl, by intro w hSw; (try dsimp only at hSw); go_simp; (try rfl); done⟩
                  · exact Or.inl ⟨by rfl, by intro w hSw; (try dsimp only at hSw); go_simp; (try rfl); done⟩
                simp only [Act.put, List.getElem_toArray, List.getElem_cons_zero, List.getElem_cons_succ, List.setIfInBounds_toArray, List.set_cons_zero, List.set_cons_succ]
                (refine wpAnyH_take (i := 57) (v := ?_) rfl (by kernel_rfl) (by kernel_rfl) (by kernel_rfl) (fun _ _ _ h => h) (Or.inl ⟨by rfl, ?_⟩) (by assumption) ?_; rotate_left; (focus (intro w hSw; (try dsimp only at hSw); go_simp; (try with_reducible rfl); done)); simp only [Act.put, List.getElem_toArray, List.getElem_cons_zero, List.getElem_cons_succ, List.setIfInBounds_toArray, List.set_cons_zero, List.set_cons_succ])
                (refine wpAnyH_take (i := 58) (v := ?_) rfl (by kernel_rfl) (by kernel_rfl) (by kernel_rfl) (fun _ _ _ h => h) (Or.inl ⟨by rfl, ?_⟩) (by assumption) ?_; rotate_left; (focus (intro w hSw; (try dsimp only at hSw); go_simp; (try with_reducible rfl); done)); simp only [Act.put, List.getElem_toArray, List.getElem_cons_zero, List.getElem_cons_succ, List.setIfInBounds_toArray, List.set_cons_zero, List.set_cons_succ])
                (refine wpAnyH_take (i := 59) (v := ?_) rfl (by kernel_rfl) (by kernel_rfl) (by kernel_rfl) (fun _ _ _ h => h) (Or.inl ⟨by rfl, ?_⟩) (by assumption) ?_; rotate_left; (focus (intro w hSw; (try dsimp only at hSw); go_simp; (try with_reducible rfl); done)); simp only [Act.put, List.getElem_toArray, List.getElem_cons_zero, List.getElem_cons_succ, List.setIfInBounds_toArray, List.set_cons_zero, List.set_cons_succ])
                as_aux_lemma =>
                  (refine wpAnyH_take (i := 60) (v := ?_) rfl (by kernel_rfl) (by kernel_rfl) (by kernel_rfl) (fun _ _ _ h => h) (Or.inl ⟨by rfl, ?_⟩) (by assumption) ?_; rotate_left; (focus (intro w hSw; (try dsimp only at hSw); go_simp; (try with_reducible rfl); done)); simp only [Act.put, List.getElem_toArray, List.getElem_cons_zero, List.getElem_cons_succ, List.setIfInBounds_toArray, List.set_cons_zero, List.set_cons_succ])
                  (refine wpAnyH_take (i := 62) (v := ?_) rfl (by kernel_rfl) (by kernel_rfl) (by kernel_rfl) (fun _ _ _ h => h) (Or.inl ⟨by rfl, ?_⟩) (by assumption) ?_; rotate_left; (focus (intro w hSw; (try dsimp only at hSw); go_simp; (try with_reducible rfl); done)); simp only [Act.put, List.getElem_toArray, List.getElem_cons_zero, List.getElem_cons_succ, List.setIfInBounds_toArray, List.set_cons_zero, List.set_cons_succ])
                  (refine wpAnyH_take (i := 63) (v := ?_) rfl (by kernel_rfl) (by kernel_rfl) (by kernel_rfl) (fun _ _ _ h => h) (Or.inl ⟨by rfl, ?_⟩) (by assumption) ?_; rotate_left; (focus (intro w hSw; (try dsimp only at hSw); go_simp; (try with_reducible rfl); done)); simp only [Act.put, List.getElem_toArray, List.getElem_cons_zero, List.getElem_cons_succ, List.setIfInBounds_toArray, List.set_cons_zero, List.set_cons_succ])
                  refine wpAnyH_ready (rs := [61]) (by kernel_rfl) (by simp) ?_
                  refine AllReadyH.cons rfl (fun K hK => ?_) AllReadyH.nil
                  go_simp
                  go_wp2_with fail
                  refine (K61.out _ HW0.out).mono ?_
                  rintro e v31 ⟨rfl, hb0⟩
                  have hb := hb0
                  replace HW0 : Hid (Below wg.heap.size wg v31) := HW0.out.trans (hb.mono HW0.out.size)
                  replace BX : Hid (Bx v31 w1.heap.size [.int .i64 x.t.id, .int .i64 x.t.st, .int .i64 x.t.snap, .int .i64 x.t.cs, .slice x.ra x.t.rs.length x.rc, .slice x.wa x.t.ws.length x.wc, .bool x.t.out, .string x.t.nm]) := BX.out.below hb
                  replace BU : Hid (Bx v31 w5.heap.size [.int .i64 u.t.id, .int .i64 u.t.st, .int .i64 u.t.snap, .int .i64 u.t.cs, .slice u.ra u.t.rs.length u.rc, .slice u.wa u.t.ws.length u.wc, .bool u.t.out, .string u.t.nm]) := BU.out.below hb
                  replace BY : Hid (Bx v31 w6.heap.size [.int .i64 x.t.id, .int .i64 x.t.st, .int .i64 x.t.snap, .int .i64 x.t.cs, .slice ea 0 0, .slice eb 0 0, .bool x.t.out, .string x.t.nm]) := BY.out.below hb
                  replace BZ : Hid (Bx v31 w8.heap.size [.int .i64 x.t.id, .int .i64 x.t.st, .int .i64 x.t.snap, .int .i64 x.t.cs, .slice ec 0 0, .slice x.wa x.t.ws.length x.wc, .bool x.t.out, .string x.t.nm]) := BZ.out.below hb
                  go_wp2_with fail
                  refine hK.out _ _ ⟨BX.out.c0, BX.out.c1, BX.out.c2, BX.out.c3, BX.out.c4, BX.out.c5, BX.out.c6, BX.out.c7, BU.out.c0, BU.out.c1, BU.out.c2, BU.out.c3, BU.out.c4, BU.out.c5, BU.out.c6, BU.out.c7, BY.out.c0, BY.out.c1, BY.out.c2, BY.out.c3, BY.out.c4, BY.out.c5, BY.out.c6, BY.out.c7, BZ.out.c0, BZ.out.c1, BZ.out.c2, BZ.out.c3, BZ.out.c4, BZ.out.c5, BZ.out.c6, BZ.out.c7⟩ (fun hHeld => ?_)
                  clear hK K hb hb0
                  refine wpAnyH_ready (rs := [64]) (by kernel_rfl) (by simp) ?_
                  refine AllReadyH.cons rfl (fun K hK => ?_) AllReadyH.nil
                  go_simp
                  go_wp2_with fail
                  refine (K64.out _ HW0.out).mono ?_
                  rintro e v32 ⟨rfl, hb0⟩
                  have hb := hb0
                  replace HW0 : Hid (Below wg.heap.size wg v32) := HW0.out.trans (hb.mono HW0.out.size)
                  replace BX : Hid (Bx v32 w1.heap.size [.int .i64 x.t.id, .int .i64 x.t.st, .int .i64 x.t.snap, .int .i64 x.t.cs, .slice x.ra x.t.rs.length x.rc, .slice x.wa x.t.ws.length x.wc, .bool x.t.out, .string x.t.nm]) := BX.out.below hb
                  replace BU : Hid (Bx v32 w5.heap.size [.int .i64 u.t.id, .int .i64 u.t.st, .int .i64 u.t.snap, .int .i64 u.t.cs, .slice u.ra u.t.rs.length u.rc, .slice u.wa u.t.ws.length u.wc, .bool u.t.out, .string u.t.nm]) := BU.out.below hb
                  replace BY : Hid (Bx v32 w6.heap.size [.int .i64 x.t.id, .int .i64 x.t.st, .int .i64 x.t.snap, .int .i64 x.t.cs, .slice ea 0 0, .slice eb 0 0, .bool x.t.out, .string x.t.nm]) := BY.out.below hb
                  replace BZ : Hid (Bx v32 w8.heap.size [.int .i64 x.t.id, .int .i64 x.t.st, .int .i64 x.t.snap, .int .i64 x.t.cs, .slice ec 0 0, .slice x.wa x.t.ws.length x.wc, .bool x.t.out, .string x.t.nm]) := BZ.out.below hb
                  go_wp2_with fail
                  refine hK.out _ _ ⟨BX.out.c0, BX.out.c1, BX.out.c2, BX.out.c3, BX.out.c4, BX.out.c5, BX.out.c6, BX.out.c7, BU.out.c0, BU.out.c1, BU.out.c2, BU.out.c3, BU.out.c4, BU.out.c5, BU.out.c6, BU.out.c7, BY.out.c0, BY.out.c1, BY.out.c2, BY.out.c3, BY.out.c4, BY.out.c5, BY.out.c6, BY.out.c7, BZ.out.c0, BZ.out.c1, BZ.out.c2, BZ.out.c3, BZ.out.c4, BZ.out.c5, BZ.out.c6, BZ.out.c7⟩ (fun hHeld => ?_)
                  clear hK K hb hb0
                  (refine wpAnyH_take (i := 65) (v := ?_) rfl (by kernel_rfl) (by kernel_rfl) (by kernel_rfl) (fun _ _ _ h => h) (Or.inl ⟨by rfl, ?_⟩) (by assumption) ?_; rotate_left; (focus (intro w hSw; (try dsimp only at hSw); go_simp; (try with_reducible rfl); done)); simp only [Act.put, List.getElem_toArray, List.getElem_cons_zero, List.getElem_cons_succ, List.setIfInBounds_toArray, List.set_cons_zero, List.set_cons_succ])
                  (refine wpAnyH_take (i := 66) (v := ?_) rfl (by kernel_rfl) (by kernel_rfl) (by kernel_rfl) (fun _ _ _ h => h) (Or.inl ⟨by rfl, ?_⟩) (by assumption) ?_; rotate_left; (focus (intro w hSw; (try dsimp only at hSw); go_simp; (try with_reducible rfl); done)); simp only [Act.put, List.getElem_toArray, List.getElem_cons_zero, List.getElem_cons_succ, List.setIfInBounds_toArray, List.set_cons_zero, List.set_cons_succ])
                  (refine wpAnyH_take (i := 67) (v := ?_) rfl (by kernel_rfl) (by kernel_rfl) (by kernel_rfl) (fun _ _ _ h => h) (Or.inl ⟨by rfl, ?_⟩) (by assumption) ?_; rotate_left; (focus (intro w hSw; (try dsimp only at hSw); go_simp; (try with_reducible rfl); done)); simp only [Act.put, List.getElem_toArray, List.getElem_cons_zero, List.getElem_cons_succ, List.setIfInBounds_toArray, List.set_cons_zero, List.set_cons_succ])
                  (refine wpAnyH_take (i := 68) (v := ?_) rfl (by kernel_rfl) (by kernel_rfl) (by kernel_rfl) (fun _ _ _ h => h) (Or.inl ⟨by rfl, ?_⟩) (by assumption) ?_; rotate_left; (focus (intro w hSw; (try dsimp only at hSw); go_simp; (try with_reducible rfl); done)); simp only [Act.put, List.getElem_toArray, List.getElem_cons_zero, List.getElem_cons_succ, List.setIfInBounds_toArray, List.set_cons_zero, List.set_cons_succ])
                  (refine wpAnyH_take (i := 69) (v := ?_) rfl (by kernel_rfl) (by kernel_rfl) (by kernel_rfl) (fun _ _ _ h => h) (Or.inl ⟨by rfl, ?_⟩) (by assumption) ?_; rotate_left; (focus (intro w hSw; (try dsimp only at hSw); go_simp; (try with_reducible rfl); done)); simp only [Act.put, List.getElem_toArray, List.getElem_cons_zero, List.getElem_cons_succ, List.setIfInBounds_toArray, List.set_cons_zero, List.set_cons_succ])
                  (refine wpAnyH_take (i := 71) (v := ?_) rfl (by kernel_rfl) (by kernel_rfl) (by kernel_rfl) (fun _ _ _ h => h) (Or.inl ⟨by rfl, ?_⟩) (by assumption) ?_; rotate_left; (focus (intro w hSw; (try dsimp only at hSw); go_simp; (try with_reducible rfl); done)); simp only [Act.put, List.getElem_toArray, List.getElem_cons_zero, List.getElem_cons_succ, List.setIfInBounds_toArray, List.set_cons_zero, List.set_cons_succ])
                  (refine wpAnyH_take (i := 72) (v := ?_) rfl (by kernel_rfl) (by kernel_rfl) (by kernel_rfl) (fun _ _ _ h => h) (Or.inl ⟨by rfl, ?_⟩) (by assumption) ?_; rotate_left; (focus (intro w hSw; (try dsimp only at hSw); go_simp; (try with_reducible rfl); done)); simp only [Act.put, List.getElem_toArray, List.getElem_cons_zero, List.getElem_cons_succ, List.setIfInBounds_toArray, List.set_cons_zero, List.set_cons_succ])
                  as_aux_lemma =>
                    refine wpAnyH_ready (rs := [70]) (by kernel_rfl) (by simp) ?_
                    refine AllReadyH.cons rfl (fun K hK => ?_) AllReadyH.nil
                    go_simp
                    go_wp2_with fail
                    refine (K70.out _ HW0.out).mono ?_
                    rintro e v33 ⟨rfl, hb0⟩
                    have hb := hb0
                    replace HW0 : Hid (Below wg.heap.size wg v33) := HW0.out.trans (hb.mono HW0.out.size)
                    replace BX : Hid (Bx v33 w1.heap.size [.int .i64 x.t.id, .int .i64 x.t.st, .int .i64 x.t.snap, .int .i64 x.t.cs, .slice x.ra x.t.rs.length x.rc, .slice x.wa x.t.ws.length x.wc, .bool x.t.out, .string x.t.nm]) := BX.out.below hb
                    replace BU : Hid (Bx v33 w5.heap.size [.int .i64 u.t.id, .int .i64 u.t.st, .int .i64 u.t.snap, .int .i64 u.t.cs, .slice u.ra u.t.rs.length u.rc, .slice u.wa u.t.ws.length u.wc, .bool u.t.out, .string u.t.nm]) := BU.out.below hb
                    replace BY : Hid (Bx v33 w6.heap.size [.int .i64 x.t.id, .int .i64 x.t.st, .int .i64 x.t.snap, .int .i64 x.t.cs, .slice ea 0 0, .slice eb 0 0, .bool x.t.out, .string x.t.nm]) := BY.out.below hb
                    replace BZ : Hid (Bx v33 w8.heap.size [.int .i64 x.t.id, .int .i64 x.t.st, .int .i64 x.t.snap, .int .i64 x.t.cs, .slice ec 0 0, .slice x.wa x.t.ws.length x.wc, .bool x.t.out, .string x.t.nm]) := BZ.out.below hb
                    go_wp2_with fail
                    refine hK.out _ _ ⟨BX.out.c0, BX.out.c1, BX.out.c2, BX.out.c3, BX.out.c4, BX.out.c5, BX.out.c6, BX.out.c7, BU.out.c0, BU.out.c1, BU.out.c2, BU.out.c3, BU.out.c4, BU.out.c5, BU.out.c6, BU.out.c7, BY.out.c0, BY.out.c1, BY.out.c2, BY.out.c3, BY.out.c4, BY.out.c5, BY.out.c6, BY.out.c7, BZ.out.c0, BZ.out.c1, BZ.out.c2, BZ.out.c3, BZ.out.c4, BZ.out.c5, BZ.out.c6, BZ.out.c7⟩ (fun hHeld => ?_)
                    clear hK K hb hb0
                    refine wpAnyH_ready (rs := [73]) (by kernel_rfl) (by simp) ?_
                    refine AllReadyH.cons rfl (fun K hK => ?_) AllReadyH.nil
                    go_simp
                    go_wp2_with fail
                    refine (K73.out _ HW0.out).mono ?_
                    rintro e v34 ⟨rfl, hb0⟩
                    have hb := hb0
                    replace HW0 : Hid (Below wg.heap.size wg v34) := HW0.out.trans (hb.mono HW0.out.size)
                    replace BX : Hid (Bx v34 w1.heap.size [.int .i64 x.t.id, .int .i64 x.t.st, .int .i64 x.t.snap, .int .i64 x.t.cs, .slice x.ra x.t.rs.length x.rc, .slice x.wa x.t.ws.length x.wc, .bool x.t.out, .string x.t.nm]) := BX.out.below hb
                    replace BU : Hid (Bx v34 w5.heap.size [.int .i64 u.t.id, .int .i64 u.t.st, .int .i64 u.t.snap, .int .i64 u.t.cs, .slice u.ra u.t.rs.length u.rc, .slice u.wa u.t.ws.length u.wc, .bool u.t.out, .string u.t.nm]) := BU.out.below hb
                    replace BY : Hid (Bx v34 w6.heap.size [.int .i64 x.t.id, .int .i64 x.t.st, .int .i64 x.t.snap, .int .i64 x.t.cs, .slice ea 0 0, .slice eb 0 0, .bool x.t.out, .string x.t.nm]) := BY.out.below hb
                    replace BZ : Hid (Bx v34 w8.heap.size [.int .i64 x.t.id, .int .i64 x.t.st, .int .i64 x.t.snap, .int .i64 x.t.cs, .slice ec 0 0, .slice x.wa x.t.ws.length x.wc, .bool x.t.out, .string x.t.nm]) := BZ.out.below hb
                    go_wp2_with fail
                    refine hK.out _ _ ⟨BX.out.c0, BX.out.c1, BX.out.c2, BX.out.c3, BX.out.c4, BX.out.c5, BX.out.c6, BX.out.c7, BU.out.c0, BU.out.c1, BU.out.c2, BU.out.c3, BU.out.c4, BU.out.c5, BU.out.c6, BU.out.c7, BY.out.c0, BY.out.c1, BY.out.c2, BY.out.c3, BY.out.c4, BY.out.c5, BY.out.c6, BY.out.c7, BZ.out.c0, BZ.out.c1, BZ.out.c2, BZ.out.c3, BZ.out.c4, BZ.out.c5, BZ.out.c6, BZ.out.c7⟩ (fun hHeld => ?_)
                    clear hK K hb hb0
                    (refine wpAnyH_take (i := 74) (v := ?_) rfl (by kernel_rfl) (by kernel_rfl) (by kernel_rfl) (fun _ _ _ h => h) (Or.inl ⟨by rfl, ?_⟩) (by assumption) ?_; rotate_left; (focus (intro w hSw; (try dsimp only at hSw); go_simp; (try with_reducible rfl); done)); simp only [Act.put, List.getElem_toArray, List.getElem_cons_zero, List.getElem_cons_succ, List.setIfInBounds_toArray, List.set_cons_zero, List.set_cons_succ])
                    (refine wpAnyH_take (i := 75) (v := ?_) rfl (by kernel_rfl) (by kernel_rfl) (by kernel_rfl) (fun _ _ _ h => h) (Or.inl ⟨by rfl, ?_⟩) (by assumption) ?_; rotate_left; (focus (intro w hSw; (try dsimp only at hSw); go_simp; (try with_reducible rfl); done)); simp only [Act.put, List.getElem_toArray, List.getElem_cons_zero, List.getElem_cons_succ, List.setIfInBounds_toArray, List.set_cons_zero, List.set_cons_succ])
                    (refine wpAnyH_take (i := 76) (v := ?_) rfl (by kernel_rfl) (by kernel_rfl) (by kernel_rfl) (fun _ _ _ h => h) (Or.inl ⟨by rfl, ?_⟩) (by assumption) ?_; rotate_left; (focus (intro w hSw; (try dsimp only at hSw); go_simp; (try with_reducible rfl); done)); simp only [Act.put, List.getElem_toArray, List.getElem_cons_zero, List.getElem_cons_succ, List.setIfInBounds_toArray, List.set_cons_zero, List.set_cons_succ])
                    (refine wpAnyH_take (i := 77) (v := ?_) rfl (by kernel_rfl) (by kernel_rfl) (by kernel_rfl) (fun _ _ _ h => h) (Or.inl ⟨by rfl, ?_⟩) (by assumption) ?_; rotate_left; (focus (intro w hSw; (try dsimp only at hSw); go_simp; (try with_reducible rfl); done)); simp only [Act.put, List.getElem_toArray, List.getElem_cons_zero, List.getElem_cons_succ, List.setIfInBounds_toArray, List.set_cons_zero, List.set_cons_succ])
                    (refine wpAnyH_take (i := 78) (v := ?_) rfl (by kernel_rfl) (by kernel_rfl) (by kernel_rfl) (fun _ _ _ h => h) (Or.inl ⟨by rfl, ?_⟩) (by assumption) ?_; rotate_left; (focus (intro w hSw; (try dsimp only at hSw); go_simp; (try with_reducible rfl); done)); simp only [Act.put, List.getElem_toArray, List.getElem_cons_zero, List.getElem_cons_succ, List.setIfInBounds_toArray, List.set_cons_zero, List.set_cons_succ])
                    refine wpAnyH_ready (rs := [79]) (by kernel_rfl) (by simp) ?_
                    refine AllReadyH.cons rfl (fun K hK => ?_) AllReadyH.nil
                    go_simp
                    go_wp2_with fail
                    refine (K79.out _ HW0.out).mono ?_
                    rintro e v35 ⟨rfl, hb0⟩
                    have hb := hb0
                    replace HW0 : Hid (Below wg.heap.size wg v35) := HW0.out.trans (hb.mono HW0.out.size)
                    replace BX : Hid (Bx v35 w1.heap.size [.int .i64 x.t.id, .int .i64 x.t.st, .int .i64 x.t.snap, .int .i64 x.t.cs, .slice x.ra x.t.rs.length x.rc, .slice x.wa x.t.ws.length x.wc, .bool x.t.out, .string x.t.nm]) := BX.out.below hb
                    replace BU : Hid (Bx v35 w5.heap.size [.int .i64 u.t.id, .int .i64 u.t.st, .int .i64 u.t.snap, .int .i64 u.t.cs, .slice u.ra u.t.rs.length u.rc, .slice u.wa u.t.ws.length u.wc, .bool u.t.out, .string u.t.nm]) := BU.out.below hb
                    replace BY : Hid (Bx v35 w6.heap.size [.int .i64 x.t.id, .int .i64 x.t.st, .int .i64 x.t.snap, .int .i64 x.t.cs, .slice ea 0 0, .slice eb 0 0, .bool x.t.out, .string x.t.nm]) := BY.out.below hb
                    replace BZ : Hid (Bx v35 w8.heap.size [.int .i64 x.t.id, .int .i64 x.t.st, .int .i64 x.t.snap, .int .i64 x.t.cs, .slice ec 0 0, .slice x.wa x.t.ws.length x.wc, .bool x.t.out, .string x.t.nm]) := BZ.out.below hb
                    go_wp2_with fail
                    refine hK.out _ _ ⟨BX.out.c0, BX.out.c1, BX.out.c2, BX.out.c3, BX.out.c4, BX.out.c5, BX.out.c6, BX.out.c7, BU.out.c0, BU.out.c1, BU.out.c2, BU.out.c3, BU.out.c4, BU.out.c5, BU.out.c6, BU.out.c7, BY.out.c0, BY.out.c1, BY.out.c2, BY.out.c3, BY.out.c4, BY.out.c5, BY.out.c6, BY.out.c7, BZ.out.c0, BZ.out.c1, BZ.out.c2, BZ.out.c3, BZ.out.c4, BZ.out.c5, BZ.out.c6, BZ.out.c7⟩ (fun hHeld => ?_)
                    clear hK K hb hb0
                    (refine wpAnyH_take (i := 80) (v := ?_) rfl (by kernel_rfl) (by kernel_rfl) (by kernel_rfl) (fun _ _ _ h => h) (Or.inl ⟨by rfl, ?_⟩) (by assumption) ?_; rotate_left; (focus (intro w hSw; (try dsimp only at hSw); go_simp; (try with_reducible rfl); done)); simp only [Act.put, List.getElem_toArray, List.getElem_cons_zero, List.getElem_cons_succ, List.setIfInBounds_toArray, List.set_cons_zero, List.set_cons_succ])
                    (refine wpAnyH_take (i := 81) (v := cond rdx (undef) (.agg #[.int .i64 x.t.id, .int .i64 x.t.st, .int .i64 x.t.snap, .int .i64 x.t.cs, .slice x.ra x.t.rs.length x.rc, .slice x.wa x.t.ws.length x.wc, .bool x.t.out, .string x.t.nm])) rfl (by kernel_rfl) (by kernel_rfl) (by kernel_rfl) (fun _ _ _ h => h) ?_ (by assumption) ?_)
                    · cases rdx
                      · exact Or.inl ⟨by rfl, by intro w hSw; (try dsimp only at hSw); go_simp; (try rfl); done⟩
                      · exact Or.inr ⟨by rfl, rfl⟩
                    simp only [Act.put, List.getElem_toArray, List.getElem_cons_zero, List.getElem_cons_succ, List.setIfInBounds_toArray, List.set_cons_zero, List.set_cons_succ]
                    (refine wpAnyH_take (i := 82) (v := cond rdx (undef) (.slice ya ys.length yc)) rfl (by kernel_rfl) (by kernel_rfl) (by kernel_rfl) (fun _ _ _ h => h) ?_ (by assumption) ?_)
                    · cases rdx
                      · exact Or.inl ⟨by rfl, by intro w hSw; (try dsimp only at hSw); go_simp; (try rfl); done⟩
                      · exact Or.inr ⟨by rfl, rfl⟩
                    simp only [Act.put, List.getElem_toArray, List.getElem_cons_zero, List.getElem_cons_succ, List.setIfInBounds_toArray, List.set_cons_zero, List.set_cons_succ]
                    refine wpAnyH_ready (rs := [83]) (by kernel_rfl) (by simp) ?_
                    refine AllReadyH.cons rfl (fun K hK => ?_) AllReadyH.nil
                    refine gcall (fun v w' => v = cond rdx (undef) (.bool dx) ∧ Below v35.heap.size v35 w') ?_ ?_ ?_
                    · intro hw
                      cases rdx
                      ·
                        go_simp
                        go_wp2_with fail
                        refine (K34.out _ HW0.out).mono ?_
                        rintro e v36 ⟨rfl, hb0⟩
                        exact ⟨_, rfl, rfl, hb0⟩
                      · exact absurd (show false = true from hw) (by simp)
                    · intro hw
                      cases rdx
                      · exact absurd (show true = false from hw) (by simp)
                      · exact ⟨rfl, belowRefl _⟩
                    rintro v v36 ⟨rfl, hb⟩
                    replace HW0 : Hid (Below wg.heap.size wg v36) := HW0.out.trans (hb.mono HW0.out.size)
                    replace BX : Hid (Bx v36 w1.heap.size [.int .i64 x.t.id, .int .i64 x.t.st, .int .i64 x.t.snap, .int .i64 x.t.cs, .slice x.ra x.t.rs.length x.rc, .slice x.wa x.t.ws.length x.wc, .bool x.t.out, .string x.t.nm]) := BX.out.below hb
                    replace BU : Hid (Bx v36 w5.heap.size [.int .i64 u.t.id, .int .i64 u.t.st, .int .i64 u.t.snap, .int .i64 u.t.cs, .slice u.ra u.t.rs.length u.rc, .slice u.wa u.t.ws.length u.wc, .bool u.t.out, .string u.t.nm]) := BU.out.below hb
                    replace BY : Hid (Bx v36 w6.heap.size [.int .i64 x.t.id, .int .i64 x.t.st, .int .i64 x.t.snap, .int .i64 x.t.cs, .slice ea 0 0, .slice eb 0 0, .bool x.t.out, .string x.t.nm]) := BY.out.below hb
                    replace BZ : Hid (Bx v36 w8.heap.size [.int .i64 x.t.id, .int .i64 x.t.st, .int .i64 x.t.snap, .int .i64 x.t.cs, .slice ec 0 0, .slice x.wa x.t.ws.length x.wc, .bool x.t.out, .string x.t.nm]) := BZ.out.below hb
                    refine hK.out _ _ ⟨BX.out.c0, BX.out.c1, BX.out.c2, BX.out.c3, BX.out.c4, BX.out.c5, BX.out.c6, BX.out.c7, BU.out.c0, BU.out.c1, BU.out.c2, BU.out.c3, BU.out.c4, BU.out.c5, BU.out.c6, BU.out.c7, BY.out.c0, BY.out.c1, BY.out.c2, BY.out.c3, BY.out.c4, BY.out.c5, BY.out.c6, BY.out.c7, BZ.out.c0, BZ.out.c1, BZ.out.c2, BZ.out.c3, BZ.out.c4, BZ.out.c5, BZ.out.c6, BZ.out.c7⟩ (fun hHeld => ?_)
                    clear hK K hb
                    simp only [Act.put, List.getElem_toArray, List.getElem_cons_zero, List.getElem_cons_succ, List.setIfInBounds_toArray, List.set_cons_zero, List.set_cons_succ]
                    as_aux_lemma =>
                      (refine wpAnyH_take (i := 84) (v := cond rdx (undef) (.bool true)) rfl (by kernel_rfl) (by kernel_rfl) (by kernel_rfl) (fun _ _ _ h => h) ?_ (by assumption) ?_)
                      · cases rdx
                        · obtain rfl : dx = false := HRD.out rfl; exact Or.inl ⟨by rfl, by intro w hSw; (try dsimp only at hSw); go_simp; (try rfl); done⟩
                        · exact Or.inr ⟨by rfl, rfl⟩
                      simp only [Act.put, List.getElem_toArray, List.getElem_cons_zero, List.getElem_cons_succ, List.setIfInBounds_toArray, List.set_cons_zero, List.set_cons_succ]
                      (refine wpAnyH_take (i := 85) (v := .bool true) rfl (by kernel_rfl) (by kernel_rfl) (by kernel_rfl) (fun _ _ _ h => h) ?_ (by assumption) ?_)
                      · cases rdx
                        · exact Or.inl ⟨by rfl, by intro w hSw; (try dsimp only at hSw); go_simp; (try rfl); done⟩
                        · exact Or.inl ⟨by rfl, by intro w hSw; (try dsimp only at hSw); go_simp; (try rfl); done⟩
                      simp only [Act.put, List.getElem_toArray, List.getElem_cons_zero, List.getElem_cons_succ, List.setIfInBounds_toArray, List.set_cons_zero, List.set_cons_succ]
                      (refine wpAnyH_take (i := 86) (v := ?_) rfl (by kernel_rfl) (by kernel_rfl) (by kernel_rfl) (fun _ _ _ h => h) (Or.inl ⟨by rfl, ?_⟩) (by assumption) ?_; rotate_left; (focus (intro w hSw; (try dsimp only at hSw); go_simp; (try with_reducible rfl); done)); simp only [Act.put, List.getElem_toArray, List.getElem_cons_zero, List.getElem_cons_succ, List.setIfInBounds_toArray, List.set_cons_zero, List.set_cons_succ])
                      (refine wpAnyH_take (i := 87) (v := ?_) rfl (by kernel_rfl) (by kernel_rfl) (by kernel_rfl) (fun _ _ _ h => h) (Or.inl ⟨by rfl, ?_⟩) (by assumption) ?_; rotate_left; (focus (intro w hSw; (try dsimp only at hSw); go_simp; (try with_reducible rfl); done)); simp only [Act.put, List.getElem_toArray, List.getElem_cons_zero, List.getElem_cons_succ, List.setIfInBounds_toArray, List.set_cons_zero, List.set_cons_succ])
                      refine wpAnyH_done (by kernel_rfl) ?_ _
                      go_wp2
                      go_ret
                      exact ⟨rfl, HB.out.trans (HW0.out.mono HB.out.size)⟩
  · rw [decide_eq_true (by omega)] at HBG
    go_enter Try.func3, Try.ntmps3
    go_wp2_with fail
    refine (HBG.out _).mono ?_
    rintro e w ⟨rfl, rfl⟩
    go_wp2
    go_ret
    exact ⟨rfl, belowRefl w⟩


end Go.Proofs.Ytnefncmkhgkdnaa

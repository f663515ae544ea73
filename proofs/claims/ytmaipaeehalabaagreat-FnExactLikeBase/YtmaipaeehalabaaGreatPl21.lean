/- Lists of those that look and change, alike by their texts: both sides. -/
import Derived.Test.YtmaipaeehalabaaGreatPl15
import Derived.Test.YtmaipaeehalabaaGreatPl19
import Derived.Test.YtmaipaeehalabaaGreatPl20
import Derived.Test.YtmaipaeehalabaaGreatPl16
import Derived.Test.YtmaipaeehalabaaGreatPl12
import Derived.Test.YtmaipaeehalabaaGreatPl05
import Derived.Deep.RegionHeld3
import Derived.Deep.Cut
import Derived.Deep.CutRange
import Derived.Laws.EntriesVeiled
namespace Go.Proofs.YtmaipaeehalabaaGreat
open Go.RowKit
open KM
attribute [local go_sem ↓] Go.wp_at_zero Go.wp_at_succ

def txS (t : Tx) : ByteArray := if txnB t = true then ⟨(txL t).toArray⟩ else ⟨#[]⟩
theorem txtV_eq (t : Tx) : txtV t = .tuple #[.string (txS t), .bool (txnB t)] := by
  unfold txtV txS
  cases h : txnB t <;> rfl
def likeT (x y : Tx) : Bool := (txS x).toList == (txS y).toList
theorem varL_ne (n : Nat) : ∃ a l, WM.varL n = a :: l := by
  by_cases h : 127 < n
  · exact ⟨_, _, WM.varL_big n h⟩
  · exact ⟨_, _, WM.varL_small n (by omega)⟩
theorem Cls.belowC {w w' : World} {b o : Nat} {x : Ta} (h : Cls w b o x) (hb : Below w.heap.size w w') (hl : b < w.heap.size) : Cls w' b o x :=
  ⟨(hb.cell (p := ⟨b, o, none⟩) hl).trans h.c0, (hb.cell (p := ⟨b, o + 1, none⟩) hl).trans h.c1, (hb.cell (p := ⟨b, o + 2, none⟩) hl).trans h.c2, (hb.cell (p := ⟨b, o + 3, none⟩) hl).trans h.c3, (hb.cell (p := ⟨b, o + 4, none⟩) hl).trans h.c4, (hb.cell (p := ⟨b, o + 5, none⟩) hl).trans h.c5, (hb.cell (p := ⟨b, o + 6, none⟩) hl).trans h.c6, (hb.cell (p := ⟨b, o + 7, none⟩) hl).trans h.c7⟩
theorem toList_mk (l : List UInt8) : (ByteArray.mk l.toArray).toList = l := by
  rw [toList_data]
theorem txS_ne {t : Tx} (h : txnB t = true) : (txS t).toList ≠ [] := by
  unfold txS
  rw [if_pos h, toList_mk]
  unfold txL
  obtain ⟨a, l, e⟩ := varL_ne t.id.toNat
  rw [e]
  simp
theorem txS_no {t : Tx} (h : txnB t = false) : (txS t).toList = [] := by
  unfold txS
  rw [if_neg (by rw [h]; simp)]
  exact toList_mk []
theorem like_no {x y : Tx} (h : (txnB x != txnB y) = true) : likeT x y = false := by
  unfold likeT
  cases hx : txnB x <;> cases hy : txnB y
  · rw [hx, hy] at h; cases h
  · have h1 := txS_no hx; have h2 := txS_ne hy
    rw [h1]
    cases e : (txS y).toList with
    | nil => exact absurd e h2
    | cons a l => rfl
  · have h1 := txS_ne hx; have h2 := txS_no hy
    rw [h2]
    cases e : (txS x).toList with
    | nil => exact absurd e h1
    | cons a l => rfl
  · rw [hx, hy] at h; cases h
def likeB (xs ys : List Tx) : Bool := decide (xs.length = ys.length ∧ ∀ j (h1 : j < xs.length) (h2 : j < ys.length), likeT xs[j] ys[j] = true)
def LikeUp (xs ys : List Ta) (k : Nat) : Prop := ∀ j (h1 : j < xs.length) (h2 : j < ys.length), j < k → likeT xs[j].t ys[j].t = true
theorem like_len {xs ys : List Ta} (h : xs.length ≠ ys.length) : likeB (txs xs) (txs ys) = false := decide_eq_false fun g => h (by have := g.1; rwa [txs_len, txs_len] at this)
theorem like_all {xs ys : List Ta} (h : xs.length = ys.length) {k : Nat} (hk : xs.length ≤ k) (h2 : LikeUp xs ys k) : likeB (txs xs) (txs ys) = true := decide_eq_true ⟨by rw [txs_len, txs_len]; exact h, fun j h3 h4 => by
  rw [txs_len] at h3 h4
  have := h2 j h3 h4 (by omega)
  simpa [txs] using this⟩
theorem like_at {xs ys : List Ta} {k : Nat} (h1 : k < xs.length) (h2 : k < ys.length) (h : likeT xs[k].t ys[k].t = false) : likeB (txs xs) (txs ys) = false := decide_eq_false fun g => by
  have := g.2 k (by rw [txs_len]; exact h1) (by rw [txs_len]; exact h2)
  simp [txs] at this
  rw [h] at this
  cases this
theorem like_next {xs ys : List Ta} {k : Nat} (hk : LikeUp xs ys k) (h1 : k < xs.length) (h2 : k < ys.length) (h : likeT xs[k].t ys[k].t = true) : LikeUp xs ys (k + 1) := fun j h3 h4 hj => by
  by_cases e : j = k
  · subst e; exact h
  · exact hk j h3 h4 (by omega)

set_option maxRecDepth 100000 in
set_option maxHeartbeats 2000000 in
theorem like28 (x y : Ta) (hf : TFit x.t) (hg : TFit y.t) (w : World) (hp : TRow w x.t x.ra x.wa) (hq : TRow w y.t y.ra y.wa) :
    Calls Tryz.prog 28 #[.agg #[.int .i64 x.t.id, .int .i64 x.t.st, .int .i64 x.t.snap, .int .i64 x.t.cs, .slice x.ra x.t.rs.length x.rc, .slice x.wa x.t.ws.length x.wc, .bool x.t.out, .string x.t.nm], .agg #[.int .i64 y.t.id, .int .i64 y.t.st, .int .i64 y.t.snap, .int .i64 y.t.cs, .slice y.ra y.t.rs.length y.rc, .slice y.wa y.t.ws.length y.wc, .bool y.t.out, .string y.t.nm]] w fun e w' => e = .returned (.bool (likeT x.t y.t)) ∧ Below w.heap.size w w' := by
  have HP : Hid (TRow w x.t x.ra x.wa) := hp
  have HQ : Hid (TRow w y.t y.ra y.wa) := hq
  have hl1 : x.t.rs.length ≤ 100000000 := Nat.le_trans hf.1 (by omega)
  have hl2 : x.t.ws.length ≤ 100000000 := Nat.le_trans hf.2.2.1 (by omega)
  have hl3 : y.t.rs.length ≤ 100000000 := Nat.le_trans hg.1 (by omega)
  have hl4 : y.t.ws.length ≤ 100000000 := Nat.le_trans hg.2.2.1 (by omega)
  have BA0 : Hid (Bx ((w.alloc (.cells #[.int .i64 x.t.id, .int .i64 x.t.st, .int .i64 x.t.snap, .int .i64 x.t.cs, .slice x.ra x.t.rs.length x.rc, .slice x.wa x.t.ws.length x.wc, .bool x.t.out, .string x.t.nm] 54)).alloc (.cells #[.int .i64 y.t.id, .int .i64 y.t.st, .int .i64 y.t.snap, .int .i64 y.t.cs, .slice y.ra y.t.rs.length y.rc, .slice y.wa y.t.ws.length y.wc, .bool y.t.out, .string y.t.nm] 54)) w.heap.size [.int .i64 x.t.id, .int .i64 x.t.st, .int .i64 x.t.snap, .int .i64 x.t.cs, .slice x.ra x.t.rs.length x.rc, .slice x.wa x.t.ws.length x.wc, .bool x.t.out, .string x.t.nm]) := (Bx.new w [.int .i64 x.t.id, .int .i64 x.t.st, .int .i64 x.t.snap, .int .i64 x.t.cs, .slice x.ra x.t.rs.length x.rc, .slice x.wa x.t.ws.length x.wc, .bool x.t.out, .string x.t.nm] 54).alloc _
  have BB0 : Hid (Bx ((w.alloc (.cells #[.int .i64 x.t.id, .int .i64 x.t.st, .int .i64 x.t.snap, .int .i64 x.t.cs, .slice x.ra x.t.rs.length x.rc, .slice x.wa x.t.ws.length x.wc, .bool x.t.out, .string x.t.nm] 54)).alloc (.cells #[.int .i64 y.t.id, .int .i64 y.t.st, .int .i64 y.t.snap, .int .i64 y.t.cs, .slice y.ra y.t.rs.length y.rc, .slice y.wa y.t.ws.length y.wc, .bool y.t.out, .string y.t.nm] 54)) (w.heap.size + 1) [.int .i64 y.t.id, .int .i64 y.t.st, .int .i64 y.t.snap, .int .i64 y.t.cs, .slice y.ra y.t.rs.length y.rc, .slice y.wa y.t.ws.length y.wc, .bool y.t.out, .string y.t.nm]) := by
    have h := Bx.new (w.alloc (.cells #[.int .i64 x.t.id, .int .i64 x.t.st, .int .i64 x.t.snap, .int .i64 x.t.cs, .slice x.ra x.t.rs.length x.rc, .slice x.wa x.t.ws.length x.wc, .bool x.t.out, .string x.t.nm] 54)) [.int .i64 y.t.id, .int .i64 y.t.st, .int .i64 y.t.snap, .int .i64 y.t.cs, .slice y.ra y.t.rs.length y.rc, .slice y.wa y.t.ws.length y.wc, .bool y.t.out, .string y.t.nm] 54
    rw [World.size_alloc] at h
    exact h
  have HB0 : Hid (Below w.heap.size w ((w.alloc (.cells #[.int .i64 x.t.id, .int .i64 x.t.st, .int .i64 x.t.snap, .int .i64 x.t.cs, .slice x.ra x.t.rs.length x.rc, .slice x.wa x.t.ws.length x.wc, .bool x.t.out, .string x.t.nm] 54)).alloc (.cells #[.int .i64 y.t.id, .int .i64 y.t.st, .int .i64 y.t.snap, .int .i64 y.t.cs, .slice y.ra y.t.rs.length y.rc, .slice y.wa y.t.ws.length y.wc, .bool y.t.out, .string y.t.nm] 54))) := ((belowRefl w).alloc (Nat.le_refl _) _).alloc (by simp) _
  have C1 : Hid (∀ W : World, Below w.heap.size w W → Calls Tryz.prog 29 #[.agg #[.int .i64 x.t.id, .int .i64 x.t.st, .int .i64 x.t.snap, .int .i64 x.t.cs, .slice x.ra x.t.rs.length x.rc, .slice x.wa x.t.ws.length x.wc, .bool x.t.out, .string x.t.nm]] W fun e w' => e = .returned (.tuple #[.string (txS x.t), .bool (txnB x.t)]) ∧ Below W.heap.size W w') := fun W h => by
    have k := itext x.t x.ra x.wa x.rc x.wc hl1 hl2 W (HP.out.below h)
    rw [txtV_eq] at k
    exact k
  have C2 : Hid (∀ W : World, Below w.heap.size w W → Calls Tryz.prog 29 #[.agg #[.int .i64 y.t.id, .int .i64 y.t.st, .int .i64 y.t.snap, .int .i64 y.t.cs, .slice y.ra y.t.rs.length y.rc, .slice y.wa y.t.ws.length y.wc, .bool y.t.out, .string y.t.nm]] W fun e w' => e = .returned (.tuple #[.string (txS y.t), .bool (txnB y.t)]) ∧ Below W.heap.size W w') := fun W h => by
    have k := itext y.t y.ra y.wa y.rc y.wc hl3 hl4 W (HQ.out.below h)
    rw [txtV_eq] at k
    exact k
  clear hp hq hf hg HP HQ hl1 hl2 hl3 hl4
  have HLT : Hid (((txS x.t).toList == (txS y.t).toList) = likeT x.t y.t) := rfl
  generalize likeT x.t y.t = R at *
  generalize txS x.t = tx at *
  generalize txS y.t = ty at *
  go_enter Tryz.func28, Tryz.ntmps28
  have x0 := BA0.out.c0
  have x1 := BA0.out.c1
  have x2 := BA0.out.c2
  have x3 := BA0.out.c3
  have x4 := BA0.out.c4
  have x5 := BA0.out.c5
  have x6 := BA0.out.c6
  have x7 := BA0.out.c7
  go_wp2_with fail
  refine (C1.out _ HB0.out).mono ?_
  rintro e w1 ⟨rfl, hb1⟩
  have BB1 : Hid (Bx w1 (w.heap.size + 1) [.int .i64 y.t.id, .int .i64 y.t.st, .int .i64 y.t.snap, .int .i64 y.t.cs, .slice y.ra y.t.rs.length y.rc, .slice y.wa y.t.ws.length y.wc, .bool y.t.out, .string y.t.nm]) := BB0.out.below hb1
  have HB1 : Hid (Below w.heap.size w w1) := HB0.out.trans (hb1.mono HB0.out.size)
  clear hb1 BA0 BB0 HB0 x0 x1 x2 x3 x4 x5 x6 x7
  have y0 := BB1.out.c0
  have y1 := BB1.out.c1
  have y2 := BB1.out.c2
  have y3 := BB1.out.c3
  have y4 := BB1.out.c4
  have y5 := BB1.out.c5
  have y6 := BB1.out.c6
  have y7 := BB1.out.c7
  go_wp2_with fail
  refine (C2.out _ HB1.out).mono ?_
  rintro e w2 ⟨rfl, hb2⟩
  have HB2 : Hid (Below w.heap.size w w2) := HB1.out.trans (hb2.mono HB1.out.size)
  clear hb2 BB1 HB1 y0 y1 y2 y3 y4 y5 y6 y7
  go_wp2
  rw [HLT.out]
  go_ret
  exact ⟨rfl, HB2.out⟩

theorem ent28 (args : Array Value) (w : World) : (callFunc 28 args).run Tryz.prog w = .ok (.enter 28 args) w := by kernel_rfl

set_option maxRecDepth 100000 in
set_option maxHeartbeats 2000000 in
theorem eqf27 (xs ys : List Ta) (a1 a2 : Option Addr) (c1 c2 n m : Nat) (hx : n = xs.length) (hy : m = ys.length) (hn : n ≤ 10000000) (hf : ∀ x ∈ xs, TFit x.t) (hg : ∀ y ∈ ys, TFit y.t) (w : World) (h1 : TRows w a1 xs) (h2 : TRows w a2 ys) :
    Calls Tryz.prog 27 #[.slice a1 n c1, .slice a2 m c2, .func (.func 28) #[] #[]] w fun e w' => e = .returned (.bool (likeB (txs xs) (txs ys))) ∧ Below w.heap.size w w' := by
  have H1 : Hid (TRows w a1 xs) := h1
  have H2 : Hid (TRows w a2 ys) := h2
  have HX : Hid (n = xs.length) := hx
  have HY : Hid (m = ys.length) := hy
  have HF : Hid (∀ x ∈ xs, TFit x.t) := hf
  have HG : Hid (∀ y ∈ ys, TFit y.t) := hg
  clear h1 h2 hx hy hf hg
  go_enter Tryz.func27, Tryz.ntmps27
  by_cases hne : n = m
  case neg =>
    have hnz : ((n : Int) != (m : Int)) = true := by simp; omega
    have HR : Hid (likeB (txs xs) (txs ys) = false) := like_len (by rw [← HX.out, ← HY.out]; exact hne)
    go_wp2
    go_ret
    exact ⟨by rw [HR.out]; rfl, belowRefl w⟩
  have hnz : ((n : Int) != (m : Int)) = false := by simp; omega
  have HNM := hide hne
  clear hne
  go_wp2
  go_loopw [17] (fun t wr => ∃ k : Nat, k ≤ n ∧ t = .int .i64 k ∧ Hid (LikeUp xs ys k) ∧ Hid (Below w.heap.size w wr)) (fun t _ => n - (intOf t).toNat)
  case atStart => exact ⟨0, Nat.zero_le _, rfl, fun j _ _ h => by omega, belowRefl w⟩
  case round =>
    obtain ⟨k, hk, rfl, HU, HB⟩ := hrel
    have hnm : n = m := HNM.out
    by_cases hlt : k < n
    · have hlt' : (k : Int) < (n : Int) := by omega
      have hltm : (k : Int) < (m : Int) := by omega
      have h0 : (0 : Int) ≤ (k : Int) := by omega
      have hkx : k < xs.length := by rw [← HX.out]; exact hlt
      have hky : k < ys.length := by rw [← HY.out]; omega
      obtain ⟨b1, o1, rfl, hbl1, hc1, ht1⟩ := (H1.out.below HB.out).cls k hkx
      obtain ⟨b2, o2, rfl, hbl2, hc2, ht2⟩ := (H2.out.below HB.out).cls k hky
      have HNX : Hid (likeT xs[k].t ys[k].t = true → LikeUp xs ys (k + 1)) := fun h => like_next HU.out hkx hky h
      have HNO : Hid (likeT xs[k].t ys[k].t = false → likeB (txs xs) (txs ys) = false) := fun h => like_at hkx hky h
      have HFx : Hid (TFit xs[k].t) := HF.out _ (List.getElem_mem _)
      have HFy : Hid (TFit ys[k].t) := HG.out _ (List.getElem_mem _)
      obtain ⟨x, hx⟩ : ∃ x, x = xs[k] := ⟨_, rfl⟩
      obtain ⟨y, hy⟩ : ∃ y, y = ys[k] := ⟨_, rfl⟩
      rw [← hx] at hc1 ht1 HNX HNO HFx
      rw [← hy] at hc2 ht2 HNX HNO HFy
      clear hx hy hkx hky
      have T1 : Hid (TRow wr x.t x.ra x.wa) := ht1
      have T2 : Hid (TRow wr y.t y.ra y.wa) := ht2
      clear ht1 ht2
      clear hnm
      have r0 := hc1.c0
      have r1 := hc1.c1
      have r2 := hc1.c2
      have r3 := hc1.c3
      have r4 := hc1.c4
      have r5 := hc1.c5
      have r6 := hc1.c6
      have r7 := hc1.c7
      clear hc1
      have BX1 : Hid (Bx (wr.alloc (.cells #[.int .i64 x.t.id, .int .i64 x.t.st, .int .i64 x.t.snap, .int .i64 x.t.cs, .slice x.ra x.t.rs.length x.rc, .slice x.wa x.t.ws.length x.wc, .bool x.t.out, .string x.t.nm] 54)) wr.heap.size [.int .i64 x.t.id, .int .i64 x.t.st, .int .i64 x.t.snap, .int .i64 x.t.cs, .slice x.ra x.t.rs.length x.rc, .slice x.wa x.t.ws.length x.wc, .bool x.t.out, .string x.t.nm]) := Bx.new wr [.int .i64 x.t.id, .int .i64 x.t.st, .int .i64 x.t.snap, .int .i64 x.t.cs, .slice x.ra x.t.rs.length x.rc, .slice x.wa x.t.ws.length x.wc, .bool x.t.out, .string x.t.nm] 54
      have hba : Below wr.heap.size wr (wr.alloc (.cells #[.int .i64 x.t.id, .int .i64 x.t.st, .int .i64 x.t.snap, .int .i64 x.t.cs, .slice x.ra x.t.rs.length x.rc, .slice x.wa x.t.ws.length x.wc, .bool x.t.out, .string x.t.nm] 54)) := (belowRefl wr).alloc (Nat.le_refl _) _
      have HC2 := hide (hc2.belowC hba hbl2)
      replace T1 : Hid (TRow (wr.alloc (.cells #[.int .i64 x.t.id, .int .i64 x.t.st, .int .i64 x.t.snap, .int .i64 x.t.cs, .slice x.ra x.t.rs.length x.rc, .slice x.wa x.t.ws.length x.wc, .bool x.t.out, .string x.t.nm] 54)) x.t x.ra x.wa) := T1.out.below hba
      replace T2 : Hid (TRow (wr.alloc (.cells #[.int .i64 x.t.id, .int .i64 x.t.st, .int .i64 x.t.snap, .int .i64 x.t.cs, .slice x.ra x.t.rs.length x.rc, .slice x.wa x.t.ws.length x.wc, .bool x.t.out, .string x.t.nm] 54)) y.t y.ra y.wa) := T2.out.below hba
      have HB1 : Hid (Below w.heap.size w (wr.alloc (.cells #[.int .i64 x.t.id, .int .i64 x.t.st, .int .i64 x.t.snap, .int .i64 x.t.cs, .slice x.ra x.t.rs.length x.rc, .slice x.wa x.t.ws.length x.wc, .bool x.t.out, .string x.t.nm] 54))) := HB.out.alloc HB.out.size _
      go_upto_region 6 with fail
      clear r0 r1 r2 r3 r4 r5 r6 r7 hc2 hba HB
      generalize (wr.alloc (.cells #[.int .i64 x.t.id, .int .i64 x.t.st, .int .i64 x.t.snap, .int .i64 x.t.cs, .slice x.ra x.t.rs.length x.rc, .slice x.wa x.t.ws.length x.wc, .bool x.t.out, .string x.t.nm] 54)) = v1 at *
      have r0 := HC2.out.c0
      have r1 := HC2.out.c1
      have r2 := HC2.out.c2
      have r3 := HC2.out.c3
      have r4 := HC2.out.c4
      have r5 := HC2.out.c5
      have r6 := HC2.out.c6
      have r7 := HC2.out.c7
      clear HC2
      have hba : Below v1.heap.size v1 (v1.alloc (.cells #[.int .i64 y.t.id, .int .i64 y.t.st, .int .i64 y.t.snap, .int .i64 y.t.cs, .slice y.ra y.t.rs.length y.rc, .slice y.wa y.t.ws.length y.wc, .bool y.t.out, .string y.t.nm] 54)) := (belowRefl v1).alloc (Nat.le_refl _) _
      have BX2 : Hid (Bx (v1.alloc (.cells #[.int .i64 y.t.id, .int .i64 y.t.st, .int .i64 y.t.snap, .int .i64 y.t.cs, .slice y.ra y.t.rs.length y.rc, .slice y.wa y.t.ws.length y.wc, .bool y.t.out, .string y.t.nm] 54)) v1.heap.size [.int .i64 y.t.id, .int .i64 y.t.st, .int .i64 y.t.snap, .int .i64 y.t.cs, .slice y.ra y.t.rs.length y.rc, .slice y.wa y.t.ws.length y.wc, .bool y.t.out, .string y.t.nm]) := Bx.new v1 [.int .i64 y.t.id, .int .i64 y.t.st, .int .i64 y.t.snap, .int .i64 y.t.cs, .slice y.ra y.t.rs.length y.rc, .slice y.wa y.t.ws.length y.wc, .bool y.t.out, .string y.t.nm] 54
      replace BX1 : Hid (Bx (v1.alloc (.cells #[.int .i64 y.t.id, .int .i64 y.t.st, .int .i64 y.t.snap, .int .i64 y.t.cs, .slice y.ra y.t.rs.length y.rc, .slice y.wa y.t.ws.length y.wc, .bool y.t.out, .string y.t.nm] 54)) wr.heap.size [.int .i64 x.t.id, .int .i64 x.t.st, .int .i64 x.t.snap, .int .i64 x.t.cs, .slice x.ra x.t.rs.length x.rc, .slice x.wa x.t.ws.length x.wc, .bool x.t.out, .string x.t.nm]) := BX1.out.below hba
      replace T1 : Hid (TRow (v1.alloc (.cells #[.int .i64 y.t.id, .int .i64 y.t.st, .int .i64 y.t.snap, .int .i64 y.t.cs, .slice y.ra y.t.rs.length y.rc, .slice y.wa y.t.ws.length y.wc, .bool y.t.out, .string y.t.nm] 54)) x.t x.ra x.wa) := T1.out.below hba
      replace T2 : Hid (TRow (v1.alloc (.cells #[.int .i64 y.t.id, .int .i64 y.t.st, .int .i64 y.t.snap, .int .i64 y.t.cs, .slice y.ra y.t.rs.length y.rc, .slice y.wa y.t.ws.length y.wc, .bool y.t.out, .string y.t.nm] 54)) y.t y.ra y.wa) := T2.out.below hba
      have HB2 : Hid (Below w.heap.size w (v1.alloc (.cells #[.int .i64 y.t.id, .int .i64 y.t.st, .int .i64 y.t.snap, .int .i64 y.t.cs, .slice y.ra y.t.rs.length y.rc, .slice y.wa y.t.ws.length y.wc, .bool y.t.out, .string y.t.nm] 54))) := HB1.out.alloc HB1.out.size _
      go_upto_region 7 with fail
      clear r0 r1 r2 r3 r4 r5 r6 r7 hba HB1
      generalize (v1.alloc (.cells #[.int .i64 y.t.id, .int .i64 y.t.st, .int .i64 y.t.snap, .int .i64 y.t.cs, .slice y.ra y.t.rs.length y.rc, .slice y.wa y.t.ws.length y.wc, .bool y.t.out, .string y.t.nm] 54)) = v2 at *
      have r0 := BX1.out.c0
      have q0 := BX2.out.c0
      have r1 := BX1.out.c1
      have q1 := BX2.out.c1
      have r2 := BX1.out.c2
      have q2 := BX2.out.c2
      have r3 := BX1.out.c3
      have q3 := BX2.out.c3
      have r4 := BX1.out.c4
      have q4 := BX2.out.c4
      have r5 := BX1.out.c5
      have q5 := BX2.out.c5
      have r6 := BX1.out.c6
      have q6 := BX2.out.c6
      have r7 := BX1.out.c7
      have q7 := BX2.out.c7
      go_wp2_with (first | (rw [ent28]; fail) | fail)
      refine (like28 x y HFx.out HFy.out _ T1.out T2.out).mono ?_
      rintro e w3 ⟨rfl, hb3⟩
      have HB3 : Hid (Below w.heap.size w w3) := HB2.out.trans (hb3.mono HB2.out.size)
      clear hb3 r0 q0 r1 q1 r2 q2 r3 q3 r4 q4 r5 q5 r6 q6 r7 q7 BX1 BX2 HB2 T1 T2
      cases hR : likeT x.t y.t with
      | false =>
        have HR := hide (HNO.out hR)
        clear hR
        go_wp2
        go_ret
        exact ⟨by rw [HR.out]; rfl, HB3.out⟩
      | true =>
        have HR := hide (HNX.out hR)
        clear hR
        go_wp2
        go_roundw
        case rel => exact ⟨k + 1, by omega, by go_num, HR, HB3⟩
        case measure => simp [intOf]; omega
    · have hd : ¬ (k : Int) < (n : Int) := by omega
      have HR : Hid (likeB (txs xs) (txs ys) = true) := like_all (by rw [← HX.out, ← HY.out]; exact hnm) (by rw [← HX.out]; omega) HU.out
      clear hnm
      go_wp2
      go_ret
      exact ⟨by rw [HR.out]; rfl, HB.out⟩

set_option maxRecDepth 100000 in
set_option maxHeartbeats 2000000 in
theorem ilike15 (xs ys : List Ta) (a1 a2 : Option Addr) (c1 c2 n m : Nat) (hx : n = xs.length) (hy : m = ys.length) (hn : n ≤ 10000000) (hf : ∀ x ∈ xs, TFit x.t) (hg : ∀ y ∈ ys, TFit y.t) (w : World) (h1 : TRows w a1 xs) (h2 : TRows w a2 ys) :
    Calls Tryz.prog 15 #[.slice a1 n c1, .slice a2 m c2] w fun e w' => e = .returned (.bool (likeB (txs xs) (txs ys))) ∧ Below w.heap.size w w' := by
  have C : Hid (Calls Tryz.prog 27 #[.slice a1 n c1, .slice a2 m c2, .func (.func 28) #[] #[]] w fun e w' => e = .returned (.bool (likeB (txs xs) (txs ys))) ∧ Below w.heap.size w w') := eqf27 xs ys a1 a2 c1 c2 n m hx hy hn hf hg w h1 h2
  clear hf hg h1 h2 hx hy
  generalize likeB (txs xs) (txs ys) = R at *
  go_enter Tryz.func15, Tryz.ntmps15
  go_wp2_with fail
  refine C.out.mono ?_
  rintro e w1 ⟨rfl, hb⟩
  go_wp2
  go_ret
  exact ⟨rfl, hb⟩

set_option maxRecDepth 100000 in
set_option maxHeartbeats 2000000 in
theorem slike11 (xs ys : List Ta) (a1 a2 : Option Addr) (c1 c2 n m : Nat) (hx : n = xs.length) (hy : m = ys.length) (hn : n ≤ 10000000) (hf : ∀ x ∈ xs, TFit x.t) (hg : ∀ y ∈ ys, TFit y.t) (w : World) (h1 : TRows w a1 xs) (h2 : TRows w a2 ys) :
    Calls Tryz.prog 11 #[.slice a1 n c1, .slice a2 m c2] w fun e w' => e = .returned (.bool (likeB (txs xs) (txs ys))) ∧ Below w.heap.size w w' := by
  have H1 : Hid (TRows w a1 xs) := h1
  have H2 : Hid (TRows w a2 ys) := h2
  have HX : Hid (n = xs.length) := hx
  have HY : Hid (m = ys.length) := hy
  have HF : Hid (∀ x ∈ xs, TFit x.t) := hf
  have HG : Hid (∀ y ∈ ys, TFit y.t) := hg
  clear h1 h2 hx hy hf hg
  go_enter Tryz.func11, Tryz.ntmps11
  by_cases hne : n = m
  case neg =>
    have hnz : ((n : Int) != (m : Int)) = true := by simp; omega
    have HR : Hid (likeB (txs xs) (txs ys) = false) := like_len (by rw [← HX.out, ← HY.out]; exact hne)
    go_wp2
    go_ret
    exact ⟨by rw [HR.out]; rfl, belowRefl w⟩
  have hnz : ((n : Int) != (m : Int)) = false := by simp; omega
  have HNM := hide hne
  clear hne
  go_wp2
  go_loopw [5, 6, 7, 8, 9] (fun t _ _ _ _ wr => ∃ k : Nat, k ≤ n ∧ t = .int .i64 k ∧ Hid (LikeUp xs ys k) ∧ Hid (Below w.heap.size w wr)) (fun t _ _ _ _ _ => n - (intOf t).toNat)
  case atStart => exact ⟨0, Nat.zero_le _, rfl, fun j _ _ h => by omega, belowRefl w⟩
  case round =>
    obtain ⟨k, hk, rfl, HU, HB⟩ := hrel
    have hnm : n = m := HNM.out
    by_cases hlt : k < n
    · have hlt' : (k : Int) < (n : Int) := by omega
      have hltm : (k : Int) < (m : Int) := by omega
      have h0 : (0 : Int) ≤ (k : Int) := by omega
      have hkx : k < xs.length := by rw [← HX.out]; exact hlt
      have hky : k < ys.length := by rw [← HY.out]; omega
      obtain ⟨b1, o1, rfl, hbl1, hc1, ht1⟩ := (H1.out.below HB.out).cls k hkx
      obtain ⟨b2, o2, rfl, hbl2, hc2, ht2⟩ := (H2.out.below HB.out).cls k hky
      have HNX : Hid (likeT xs[k].t ys[k].t = true → LikeUp xs ys (k + 1)) := fun h => like_next HU.out hkx hky h
      have HNO : Hid (likeT xs[k].t ys[k].t = false → likeB (txs xs) (txs ys) = false) := fun h => like_at hkx hky h
      have HFx : Hid (TFit xs[k].t) := HF.out _ (List.getElem_mem _)
      have HFy : Hid (TFit ys[k].t) := HG.out _ (List.getElem_mem _)
      obtain ⟨x, hx⟩ : ∃ x, x = xs[k] := ⟨_, rfl⟩
      obtain ⟨y, hy⟩ : ∃ y, y = ys[k] := ⟨_, rfl⟩
      rw [← hx] at hc1 ht1 HNX HNO HFx
      rw [← hy] at hc2 ht2 HNX HNO HFy
      clear hx hy hkx hky
      have T1 : Hid (TRow wr x.t x.ra x.wa) := ht1
      have T2 : Hid (TRow wr y.t y.ra y.wa) := ht2
      clear ht1 ht2
      clear hnm
      have C1 : Hid (∀ W : World, Below wr.heap.size wr W → Calls Tryz.prog 21 #[.agg #[.int .i64 x.t.id, .int .i64 x.t.st, .int .i64 x.t.snap, .int .i64 x.t.cs, .slice x.ra x.t.rs.length x.rc, .slice x.wa x.t.ws.length x.wc, .bool x.t.out, .string x.t.nm]] W fun e w' => e = .returned (.tuple #[.string (txS x.t), .bool (txnB x.t)]) ∧ Below W.heap.size W w') := fun W h => by
        have k := stext x.t x.ra x.wa x.rc x.wc HFx.out W (T1.out.below h)
        rw [txtV_eq] at k
        exact k
      have C2 : Hid (∀ W : World, Below wr.heap.size wr W → Calls Tryz.prog 21 #[.agg #[.int .i64 y.t.id, .int .i64 y.t.st, .int .i64 y.t.snap, .int .i64 y.t.cs, .slice y.ra y.t.rs.length y.rc, .slice y.wa y.t.ws.length y.wc, .bool y.t.out, .string y.t.nm]] W fun e w' => e = .returned (.tuple #[.string (txS y.t), .bool (txnB y.t)]) ∧ Below W.heap.size W w') := fun W h => by
        have k := stext y.t y.ra y.wa y.rc y.wc HFy.out W (T2.out.below h)
        rw [txtV_eq] at k
        exact k
      have HLT : Hid (((txS x.t).toList == (txS y.t).toList) = likeT x.t y.t) := rfl
      have HLN : Hid ((txnB x.t != txnB y.t) = true → likeT x.t y.t = false) := like_no
      have HC2 := hide hc2
      clear hc2 T1 T2
      generalize likeT x.t y.t = R at *
      generalize txS x.t = tx at *
      generalize txS y.t = ty at *
      generalize txnB x.t = bx at *
      generalize txnB y.t = bby at *
      have r0 := hc1.c0
      have r1 := hc1.c1
      have r2 := hc1.c2
      have r3 := hc1.c3
      have r4 := hc1.c4
      have r5 := hc1.c5
      have r6 := hc1.c6
      have r7 := hc1.c7
      clear hc1
      go_wp2_with fail
      refine (C1.out _ (belowRefl _)).mono ?_
      rintro e w1 ⟨rfl, hb1⟩
      have HC3 := hide (HC2.out.belowC hb1 hbl2)
      have HBr : Hid (Below wr.heap.size wr w1) := hb1
      have HB1 : Hid (Below w.heap.size w w1) := HB.out.trans (hb1.mono HB.out.size)
      clear hb1 r0 r1 r2 r3 r4 r5 r6 r7 HC2 C1
      have r0 := HC3.out.c0
      have r1 := HC3.out.c1
      have r2 := HC3.out.c2
      have r3 := HC3.out.c3
      have r4 := HC3.out.c4
      have r5 := HC3.out.c5
      have r6 := HC3.out.c6
      have r7 := HC3.out.c7
      clear HC3
      go_wp2_with fail
      refine (C2.out _ HBr.out).mono ?_
      rintro e w2 ⟨rfl, hb2⟩
      have HB2 : Hid (Below w.heap.size w w2) := HB1.out.trans (hb2.mono HB1.out.size)
      clear hb2 r0 r1 r2 r3 r4 r5 r6 r7 HBr HB1 C2 HB
      cases bx with
      | true =>
        cases bby with
        | true =>
          cases hR : (tx.toList == ty.toList) with
          | false =>
            have HR := hide (HNO.out (HLT.out.symm.trans hR))
            go_wp2
            go_ret
            exact ⟨by rw [HR.out]; rfl, HB2.out⟩
          | true =>
            have HR := hide (HNX.out (HLT.out.symm.trans hR))
            go_wp2
            go_roundw
            case rel => exact ⟨k + 1, by omega, by go_num, HR, HB2⟩
            case measure => simp [intOf]; omega
        | false =>
          have HR := hide (HNO.out (HLN.out rfl))
          go_wp2
          go_ret
          exact ⟨by rw [HR.out]; rfl, HB2.out⟩
      | false =>
        cases bby with
        | true =>
          have HR := hide (HNO.out (HLN.out rfl))
          go_wp2
          go_ret
          exact ⟨by rw [HR.out]; rfl, HB2.out⟩
        | false =>
          cases hR : (tx.toList == ty.toList) with
          | false =>
            have HR := hide (HNO.out (HLT.out.symm.trans hR))
            go_wp2
            go_ret
            exact ⟨by rw [HR.out]; rfl, HB2.out⟩
          | true =>
            have HR := hide (HNX.out (HLT.out.symm.trans hR))
            go_wp2
            go_roundw
            case rel => exact ⟨k + 1, by omega, by go_num, HR, HB2⟩
            case measure => simp [intOf]; omega
    · have hd : ¬ (k : Int) < (n : Int) := by omega
      have HR : Hid (likeB (txs xs) (txs ys) = true) := like_all (by rw [← HX.out, ← HY.out]; exact hnm) (by rw [← HX.out]; omega) HU.out
      clear hnm
      go_wp2
      go_ret
      exact ⟨by rw [HR.out]; rfl, HB.out⟩

end Go.Proofs.YtmaipaeehalabaaGreat

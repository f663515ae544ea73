/- Who is ahead of whom: the specification of Blocked, OutOf and InOf. -/
import Derived.Test.YtjeicgibddfifaaPc15
import Derived.Deep.Cut
namespace Go.Proofs.Ytjeicgibddfifaa
open Go.RowKit
open KM
attribute [local go_sem ↓] Go.wp_at_zero Go.wp_at_succ

theorem meet_comm (xs ys : List Wt) : meetB xs ys = meetB ys xs := by
 have h : ∀ (a b : List Wt), meetB a b = true → meetB b a = true := fun a b h => by
  simp only [meetB, List.any_eq_true, decide_eq_true_eq] at h ⊢
  obtain ⟨x, hx, y, hy, e⟩ := h
  exact ⟨y, hy, x, hx, e.symm⟩
 cases h1 : meetB xs ys <;> cases h2 : meetB ys xs
 ·rfl
 ·rw [h _ _ h2] at h1; cases h1
 ·rw [h _ _ h1] at h2; cases h2
 ·rfl
theorem any_yes (P : Tx → Bool) (xs : List Ta) (k : Nat) (hk : k < xs.length) (h : P xs[k].t = true) : (txs xs).any P = true :=
 List.any_eq_true.2 ⟨_, List.mem_map.2 ⟨_, List.getElem_mem hk, rfl⟩, h⟩
def NoneOf (P : Tx → Bool) (xs : List Ta) (k : Nat) : Prop := ∀ j (hj : j < xs.length), j < k → P xs[j].t = false
theorem none_more {P : Tx → Bool} {xs : List Ta} {k : Nat} (h : NoneOf P xs k) (hk : k < xs.length) (h2 : P xs[k].t = false) : NoneOf P xs (k + 1) := fun j hj hjk => by
 by_cases e : j = k
 ·subst e; exact h2
 ·exact h j hj (by omega)
theorem any_none {P : Tx → Bool} {xs : List Ta} {k : Nat} (h : NoneOf P xs k) (hk : xs.length ≤ k) : (txs xs).any P = false := by
 rw [List.any_eq_false]
 intro x hx
 obtain ⟨y, hy, rfl⟩ := List.mem_map.1 hx
 obtain ⟨j, hj, rfl⟩ := List.getElem_of_mem hy
 simp [h j hj (by omega)]
def blockedB (t : Tx) (l : List Tx) : Bool := l.any (blkB t)
def readyB (x : Tx) : Bool := decide (x.st = 2)
def doneB (x : Tx) : Bool := decide (x.st = 3)
def outQ (t x : Tx) : Bool := doneB x && ahB t x
def inQ (t x : Tx) : Bool := (readyB x || doneB x) && ahB x t
def outB (t : Tx) (l : List Tx) : Bool := l.any (outQ t)
def intoB (t : Tx) (l : List Tx) : Bool := l.any (inQ t)

set_option maxRecDepth 100000 in
set_option maxHeartbeats 2000000 in
theorem sblocked (t : Tx) (ra wa : Option Addr) (rc wc : Nat) (xs : List Ta) (a : Option Addr) (c n : Nat) (hx : n = xs.length) (hn : n ≤ 100000000) (ft : TFit t) (fx : LFw (txs xs)) (w : World) (ht : TRow w t ra wa) (hp : TRows w a xs) :
  Calls Try.prog 32 #[.agg #[.int .i64 t.id, .int .i64 t.st, .int .i64 t.snap, .int .i64 t.cs, .slice ra t.rs.length rc, .slice wa t.ws.length wc, .bool t.out, .string t.nm], .slice a n c] w fun e w' => e = .returned (.bool (blockedB t (txs xs))) ∧ Below w.heap.size w w' := by
 have HT : Hid (TRow (w.alloc (.cells #[.int .i64 t.id, .int .i64 t.st, .int .i64 t.snap, .int .i64 t.cs, .slice ra t.rs.length rc, .slice wa t.ws.length wc, .bool t.out, .string t.nm] 51)) t ra wa) := ht.below ((belowRefl w).alloc (Nat.le_refl _) _)
 have HP : Hid (TRows (w.alloc (.cells #[.int .i64 t.id, .int .i64 t.st, .int .i64 t.snap, .int .i64 t.cs, .slice ra t.rs.length rc, .slice wa t.ws.length wc, .bool t.out, .string t.nm] 51)) a xs) := hp.below ((belowRefl w).alloc (Nat.le_refl _) _)
 have FT : Hid (TFit t) := ft
 have FX : Hid (LFw (txs xs)) := fx
 have HX : Hid (n = xs.length) := hx
 have HB0 : Hid (Below w.heap.size w (w.alloc (.cells #[.int .i64 t.id, .int .i64 t.st, .int .i64 t.snap, .int .i64 t.cs, .slice ra t.rs.length rc, .slice wa t.ws.length wc, .bool t.out, .string t.nm] 51))) := (belowRefl w).alloc (Nat.le_refl _) _
 have BT0 : Hid (Bx (w.alloc (.cells #[.int .i64 t.id, .int .i64 t.st, .int .i64 t.snap, .int .i64 t.cs, .slice ra t.rs.length rc, .slice wa t.ws.length wc, .bool t.out, .string t.nm] 51)) w.heap.size [.int .i64 t.id, .int .i64 t.st, .int .i64 t.snap, .int .i64 t.cs, .slice ra t.rs.length rc, .slice wa t.ws.length wc, .bool t.out, .string t.nm]) := Bx.new w [.int .i64 t.id, .int .i64 t.st, .int .i64 t.snap, .int .i64 t.cs, .slice ra t.rs.length rc, .slice wa t.ws.length wc, .bool t.out, .string t.nm] 51
 clear ht hp ft fx hx
 go_enter Try.func32, Try.ntmps32
 go_wp2
 go_loopw [5] (fun tk wr => ∃ k : Nat, k ≤ n ∧ tk = .int .i64 k ∧ Hid (NoneOf (blkB t) xs k) ∧ Hid (Below (w.alloc (.cells #[.int .i64 t.id, .int .i64 t.st, .int .i64 t.snap, .int .i64 t.cs, .slice ra t.rs.length rc, .slice wa t.ws.length wc, .bool t.out, .string t.nm] 51)).heap.size (w.alloc (.cells #[.int .i64 t.id, .int .i64 t.st, .int .i64 t.snap, .int .i64 t.cs, .slice ra t.rs.length rc, .slice wa t.ws.length wc, .bool t.out, .string t.nm] 51)) wr)) (fun tk _ => n - (intOf tk).toNat)
 case atStart => exact ⟨0, Nat.zero_le _, rfl, (fun j hj h => by omega), belowRefl _⟩
 case round =>
  obtain ⟨k, hk, rfl, HN, HB⟩ := hrel
  by_cases hlt : k < n
  ·have hlt' : (k : Int) < (n : Int) := by omega
   have h0 : (0 : Int) ≤ (k : Int) := by omega
   have hkx : k < xs.length := by rw [← HX.out]; exact hlt
   obtain ⟨b, o, rfl, hbl, hc, ht⟩ := (HP.out.below HB.out).cls k hkx
   have hfx : TFit xs[k].t := FX.out.2 _ (List.mem_map.2 ⟨_, List.getElem_mem hkx, rfl⟩)
   have HYes : Hid ((blkB t) xs[k].t = true → (blockedB t (txs xs)) = true) := fun h => any_yes _ xs k hkx h
   have HNo : Hid ((blkB t) xs[k].t = false → NoneOf (blkB t) xs (k + 1)) := fun h => none_more HN.out hkx h
   obtain ⟨x, hx⟩ : ∃ x, x = xs[k] := ⟨_, rfl⟩
   rw [← hx] at hc ht hfx HYes HNo
   have HXR : Hid (TRow wr x.t x.ra x.wa) := ht
   have FXX : Hid (TFit x.t) := hfx
   have BT : Hid (Bx wr w.heap.size [.int .i64 t.id, .int .i64 t.st, .int .i64 t.snap, .int .i64 t.cs, .slice ra t.rs.length rc, .slice wa t.ws.length wc, .bool t.out, .string t.nm]) := BT0.out.below HB.out
   have HTr : Hid (TRow wr t ra wa) := HT.out.below HB.out
   have HC := hide hc
   clear hx hkx ht hfx hc
   have r0 := HC.out.c0
   have r1 := HC.out.c1
   have r2 := HC.out.c2
   have r3 := HC.out.c3
   have r4 := HC.out.c4
   have r5 := HC.out.c5
   have r6 := HC.out.c6
   have r7 := HC.out.c7
   have HB1 : Hid (Below (w.alloc (.cells #[.int .i64 t.id, .int .i64 t.st, .int .i64 t.snap, .int .i64 t.cs, .slice ra t.rs.length rc, .slice wa t.ws.length wc, .bool t.out, .string t.nm] 51)).heap.size (w.alloc (.cells #[.int .i64 t.id, .int .i64 t.st, .int .i64 t.snap, .int .i64 t.cs, .slice ra t.rs.length rc, .slice wa t.ws.length wc, .bool t.out, .string t.nm] 51)) (wr.alloc (.cells #[.int .i64 x.t.id, .int .i64 x.t.st, .int .i64 x.t.snap, .int .i64 x.t.cs, .slice x.ra x.t.rs.length x.rc, .slice x.wa x.t.ws.length x.wc, .bool x.t.out, .string x.t.nm] 51))) := HB.out.alloc HB.out.size _
   have BT1 : Hid (Bx (wr.alloc (.cells #[.int .i64 x.t.id, .int .i64 x.t.st, .int .i64 x.t.snap, .int .i64 x.t.cs, .slice x.ra x.t.rs.length x.rc, .slice x.wa x.t.ws.length x.wc, .bool x.t.out, .string x.t.nm] 51)) w.heap.size [.int .i64 t.id, .int .i64 t.st, .int .i64 t.snap, .int .i64 t.cs, .slice ra t.rs.length rc, .slice wa t.ws.length wc, .bool t.out, .string t.nm]) := BT.out.alloc _
   have BX1 : Hid (Bx (wr.alloc (.cells #[.int .i64 x.t.id, .int .i64 x.t.st, .int .i64 x.t.snap, .int .i64 x.t.cs, .slice x.ra x.t.rs.length x.rc, .slice x.wa x.t.ws.length x.wc, .bool x.t.out, .string x.t.nm] 51)) wr.heap.size [.int .i64 x.t.id, .int .i64 x.t.st, .int .i64 x.t.snap, .int .i64 x.t.cs, .slice x.ra x.t.rs.length x.rc, .slice x.wa x.t.ws.length x.wc, .bool x.t.out, .string x.t.nm]) := Bx.new wr [.int .i64 x.t.id, .int .i64 x.t.st, .int .i64 x.t.snap, .int .i64 x.t.cs, .slice x.ra x.t.rs.length x.rc, .slice x.wa x.t.ws.length x.wc, .bool x.t.out, .string x.t.nm] 51
   have HM : Hid (∀ w1, Below (wr.alloc (.cells #[.int .i64 x.t.id, .int .i64 x.t.st, .int .i64 x.t.snap, .int .i64 x.t.cs, .slice x.ra x.t.rs.length x.rc, .slice x.wa x.t.ws.length x.wc, .bool x.t.out, .string x.t.nm] 51)).heap.size (wr.alloc (.cells #[.int .i64 x.t.id, .int .i64 x.t.st, .int .i64 x.t.snap, .int .i64 x.t.cs, .slice x.ra x.t.rs.length x.rc, .slice x.wa x.t.ws.length x.wc, .bool x.t.out, .string x.t.nm] 51)) w1 → _) := fun w1 h1 => smeets x.t.ws t.ws x.wa wa x.wc wc (Nat.le_trans FXX.out.2.2.1 (by omega)) (Nat.le_trans FT.out.2.2.1 (by omega)) w1 ((HXR.out.w.below ((belowRefl wr).alloc (Nat.le_refl _) _)).below h1) ((HTr.out.w.below ((belowRefl wr).alloc (Nat.le_refl _) _)).below h1)
   by_cases h1 : x.t.id = t.id
   ·have h1' : (x.t.id != t.id) = false := by simp [h1]
    have h1b : decide (x.t.id = t.id) = true := by simp [h1]
    have HQ : Hid (blkB t x.t = false) := by show _ = _; simp [blkB, h1]
    clear h1
    go_upto_region 5 with fail
    clear r0 r1 r2 r3 r4 r5 r6 r7
    have x0 := BX1.out.c0
    have x1 := BX1.out.c1
    have x2 := BX1.out.c2
    have x3 := BX1.out.c3
    have x4 := BX1.out.c4
    have x5 := BX1.out.c5
    have x6 := BX1.out.c6
    have x7 := BX1.out.c7
    have y0 := BT1.out.c0
    have y1 := BT1.out.c1
    have y2 := BT1.out.c2
    have y3 := BT1.out.c3
    have y4 := BT1.out.c4
    have y5 := BT1.out.c5
    have y6 := BT1.out.c6
    have y7 := BT1.out.c7
    go_wp2
    go_roundw
    case rel => exact ⟨k + 1, by omega, by go_num, HNo.out HQ.out, HB1⟩
    case measure => simp [intOf]; omega
   ·have h1' : (x.t.id != t.id) = true := by simp [h1]
    have h1b : decide (x.t.id = t.id) = false := by simp [h1]
    have h1n : ¬ t.id = x.t.id := fun e => h1 e.symm
    by_cases k2 : x.t.st = 2
    ·have k2' : decide (x.t.st = 2) = true := by simp [k2]
     have k2b : (x.t.st == 2) = true := by simp [k2]
     have E : Hid (blkB t x.t = meetB t.ws x.t.ws) := by show _ = _; simp [blkB, seesB, h1n, k2]
     clear k2
     cases hm : meetB x.t.ws t.ws
     ·rw [hm] at HM
      have HQ : Hid (blkB t x.t = false) := by show _ = _; rw [E.out, meet_comm, hm]
      clear hm
      go_upto_region 5 with fail
      clear r0 r1 r2 r3 r4 r5 r6 r7
      have x0 := BX1.out.c0
      have x1 := BX1.out.c1
      have x2 := BX1.out.c2
      have x3 := BX1.out.c3
      have x4 := BX1.out.c4
      have x5 := BX1.out.c5
      have x6 := BX1.out.c6
      have x7 := BX1.out.c7
      have y0 := BT1.out.c0
      have y1 := BT1.out.c1
      have y2 := BT1.out.c2
      have y3 := BT1.out.c3
      have y4 := BT1.out.c4
      have y5 := BT1.out.c5
      have y6 := BT1.out.c6
      have y7 := BT1.out.c7
      go_wp2_with fail
      refine (HM.out _ (belowRefl _)).mono ?_
      rintro e w2 ⟨rfl, hb2⟩
      have HB2 : Hid (Below (w.alloc (.cells #[.int .i64 t.id, .int .i64 t.st, .int .i64 t.snap, .int .i64 t.cs, .slice ra t.rs.length rc, .slice wa t.ws.length wc, .bool t.out, .string t.nm] 51)).heap.size (w.alloc (.cells #[.int .i64 t.id, .int .i64 t.st, .int .i64 t.snap, .int .i64 t.cs, .slice ra t.rs.length rc, .slice wa t.ws.length wc, .bool t.out, .string t.nm] 51)) w2) := HB1.out.trans (hb2.mono HB1.out.size)
      clear hb2
      go_wp2
      go_roundw
      case rel => exact ⟨k + 1, by omega, by go_num, HNo.out HQ.out, HB2⟩
      case measure => simp [intOf]; omega
     ·rw [hm] at HM
      have HQ : Hid (blkB t x.t = true) := by show _ = _; rw [E.out, meet_comm, hm]
      clear hm
      go_upto_region 5 with fail
      clear r0 r1 r2 r3 r4 r5 r6 r7
      have x0 := BX1.out.c0
      have x1 := BX1.out.c1
      have x2 := BX1.out.c2
      have x3 := BX1.out.c3
      have x4 := BX1.out.c4
      have x5 := BX1.out.c5
      have x6 := BX1.out.c6
      have x7 := BX1.out.c7
      have y0 := BT1.out.c0
      have y1 := BT1.out.c1
      have y2 := BT1.out.c2
      have y3 := BT1.out.c3
      have y4 := BT1.out.c4
      have y5 := BT1.out.c5
      have y6 := BT1.out.c6
      have y7 := BT1.out.c7
      go_wp2_with fail
      refine (HM.out _ (belowRefl _)).mono ?_
      rintro e w2 ⟨rfl, hb2⟩
      have HB2 : Hid (Below (w.alloc (.cells #[.int .i64 t.id, .int .i64 t.st, .int .i64 t.snap, .int .i64 t.cs, .slice ra t.rs.length rc, .slice wa t.ws.length wc, .bool t.out, .string t.nm] 51)).heap.size (w.alloc (.cells #[.int .i64 t.id, .int .i64 t.st, .int .i64 t.snap, .int .i64 t.cs, .slice ra t.rs.length rc, .slice wa t.ws.length wc, .bool t.out, .string t.nm] 51)) w2) := HB1.out.trans (hb2.mono HB1.out.size)
      clear hb2
      go_wp2
      go_ret
      exact ⟨ret_bool (HYes.out HQ.out).symm, HB0.out.trans (HB2.out.mono HB0.out.size)⟩
    ·by_cases k3 : x.t.st = 3
     ·have k3' : decide (x.t.st = 3) = true := by simp [k3]
      have k3b : (x.t.st == 3) = true := by simp [k3]
      by_cases k4 : t.snap < x.t.cs
      ·have E : Hid (blkB t x.t = meetB t.ws x.t.ws) := by show _ = _; simp [blkB, seesB, h1n, k3, k4]
       clear k3
       cases hm : meetB x.t.ws t.ws
       ·rw [hm] at HM
        have HQ : Hid (blkB t x.t = false) := by show _ = _; rw [E.out, meet_comm, hm]
        clear hm
        go_upto_region 5 with fail
        clear r0 r1 r2 r3 r4 r5 r6 r7
        have x0 := BX1.out.c0
        have x1 := BX1.out.c1
        have x2 := BX1.out.c2
        have x3 := BX1.out.c3
        have x4 := BX1.out.c4
        have x5 := BX1.out.c5
        have x6 := BX1.out.c6
        have x7 := BX1.out.c7
        have y0 := BT1.out.c0
        have y1 := BT1.out.c1
        have y2 := BT1.out.c2
        have y3 := BT1.out.c3
        have y4 := BT1.out.c4
        have y5 := BT1.out.c5
        have y6 := BT1.out.c6
        have y7 := BT1.out.c7
        go_wp2_with fail
        refine (HM.out _ (belowRefl _)).mono ?_
        rintro e w2 ⟨rfl, hb2⟩
        have HB2 : Hid (Below (w.alloc (.cells #[.int .i64 t.id, .int .i64 t.st, .int .i64 t.snap, .int .i64 t.cs, .slice ra t.rs.length rc, .slice wa t.ws.length wc, .bool t.out, .string t.nm] 51)).heap.size (w.alloc (.cells #[.int .i64 t.id, .int .i64 t.st, .int .i64 t.snap, .int .i64 t.cs, .slice ra t.rs.length rc, .slice wa t.ws.length wc, .bool t.out, .string t.nm] 51)) w2) := HB1.out.trans (hb2.mono HB1.out.size)
        clear hb2
        go_wp2
        go_roundw
        case rel => exact ⟨k + 1, by omega, by go_num, HNo.out HQ.out, HB2⟩
        case measure => simp [intOf]; omega
       ·rw [hm] at HM
        have HQ : Hid (blkB t x.t = true) := by show _ = _; rw [E.out, meet_comm, hm]
        clear hm
        go_upto_region 5 with fail
        clear r0 r1 r2 r3 r4 r5 r6 r7
        have x0 := BX1.out.c0
        have x1 := BX1.out.c1
        have x2 := BX1.out.c2
        have x3 := BX1.out.c3
        have x4 := BX1.out.c4
        have x5 := BX1.out.c5
        have x6 := BX1.out.c6
        have x7 := BX1.out.c7
        have y0 := BT1.out.c0
        have y1 := BT1.out.c1
        have y2 := BT1.out.c2
        have y3 := BT1.out.c3
        have y4 := BT1.out.c4
        have y5 := BT1.out.c5
        have y6 := BT1.out.c6
        have y7 := BT1.out.c7
        go_wp2_with fail
        refine (HM.out _ (belowRefl _)).mono ?_
        rintro e w2 ⟨rfl, hb2⟩
        have HB2 : Hid (Below (w.alloc (.cells #[.int .i64 t.id, .int .i64 t.st, .int .i64 t.snap, .int .i64 t.cs, .slice ra t.rs.length rc, .slice wa t.ws.length wc, .bool t.out, .string t.nm] 51)).heap.size (w.alloc (.cells #[.int .i64 t.id, .int .i64 t.st, .int .i64 t.snap, .int .i64 t.cs, .slice ra t.rs.length rc, .slice wa t.ws.length wc, .bool t.out, .string t.nm] 51)) w2) := HB1.out.trans (hb2.mono HB1.out.size)
        clear hb2
        go_wp2
        go_ret
        exact ⟨ret_bool (HYes.out HQ.out).symm, HB0.out.trans (HB2.out.mono HB0.out.size)⟩
      ·have HQ0 : Hid (blkB t x.t = false) := by show _ = _; simp [blkB, seesB, k3]; intro _ h; omega
       clear k3
       have HQ := HQ0
       go_upto_region 5 with fail
       clear r0 r1 r2 r3 r4 r5 r6 r7
       have x0 := BX1.out.c0
       have x1 := BX1.out.c1
       have x2 := BX1.out.c2
       have x3 := BX1.out.c3
       have x4 := BX1.out.c4
       have x5 := BX1.out.c5
       have x6 := BX1.out.c6
       have x7 := BX1.out.c7
       have y0 := BT1.out.c0
       have y1 := BT1.out.c1
       have y2 := BT1.out.c2
       have y3 := BT1.out.c3
       have y4 := BT1.out.c4
       have y5 := BT1.out.c5
       have y6 := BT1.out.c6
       have y7 := BT1.out.c7
       go_wp2
       go_roundw
       case rel => exact ⟨k + 1, by omega, by go_num, HNo.out HQ.out, HB1⟩
       case measure => simp [intOf]; omega
     ·skip
      have HQ : Hid (blkB t x.t = false) := by show _ = _; simp [blkB, seesB, k2, k3]
      go_upto_region 5 with fail
      clear r0 r1 r2 r3 r4 r5 r6 r7
      have x0 := BX1.out.c0
      have x1 := BX1.out.c1
      have x2 := BX1.out.c2
      have x3 := BX1.out.c3
      have x4 := BX1.out.c4
      have x5 := BX1.out.c5
      have x6 := BX1.out.c6
      have x7 := BX1.out.c7
      have y0 := BT1.out.c0
      have y1 := BT1.out.c1
      have y2 := BT1.out.c2
      have y3 := BT1.out.c3
      have y4 := BT1.out.c4
      have y5 := BT1.out.c5
      have y6 := BT1.out.c6
      have y7 := BT1.out.c7
      go_wp2
      go_roundw
      case rel => exact ⟨k + 1, by omega, by go_num, HNo.out HQ.out, HB1⟩
      case measure => simp [intOf]; omega
  ·have hd : ¬ (k : Int) < (n : Int) := by omega
   have HR : Hid ((blockedB t (txs xs)) = false) := any_none HN.out (by rw [← HX.out]; omega)
   go_wp2
   go_ret
   exact ⟨ret_bool HR.out.symm, HB0.out.trans (HB.out.mono HB0.out.size)⟩

end Go.Proofs.Ytjeicgibddfifaa

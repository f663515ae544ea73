/- Who is ahead of whom: the questions that are methods. -/
import Derived.Test.YtmijppfppigjcaaGreatPd11
import Derived.Deep.RegionHeld3
import Derived.Test.YtmijppfppigjcaaGreatProg
import Derived.WalkKit
import Derived.Test.YtmijppfppigjcaaGreatPd01
import Derived.WalkSpells
import Derived.WalkLawsBesides
import Derived.Deep.QuietTactic
import Derived.BigQuiet
import Derived.Deep.DrawnRows
import Derived.Deep.AppendLies
import Derived.Test.YtmijppfppigjcaaGreatPd02
import Derived.Test.YtmijppfppigjcaaGreatPd03
import Derived.Deep.RegionHeld
import Derived.Sort.OwnSorted
import Derived.Lib.RowBridge
import Derived.Test.YtmijppfppigjcaaGreatPd04
import Derived.Deep.Cut
import Derived.Test.YtmijppfppigjcaaGreatPd08
import Derived.Lib.ItoaNum
import Derived.Lib.ItoaLen
import Derived.Test.YtmijppfppigjcaaGreatPd05
namespace Go.Proofs.YtmijppfppigjcaaGreat
open Go.RowKit
open KM
attribute [local go_sem ↓] Go.wp_at_zero Go.wp_at_succ

def Asks (q : Nat) (Q : Tx → Tx → Bool) : Prop := ∀ (a b : Tx) (ra wa : Option Addr) (rc wc : Nat) (ra2 wa2 : Option Addr) (rc2 wc2 : Nat) (w : World), TFit a → TFit b → TRow w a ra wa → TRow w b ra2 wa2 →
 Calls Tryz.prog q #[.agg #[.int .i64 a.id, .int .i64 a.st, .int .i64 a.snap, .int .i64 a.cs, .slice ra a.rs.length rc, .slice wa a.ws.length wc, .bool a.out, .string a.nm], .agg #[.int .i64 b.id, .int .i64 b.st, .int .i64 b.snap, .int .i64 b.cs, .slice ra2 b.rs.length rc2, .slice wa2 b.ws.length wc2, .bool b.out, .string b.nm]] w fun e w' => e = .returned (.bool (Q a b)) ∧ Below w.heap.size w w'
set_option maxRecDepth 100000 in
set_option maxHeartbeats 2000000 in
theorem asks50 : Asks 133 ahB := by
 intro a b ra wa rc wc ra2 wa2 rc2 wc2 w fa fb ta tb
 have TA : Hid (TRow w a ra wa) := ta
 have TB : Hid (TRow w b ra2 wa2) := tb
 have FA : Hid (TFit a) := fa
 have FB : Hid (TFit b) := fb
 clear fa fb ta tb
 have HB0 : Hid (Below w.heap.size w ((w.alloc (.cells #[.int .i64 a.id, .int .i64 a.st, .int .i64 a.snap, .int .i64 a.cs, .slice ra a.rs.length rc, .slice wa a.ws.length wc, .bool a.out, .string a.nm] 62)).alloc (.cells #[.int .i64 b.id, .int .i64 b.st, .int .i64 b.snap, .int .i64 b.cs, .slice ra2 b.rs.length rc2, .slice wa2 b.ws.length wc2, .bool b.out, .string b.nm] 62))) := ((belowRefl w).alloc (Nat.le_refl _) _).alloc (by simp) _
 have BA0 : Hid (Bx ((w.alloc (.cells #[.int .i64 a.id, .int .i64 a.st, .int .i64 a.snap, .int .i64 a.cs, .slice ra a.rs.length rc, .slice wa a.ws.length wc, .bool a.out, .string a.nm] 62)).alloc (.cells #[.int .i64 b.id, .int .i64 b.st, .int .i64 b.snap, .int .i64 b.cs, .slice ra2 b.rs.length rc2, .slice wa2 b.ws.length wc2, .bool b.out, .string b.nm] 62)) w.heap.size [.int .i64 a.id, .int .i64 a.st, .int .i64 a.snap, .int .i64 a.cs, .slice ra a.rs.length rc, .slice wa a.ws.length wc, .bool a.out, .string a.nm]) := (Bx.new w [.int .i64 a.id, .int .i64 a.st, .int .i64 a.snap, .int .i64 a.cs, .slice ra a.rs.length rc, .slice wa a.ws.length wc, .bool a.out, .string a.nm] 62).alloc _
 have BB0 : Hid (Bx ((w.alloc (.cells #[.int .i64 a.id, .int .i64 a.st, .int .i64 a.snap, .int .i64 a.cs, .slice ra a.rs.length rc, .slice wa a.ws.length wc, .bool a.out, .string a.nm] 62)).alloc (.cells #[.int .i64 b.id, .int .i64 b.st, .int .i64 b.snap, .int .i64 b.cs, .slice ra2 b.rs.length rc2, .slice wa2 b.ws.length wc2, .bool b.out, .string b.nm] 62)) (w.heap.size + 1) [.int .i64 b.id, .int .i64 b.st, .int .i64 b.snap, .int .i64 b.cs, .slice ra2 b.rs.length rc2, .slice wa2 b.ws.length wc2, .bool b.out, .string b.nm]) := by have h := Bx.new (w.alloc (.cells #[.int .i64 a.id, .int .i64 a.st, .int .i64 a.snap, .int .i64 a.cs, .slice ra a.rs.length rc, .slice wa a.ws.length wc, .bool a.out, .string a.nm] 62)) [.int .i64 b.id, .int .i64 b.st, .int .i64 b.snap, .int .i64 b.cs, .slice ra2 b.rs.length rc2, .slice wa2 b.ws.length wc2, .bool b.out, .string b.nm] 62; simpa [Hid] using h
 have H : Hid (∀ w1, Below w.heap.size w w1 → _) := (fun w1 h1 => iahead a b ra wa rc wc ra2 wa2 rc2 wc2 (Nat.le_trans FA.out.1 (by omega)) (Nat.le_trans FB.out.2.2.1 (by omega)) w1 (TA.out.r.below h1) (TB.out.w.below h1))
 go_enter Tryz.func133, Tryz.ntmps133
 go_wp2_with fail
 refine (H.out _ HB0.out).mono ?_
 rintro e w1 ⟨rfl, hb1⟩
 have HB1 : Hid (Below w.heap.size w w1) := HB0.out.trans (hb1.mono HB0.out.size)
 have BA1 : Hid (Bx w1 w.heap.size [.int .i64 a.id, .int .i64 a.st, .int .i64 a.snap, .int .i64 a.cs, .slice ra a.rs.length rc, .slice wa a.ws.length wc, .bool a.out, .string a.nm]) := BA0.out.below hb1
 have BB1 : Hid (Bx w1 (w.heap.size + 1) [.int .i64 b.id, .int .i64 b.st, .int .i64 b.snap, .int .i64 b.cs, .slice ra2 b.rs.length rc2, .slice wa2 b.ws.length wc2, .bool b.out, .string b.nm]) := BB0.out.below hb1
 go_wp2
 go_ret
 exact ⟨rfl, HB1.out⟩

end Go.Proofs.YtmijppfppigjcaaGreat

namespace Go.Proofs.YtmijppfppigjcaaGreat
open Go.RowKit
open KM
attribute [local go_sem ↓] Go.wp_at_zero Go.wp_at_succ

theorem any_yes (P : Tx → Bool) (xs : List Ta) (k : Nat) (hk : k < xs.length) (h : P xs[k].t = true) : (txs xs).any P = true :=
 List.any_eq_true.2 ⟨_, List.mem_map.2 ⟨_, List.getElem_mem hk, rfl⟩, h⟩
def NoneOf (P : Tx → Bool) (xs : List Ta) (k : Nat) : Prop := ∀ j (hj : j < xs.length), j < k → P xs[j].t = false
theorem none_more {P : Tx → Bool} {xs : List Ta} {k : Nat} (h : NoneOf P xs k) (hk : k < xs.length) (h2 : P xs[k].t = false) : NoneOf P xs (k + 1) := fun j hj hjk => by
 by_cases e : j = k
 ·subst e; exact h2
 ·exact h j hj (by omega)
theorem any_none {P : Tx → Bool} {xs : List Ta} {k : Nat} (h : NoneOf P xs k) (hk : xs.length ≤ k) : (txs xs).any P = false := by
 rw [List.any_eq_false]
 intro x hx
 obtain ⟨y, hy, rfl⟩ := List.mem_map.1 hx
 obtain ⟨j, hj, rfl⟩ := List.getElem_of_mem hy
 simp [h j hj (by omega)]
def doneB (x : Tx) : Bool := decide (x.st = 3)
def outQ (t x : Tx) : Bool := doneB x && ahB t x
def outB (t : Tx) (l : List Tx) : Bool := l.any (outQ t)
end Go.Proofs.YtmijppfppigjcaaGreat

namespace Go.Proofs.YtmijppfppigjcaaGreat
open Go.RowKit
open KM
attribute [local go_sem ↓] Go.wp_at_zero Go.wp_at_succ

def RsD (xs : List Rg) : Prop := ∀ x ∈ xs, RgD x
theorem RsD.fit {xs : List Rg} (h : RsD xs) : RFit xs := fun x hx => ⟨by have := (h x hx).1.2; omega, by have := (h x hx).2.1.2; omega⟩

end Go.Proofs.YtmijppfppigjcaaGreat

namespace Go.Proofs.YtmijppfppigjcaaGreat
open Go.RowKit
open KM
attribute [local go_sem ↓] Go.wp_at_zero Go.wp_at_succ

end Go.Proofs.YtmijppfppigjcaaGreat

namespace Go.Proofs.YtmijppfppigjcaaGreat
open Go.RowKit
open KM
attribute [local go_sem ↓] Go.wp_at_zero Go.wp_at_succ

end Go.Proofs.YtmijppfppigjcaaGreat

namespace Go.Proofs.YtmijppfppigjcaaGreat
open Go.RowKit
open KM
attribute [local go_sem ↓] Go.wp_at_zero Go.wp_at_succ

set_option maxRecDepth 100000 in
set_option maxHeartbeats 2000000 in
theorem soutof (t : Tx) (ra wa : Option Addr) (rc wc : Nat) (xs : List Ta) (a : Option Addr) (c n : Nat) (hx : n = xs.length) (hn : n ≤ 100000000) (ft : TFit t) (fx : LFit (txs xs)) (w : World) (ht : TRow w t ra wa) (hp : TRows w a xs) :
  Calls Tryz.prog 52 #[.agg #[.int .i64 t.id, .int .i64 t.st, .int .i64 t.snap, .int .i64 t.cs, .slice ra t.rs.length rc, .slice wa t.ws.length wc, .bool t.out, .string t.nm], .slice a n c] w fun e w' => e = .returned (.bool (outB t (txs xs))) ∧ Below w.heap.size w w' := by
 have HT : Hid (TRow (w.alloc (.cells #[.int .i64 t.id, .int .i64 t.st, .int .i64 t.snap, .int .i64 t.cs, .slice ra t.rs.length rc, .slice wa t.ws.length wc, .bool t.out, .string t.nm] 62)) t ra wa) := ht.below ((belowRefl w).alloc (Nat.le_refl _) _)
 have HP : Hid (TRows (w.alloc (.cells #[.int .i64 t.id, .int .i64 t.st, .int .i64 t.snap, .int .i64 t.cs, .slice ra t.rs.length rc, .slice wa t.ws.length wc, .bool t.out, .string t.nm] 62)) a xs) := hp.below ((belowRefl w).alloc (Nat.le_refl _) _)
 have FT : Hid (TFit t) := ft
 have FX : Hid (LFit (txs xs)) := fx
 have HX : Hid (n = xs.length) := hx
 have HB0 : Hid (Below w.heap.size w (w.alloc (.cells #[.int .i64 t.id, .int .i64 t.st, .int .i64 t.snap, .int .i64 t.cs, .slice ra t.rs.length rc, .slice wa t.ws.length wc, .bool t.out, .string t.nm] 62))) := (belowRefl w).alloc (Nat.le_refl _) _
 have BT0 : Hid (Bx (w.alloc (.cells #[.int .i64 t.id, .int .i64 t.st, .int .i64 t.snap, .int .i64 t.cs, .slice ra t.rs.length rc, .slice wa t.ws.length wc, .bool t.out, .string t.nm] 62)) w.heap.size [.int .i64 t.id, .int .i64 t.st, .int .i64 t.snap, .int .i64 t.cs, .slice ra t.rs.length rc, .slice wa t.ws.length wc, .bool t.out, .string t.nm]) := Bx.new w [.int .i64 t.id, .int .i64 t.st, .int .i64 t.snap, .int .i64 t.cs, .slice ra t.rs.length rc, .slice wa t.ws.length wc, .bool t.out, .string t.nm] 62
 clear ht hp ft fx hx
 go_enter Tryz.func52, Tryz.ntmps52
 go_wp2
 go_loopw [5] (fun tk wr => ∃ k : Nat, k ≤ n ∧ tk = .int .i64 k ∧ Hid (NoneOf (outQ t) xs k) ∧ Hid (Below (w.alloc (.cells #[.int .i64 t.id, .int .i64 t.st, .int .i64 t.snap, .int .i64 t.cs, .slice ra t.rs.length rc, .slice wa t.ws.length wc, .bool t.out, .string t.nm] 62)).heap.size (w.alloc (.cells #[.int .i64 t.id, .int .i64 t.st, .int .i64 t.snap, .int .i64 t.cs, .slice ra t.rs.length rc, .slice wa t.ws.length wc, .bool t.out, .string t.nm] 62)) wr)) (fun tk _ => n - (intOf tk).toNat)
 case atStart => exact ⟨0, Nat.zero_le _, rfl, (fun j hj h => by omega), belowRefl _⟩
 case round =>
  obtain ⟨k, hk, rfl, HN, HB⟩ := hrel
  by_cases hlt : k < n
  ·have hlt' : (k : Int) < (n : Int) := by omega
   have h0 : (0 : Int) ≤ (k : Int) := by omega
   have hkx : k < xs.length := by rw [← HX.out]; exact hlt
   obtain ⟨b, o, rfl, hbl, hc, ht⟩ := (HP.out.below HB.out).cls k hkx
   have hfx : TFit xs[k].t := FX.out.2 _ (List.mem_map.2 ⟨_, List.getElem_mem hkx, rfl⟩)
   have HYes : Hid ((outQ t) xs[k].t = true → (outB t (txs xs)) = true) := fun h => any_yes _ xs k hkx h
   have HNo : Hid ((outQ t) xs[k].t = false → NoneOf (outQ t) xs (k + 1)) := fun h => none_more HN.out hkx h
   obtain ⟨x, hx⟩ : ∃ x, x = xs[k] := ⟨_, rfl⟩
   rw [← hx] at hc ht hfx HYes HNo
   have HXR : Hid (TRow wr x.t x.ra x.wa) := ht
   have FXX : Hid (TFit x.t) := hfx
   have BT : Hid (Bx wr w.heap.size [.int .i64 t.id, .int .i64 t.st, .int .i64 t.snap, .int .i64 t.cs, .slice ra t.rs.length rc, .slice wa t.ws.length wc, .bool t.out, .string t.nm]) := BT0.out.below HB.out
   have HTr : Hid (TRow wr t ra wa) := HT.out.below HB.out
   have HC := hide hc
   clear hx hkx ht hfx hc
   have HA : Hid (∀ w1, Below wr.heap.size wr w1 → _) := fun w1 h1 => sahead t x.t ra wa rc wc x.ra x.wa x.rc x.wc (Nat.le_trans FT.out.1 (by omega)) (Nat.le_trans FXX.out.2.2.1 (by omega)) w1 (HTr.out.r.below h1) (HXR.out.w.below h1)
   by_cases k3 : x.t.st = 3
   ·have k3' : decide (x.t.st = 3) = true := by simp [k3]
    have k3b : (x.t.st == 3) = true := by simp [k3]
    have E : Hid (outQ t x.t = ahB t x.t) := by show _ = _; simp [outQ, doneB, k3]
    clear k3
    cases hm : ahB t x.t
    ·rw [hm] at HA
     have HQ : Hid (outQ t x.t = false) := by show _ = _; rw [E.out, hm]
     clear hm
     go_wp2
     refine wp_region_held_drew (S := fun w' => w'.cell? ⟨b, o + k * 8, none⟩ = some (.int .i64 x.t.id) ∧ w'.cell? ⟨b, o + k * 8 + 1, none⟩ = some (.int .i64 x.t.st) ∧ w'.cell? ⟨b, o + k * 8 + 2, none⟩ = some (.int .i64 x.t.snap) ∧ w'.cell? ⟨b, o + k * 8 + 3, none⟩ = some (.int .i64 x.t.cs) ∧ w'.cell? ⟨b, o + k * 8 + 4, none⟩ = some (.slice x.ra x.t.rs.length x.rc) ∧ w'.cell? ⟨b, o + k * 8 + 5, none⟩ = some (.slice x.wa x.t.ws.length x.wc) ∧ w'.cell? ⟨b, o + k * 8 + 6, none⟩ = some (.bool x.t.out) ∧ w'.cell? ⟨b, o + k * 8 + 7, none⟩ = some (.string x.t.nm) ∧ w'.cell? ⟨w.heap.size, 0, none⟩ = some (.int .i64 t.id) ∧ w'.cell? ⟨w.heap.size, 1, none⟩ = some (.int .i64 t.st) ∧ w'.cell? ⟨w.heap.size, 2, none⟩ = some (.int .i64 t.snap) ∧ w'.cell? ⟨w.heap.size, 3, none⟩ = some (.int .i64 t.cs) ∧ w'.cell? ⟨w.heap.size, 4, none⟩ = some (.slice ra t.rs.length rc) ∧ w'.cell? ⟨w.heap.size, 5, none⟩ = some (.slice wa t.ws.length wc) ∧ w'.cell? ⟨w.heap.size, 6, none⟩ = some (.bool t.out) ∧ w'.cell? ⟨w.heap.size, 7, none⟩ = some (.string t.nm)) (by kernel_rfl) ⟨HC.out.c0, HC.out.c1, HC.out.c2, HC.out.c3, HC.out.c4, HC.out.c5, HC.out.c6, HC.out.c7, BT.out.c0, BT.out.c1, BT.out.c2, BT.out.c3, BT.out.c4, BT.out.c5, BT.out.c6, BT.out.c7⟩ (fun hHeld => ?_)
     (refine ti 0 ?_; simp only [Act.put, tA, tB, tD, tE, tF])
     (refine ti 1 ?_; simp only [Act.put, tA, tB, tC, tD, tE, tF])
     (refine ti 2 ?_; simp only [Act.put, tA, tB, tC, tD, tE, tF])
     (refine ti 3 ?_; simp only [Act.put, tA, tB, tC, tD, tE, tF])
     (refine ti 4 ?_; simp only [Act.put, tA, tB, tC, tD, tE, tF])
     (refine ti 5 ?_; simp only [Act.put, tA, tB, tC, tD, tE, tF])
     (refine ti 6 ?_; simp only [Act.put, tA, tB, tC, tD, tE, tF])
     (refine ti 7 ?_; simp only [Act.put, tA, tB, tC, tD, tE, tF])
     (refine ti 8 ?_; simp only [Act.put, tA, tB, tC, tD, tE, tF])
     (refine ti 9 ?_; simp only [Act.put, tA, tB, tC, tD, tE, tF])
     (refine ti 10 ?_; simp only [Act.put, tA, tB, tC, tD, tE, tF])
     (refine ti 11 ?_; simp only [Act.put, tA, tB, tC, tD, tE, tF])
     refine wpAnyH_ready (rs := [12]) (by kernel_rfl) (by simp) ?_
     refine AllReadyH.cons rfl (fun K hK => ?_) AllReadyH.nil
     go_simp
     go_wp2_with fail
     refine (HA.out _ (belowRefl wr).drew).mono ?_
     rintro e w2 ⟨rfl, hb2⟩
     have hbu := undrew hb2
     have BT2 := BT.out.below hbu
     have cb : ∀ o, w2.cell? ⟨b, o, none⟩ = wr.cell? ⟨b, o, none⟩ := fun o => hbu.cell (p := ⟨b, o, none⟩) hbl
     have HB2 : Hid (Below (w.alloc (.cells #[.int .i64 t.id, .int .i64 t.st, .int .i64 t.snap, .int .i64 t.cs, .slice ra t.rs.length rc, .slice wa t.ws.length wc, .bool t.out, .string t.nm] 62)).heap.size (w.alloc (.cells #[.int .i64 t.id, .int .i64 t.st, .int .i64 t.snap, .int .i64 t.cs, .slice ra t.rs.length rc, .slice wa t.ws.length wc, .bool t.out, .string t.nm] 62)) w2) := HB.out.trans (hbu.mono HB.out.size)
     go_wp2_with fail
     refine hK.out _ _ ⟨(cb _).trans HC.out.c0, (cb _).trans HC.out.c1, (cb _).trans HC.out.c2, (cb _).trans HC.out.c3, (cb _).trans HC.out.c4, (cb _).trans HC.out.c5, (cb _).trans HC.out.c6, (cb _).trans HC.out.c7, BT2.c0, BT2.c1, BT2.c2, BT2.c3, BT2.c4, BT2.c5, BT2.c6, BT2.c7⟩ (fun hHeld2 => ?_)
     clear hK K hb2 hbu BT2 cb
     (refine ti 13 ?_; simp only [Act.put, tA, tB, tC, tD, tE, tF])
     refine wpAnyH_done (by kernel_rfl) ?_ _
     go_wp2
     go_roundw
     case rel => exact ⟨k + 1, by omega, by go_num, HNo.out HQ.out, HB2⟩
     case measure => simp [intOf]; omega
    ·rw [hm] at HA
     have HQ : Hid (outQ t x.t = true) := by show _ = _; rw [E.out, hm]
     clear hm
     go_wp2
     refine wp_region_held_drew (S := fun w' => w'.cell? ⟨b, o + k * 8, none⟩ = some (.int .i64 x.t.id) ∧ w'.cell? ⟨b, o + k * 8 + 1, none⟩ = some (.int .i64 x.t.st) ∧ w'.cell? ⟨b, o + k * 8 + 2, none⟩ = some (.int .i64 x.t.snap) ∧ w'.cell? ⟨b, o + k * 8 + 3, none⟩ = some (.int .i64 x.t.cs) ∧ w'.cell? ⟨b, o + k * 8 + 4, none⟩ = some (.slice x.ra x.t.rs.length x.rc) ∧ w'.cell? ⟨b, o + k * 8 + 5, none⟩ = some (.slice x.wa x.t.ws.length x.wc) ∧ w'.cell? ⟨b, o + k * 8 + 6, none⟩ = some (.bool x.t.out) ∧ w'.cell? ⟨b, o + k * 8 + 7, none⟩ = some (.string x.t.nm) ∧ w'.cell? ⟨w.heap.size, 0, none⟩ = some (.int .i64 t.id) ∧ w'.cell? ⟨w.heap.size, 1, none⟩ = some (.int .i64 t.st) ∧ w'.cell? ⟨w.heap.size, 2, none⟩ = some (.int .i64 t.snap) ∧ w'.cell? ⟨w.heap.size, 3, none⟩ = some (.int .i64 t.cs) ∧ w'.cell? ⟨w.heap.size, 4, none⟩ = some (.slice ra t.rs.length rc) ∧ w'.cell? ⟨w.heap.size, 5, none⟩ = some (.slice wa t.ws.length wc) ∧ w'.cell? ⟨w.heap.size, 6, none⟩ = some (.bool t.out) ∧ w'.cell? ⟨w.heap.size, 7, none⟩ = some (.string t.nm)) (by kernel_rfl) ⟨HC.out.c0, HC.out.c1, HC.out.c2, HC.out.c3, HC.out.c4, HC.out.c5, HC.out.c6, HC.out.c7, BT.out.c0, BT.out.c1, BT.out.c2, BT.out.c3, BT.out.c4, BT.out.c5, BT.out.c6, BT.out.c7⟩ (fun hHeld => ?_)
     (refine ti 0 ?_; simp only [Act.put, tA, tB, tD, tE, tF])
     (refine ti 1 ?_; simp only [Act.put, tA, tB, tC, tD, tE, tF])
     (refine ti 2 ?_; simp only [Act.put, tA, tB, tC, tD, tE, tF])
     (refine ti 3 ?_; simp only [Act.put, tA, tB, tC, tD, tE, tF])
     (refine ti 4 ?_; simp only [Act.put, tA, tB, tC, tD, tE, tF])
     (refine ti 5 ?_; simp only [Act.put, tA, tB, tC, tD, tE, tF])
     (refine ti 6 ?_; simp only [Act.put, tA, tB, tC, tD, tE, tF])
     (refine ti 7 ?_; simp only [Act.put, tA, tB, tC, tD, tE, tF])
     (refine ti 8 ?_; simp only [Act.put, tA, tB, tC, tD, tE, tF])
     (refine ti 9 ?_; simp only [Act.put, tA, tB, tC, tD, tE, tF])
     (refine ti 10 ?_; simp only [Act.put, tA, tB, tC, tD, tE, tF])
     (refine ti 11 ?_; simp only [Act.put, tA, tB, tC, tD, tE, tF])
     refine wpAnyH_ready (rs := [12]) (by kernel_rfl) (by simp) ?_
     refine AllReadyH.cons rfl (fun K hK => ?_) AllReadyH.nil
     go_simp
     go_wp2_with fail
     refine (HA.out _ (belowRefl wr).drew).mono ?_
     rintro e w2 ⟨rfl, hb2⟩
     have hbu := undrew hb2
     have BT2 := BT.out.below hbu
     have cb : ∀ o, w2.cell? ⟨b, o, none⟩ = wr.cell? ⟨b, o, none⟩ := fun o => hbu.cell (p := ⟨b, o, none⟩) hbl
     have HB2 : Hid (Below (w.alloc (.cells #[.int .i64 t.id, .int .i64 t.st, .int .i64 t.snap, .int .i64 t.cs, .slice ra t.rs.length rc, .slice wa t.ws.length wc, .bool t.out, .string t.nm] 62)).heap.size (w.alloc (.cells #[.int .i64 t.id, .int .i64 t.st, .int .i64 t.snap, .int .i64 t.cs, .slice ra t.rs.length rc, .slice wa t.ws.length wc, .bool t.out, .string t.nm] 62)) w2) := HB.out.trans (hbu.mono HB.out.size)
     go_wp2_with fail
     refine hK.out _ _ ⟨(cb _).trans HC.out.c0, (cb _).trans HC.out.c1, (cb _).trans HC.out.c2, (cb _).trans HC.out.c3, (cb _).trans HC.out.c4, (cb _).trans HC.out.c5, (cb _).trans HC.out.c6, (cb _).trans HC.out.c7, BT2.c0, BT2.c1, BT2.c2, BT2.c3, BT2.c4, BT2.c5, BT2.c6, BT2.c7⟩ (fun hHeld2 => ?_)
     clear hK K hb2 hbu BT2 cb
     (refine ti 13 ?_; simp only [Act.put, tA, tB, tC, tD, tE, tF])
     refine wpAnyH_done (by kernel_rfl) ?_ _
     go_wp2
     go_ret
     exact ⟨ret_bool (HYes.out HQ.out).symm, HB0.out.trans (HB2.out.mono HB0.out.size)⟩
   ·have HQ : Hid (outQ t x.t = false) := by show _ = _; simp [outQ, doneB, k3]
    have k3b : (x.t.st == 3) = false := by simp [k3]
    clear k3
    have HB2 : Hid (Below (w.alloc (.cells #[.int .i64 t.id, .int .i64 t.st, .int .i64 t.snap, .int .i64 t.cs, .slice ra t.rs.length rc, .slice wa t.ws.length wc, .bool t.out, .string t.nm] 62)).heap.size (w.alloc (.cells #[.int .i64 t.id, .int .i64 t.st, .int .i64 t.snap, .int .i64 t.cs, .slice ra t.rs.length rc, .slice wa t.ws.length wc, .bool t.out, .string t.nm] 62)) wr.drew) := HB.out.drew
    go_wp2
    refine wp_region_held_drew (S := fun w' => w'.cell? ⟨b, o + k * 8, none⟩ = some (.int .i64 x.t.id) ∧ w'.cell? ⟨b, o + k * 8 + 1, none⟩ = some (.int .i64 x.t.st) ∧ w'.cell? ⟨b, o + k * 8 + 2, none⟩ = some (.int .i64 x.t.snap) ∧ w'.cell? ⟨b, o + k * 8 + 3, none⟩ = some (.int .i64 x.t.cs) ∧ w'.cell? ⟨b, o + k * 8 + 4, none⟩ = some (.slice x.ra x.t.rs.length x.rc) ∧ w'.cell? ⟨b, o + k * 8 + 5, none⟩ = some (.slice x.wa x.t.ws.length x.wc) ∧ w'.cell? ⟨b, o + k * 8 + 6, none⟩ = some (.bool x.t.out) ∧ w'.cell? ⟨b, o + k * 8 + 7, none⟩ = some (.string x.t.nm) ∧ w'.cell? ⟨w.heap.size, 0, none⟩ = some (.int .i64 t.id) ∧ w'.cell? ⟨w.heap.size, 1, none⟩ = some (.int .i64 t.st) ∧ w'.cell? ⟨w.heap.size, 2, none⟩ = some (.int .i64 t.snap) ∧ w'.cell? ⟨w.heap.size, 3, none⟩ = some (.int .i64 t.cs) ∧ w'.cell? ⟨w.heap.size, 4, none⟩ = some (.slice ra t.rs.length rc) ∧ w'.cell? ⟨w.heap.size, 5, none⟩ = some (.slice wa t.ws.length wc) ∧ w'.cell? ⟨w.heap.size, 6, none⟩ = some (.bool t.out) ∧ w'.cell? ⟨w.heap.size, 7, none⟩ = some (.string t.nm)) (by kernel_rfl) ⟨HC.out.c0, HC.out.c1, HC.out.c2, HC.out.c3, HC.out.c4, HC.out.c5, HC.out.c6, HC.out.c7, BT.out.c0, BT.out.c1, BT.out.c2, BT.out.c3, BT.out.c4, BT.out.c5, BT.out.c6, BT.out.c7⟩ (fun hHeld => ?_)
    (refine ti 0 ?_; simp only [Act.put, tA, tB, tD, tE, tF])
    (refine ti 1 ?_; simp only [Act.put, tA, tB, tC, tD, tE, tF])
    (refine ti 2 ?_; simp only [Act.put, tA, tB, tC, tD, tE, tF])
    (refine ti 3 ?_; simp only [Act.put, tA, tB, tC, tD, tE, tF])
    (refine ti 4 ?_; simp only [Act.put, tA, tB, tC, tD, tE, tF])
    (refine ti 5 ?_; simp only [Act.put, tA, tB, tC, tD, tE, tF])
    (refine ti 6 ?_; simp only [Act.put, tA, tB, tC, tD, tE, tF])
    (refine tu 7 ?_; simp only [Act.put, tA, tB, tC, tD, tE, tF])
    (refine tu 8 ?_; simp only [Act.put, tA, tB, tC, tD, tE, tF])
    (refine tu 9 ?_; simp only [Act.put, tA, tB, tC, tD, tE, tF])
    (refine tu 10 ?_; simp only [Act.put, tA, tB, tC, tD, tE, tF])
    (refine tu 11 ?_; simp only [Act.put, tA, tB, tC, tD, tE, tF])
    (refine tu 12 ?_; simp only [Act.put, tA, tB, tC, tD, tE, tF])
    (refine ti 13 ?_; simp only [Act.put, tA, tB, tC, tD, tE, tF])
    refine wpAnyH_done (by kernel_rfl) ?_ _
    go_wp2
    go_roundw
    case rel => exact ⟨k + 1, by omega, by go_num, HNo.out HQ.out, HB2⟩
    case measure => simp [intOf]; omega
  ·have hd : ¬ (k : Int) < (n : Int) := by omega
   have HR : Hid ((outB t (txs xs)) = false) := any_none HN.out (by rw [← HX.out]; omega)
   go_wp2
   go_ret
   exact ⟨ret_bool HR.out.symm, HB0.out.trans (HB.out.mono HB0.out.size)⟩

end Go.Proofs.YtmijppfppigjcaaGreat

namespace Go.Proofs.YtmijppfppigjcaaGreat
open Go.RowKit
open KM
attribute [local go_sem ↓] Go.wp_at_zero Go.wp_at_succ

set_option maxRecDepth 100000 in
set_option maxHeartbeats 2000000 in
theorem idxL (xs : List Ta) (a : Option Addr) (c n : Nat) (hx : n = xs.length) (hn : n ≤ 100000000) (P : Tx → Bool) (b1 b2 b3 : Nat) (w : World) (hp : TRows w a xs) (hc : (∀ x ∈ xs, ∀ w1, Below w.heap.size w w1 → Calls Tryz.prog 154 #[.agg #[.int .i64 x.t.id, .int .i64 x.t.st, .int .i64 x.t.snap, .int .i64 x.t.cs, .slice x.ra x.t.rs.length x.rc, .slice x.wa x.t.ws.length x.wc, .bool x.t.out, .string x.t.nm], .pointer (some ⟨b1, 0, none⟩), .pointer (some ⟨b2, 0, none⟩), .pointer (some ⟨b3, 0, none⟩)] w1 fun e w' => e = .returned (.bool (P x.t)) ∧ Below w1.heap.size w1 w')) :
  Calls Tryz.prog 159 #[.slice a n c, .func (.func 154) #[] #[.pointer (some ⟨b1, 0, none⟩), .pointer (some ⟨b2, 0, none⟩), .pointer (some ⟨b3, 0, none⟩)]] w fun e w' => (∃ r : Int, e = .returned (.int .i64 r) ∧ decide (0 ≤ r) = (txs xs).any P) ∧ Below w.heap.size w w' := by
 have HP : Hid (TRows w a xs) := hp
 have HC : Hid (∀ x ∈ xs, ∀ w1, Below w.heap.size w w1 → Calls Tryz.prog 154 #[.agg #[.int .i64 x.t.id, .int .i64 x.t.st, .int .i64 x.t.snap, .int .i64 x.t.cs, .slice x.ra x.t.rs.length x.rc, .slice x.wa x.t.ws.length x.wc, .bool x.t.out, .string x.t.nm], .pointer (some ⟨b1, 0, none⟩), .pointer (some ⟨b2, 0, none⟩), .pointer (some ⟨b3, 0, none⟩)] w1 fun e w' => e = .returned (.bool (P x.t)) ∧ Below w1.heap.size w1 w') := hc
 have HX : Hid (n = xs.length) := hx
 clear hp hc hx
 go_enter Tryz.func159, Tryz.ntmps159
 go_wp2
 go_loopw [5, 8] (fun _ t wr => ∃ k : Nat, k ≤ n ∧ t = .int .i64 k ∧ Hid (NoneOf P xs k) ∧ Hid (Below w.heap.size w wr)) (fun _ t _ => n - (intOf t).toNat)
 case atStart => exact ⟨0, Nat.zero_le _, rfl, (fun j hj h => by omega), belowRefl w⟩
 case round =>
  obtain ⟨k, hk, rfl, HN, HB⟩ := hrel
  by_cases hlt : k < n
  ·have hlt' : (k : Int) < (n : Int) := by omega
   have h0 : (0 : Int) ≤ (k : Int) := by omega
   have hkx : k < xs.length := by rw [← HX.out]; exact hlt
   obtain ⟨b, o, rfl, hbl, hc, -⟩ := (HP.out.below HB.out).cls k hkx
   have HCx := hide (HC.out _ (List.getElem_mem hkx) wr HB.out)
   have HYes : Hid (P xs[k].t = true → (txs xs).any P = true) := fun h => any_yes _ xs k hkx h
   have HNo : Hid (P xs[k].t = false → NoneOf P xs (k + 1)) := fun h => none_more HN.out hkx h
   obtain ⟨x, hx⟩ : ∃ x, x = xs[k] := ⟨_, rfl⟩
   rw [← hx] at hc HCx HYes HNo
   clear hx hkx
   have r0 := hc.c0
   have r1 := hc.c1
   have r2 := hc.c2
   have r3 := hc.c3
   have r4 := hc.c4
   have r5 := hc.c5
   have r6 := hc.c6
   have r7 := hc.c7
   clear hc
   go_wp2_with fail
   refine HCx.out.mono ?_
   rintro e w2 ⟨rfl, hb2⟩
   have HB2 : Hid (Below w.heap.size w w2) := HB.out.trans (hb2.mono HB.out.size)
   clear hb2 r0 r1 r2 r3 r4 r5 r6 r7
   cases hq : P x.t
   ·have HN2 := hide (HNo.out hq)
    clear hq
    go_wp2
    go_roundw
    case rel => exact ⟨k + 1, by omega, by go_num, HN2, HB2⟩
    case measure => simp [intOf]; omega
   ·have HY := hide (HYes.out hq)
    clear hq
    go_wp2
    go_ret
    exact ⟨⟨_, rfl, by rw [HY.out]; simp⟩, HB2.out⟩
  ·have hd : ¬ (k : Int) < (n : Int) := by omega
   have HR : Hid ((txs xs).any P = false) := any_none HN.out (by rw [← HX.out]; omega)
   go_wp2
   go_ret
   exact ⟨⟨_, rfl, by rw [HR.out]; decide⟩, HB.out⟩

set_option maxRecDepth 100000 in
set_option maxHeartbeats 2000000 in
theorem hasL (xs : List Ta) (a : Option Addr) (c n : Nat) (hx : n = xs.length) (hn : n ≤ 100000000) (P : Tx → Bool) (b1 b2 b3 : Nat) (w : World) (hp : TRows w a xs) (hc : (∀ x ∈ xs, ∀ w1, Below w.heap.size w w1 → Calls Tryz.prog 154 #[.agg #[.int .i64 x.t.id, .int .i64 x.t.st, .int .i64 x.t.snap, .int .i64 x.t.cs, .slice x.ra x.t.rs.length x.rc, .slice x.wa x.t.ws.length x.wc, .bool x.t.out, .string x.t.nm], .pointer (some ⟨b1, 0, none⟩), .pointer (some ⟨b2, 0, none⟩), .pointer (some ⟨b3, 0, none⟩)] w1 fun e w' => e = .returned (.bool (P x.t)) ∧ Below w1.heap.size w1 w')) :
  Calls Tryz.prog 153 #[.slice a n c, .func (.func 154) #[] #[.pointer (some ⟨b1, 0, none⟩), .pointer (some ⟨b2, 0, none⟩), .pointer (some ⟨b3, 0, none⟩)]] w fun e w' => e = .returned (.bool ((txs xs).any P)) ∧ Below w.heap.size w w' := by
 have H := hide (idxL xs a c n hx hn P b1 b2 b3 w hp hc)
 clear hx hp hc
 go_enter Tryz.func153, Tryz.ntmps153
 go_wp2_with fail
 refine H.out.mono ?_
 rintro e w1 ⟨⟨r, rfl, hr⟩, hb⟩
 have HR : Hid (decide (0 ≤ r) = (txs xs).any P) := hr
 clear hr
 go_wp2
 go_ret
 exact ⟨ret_bool HR.out, hb⟩

end Go.Proofs.YtmijppfppigjcaaGreat

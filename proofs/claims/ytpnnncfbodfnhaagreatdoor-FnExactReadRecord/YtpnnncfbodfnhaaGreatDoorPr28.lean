/- Marks of lists of those that look and change. -/
import Derived.Test.YtpnnncfbodfnhaaGreatDoorPr20
import Derived.Deep.RegionHeld3
import Derived.Test.YtpnnncfbodfnhaaGreatDoorPr05
import Derived.Test.YtpnnncfbodfnhaaGreatDoorPr02
import Derived.Test.YtpnnncfbodfnhaaGreatDoorPr06
import Derived.Test.YtpnnncfbodfnhaaGreatDoorProg
import Derived.WalkKit
import Derived.Test.YtpnnncfbodfnhaaGreatDoorPr01
import Derived.WalkSpells
import Derived.WalkLawsBesides
import Derived.Deep.QuietTactic
import Derived.BigQuiet
import Derived.Deep.DrawnRows
import Derived.Deep.AppendLies
import Derived.Test.YtpnnncfbodfnhaaGreatDoorPr04
import Derived.Sort.OwnSorted
import Derived.Lib.RowBridge
import Derived.Test.YtpnnncfbodfnhaaGreatDoorPr08
import Derived.Deep.Cut
import Derived.Deep.CutRange
import Derived.Test.YtpnnncfbodfnhaaGreatDoorPr27
import Derived.Laws.EntriesVeiled
namespace Go.Proofs.YtpnnncfbodfnhaaGreatDoor
open Go.RowKit
open KM
attribute [local go_sem ↓] Go.wp_at_zero Go.wp_at_succ

theorem Lies.setO {α : Type} {E : Enc α} {e : TypeId} {w : World} {lo hi : Nat} {v : Value} {xs : List α} (h : Lies E e w lo hi v xs) {a : Addr} (ha : a.block < lo ∨ hi ≤ a.block) (u : Value) : Lies E e (w.setCell a u) lo hi v xs :=
 ⟨ownsRow_setCell_other h.own (fun e => by have := h.lo _ e; omega) u, h.up⟩
theorem TLie.setO {w : World} {lo hi : Nat} {t : Tx} {ra wa : Option Addr} {rc wc : Nat} (h : TLie w lo hi t ra rc wa wc) {a : Addr} (ha : a.block < lo ∨ hi ≤ a.block) (u : Value) : TLie (w.setCell a u) lo hi t ra rc wa wc := by
 obtain ⟨m, p, q, h1, h2⟩ := h.ex
 exact ⟨m, p, q, h1.setO (by omega) u, h2.setO (by omega) u⟩
theorem Zs.setO {w : World} {v : Value} {a : Addr} (hv : v.ownBlock = some a.block) (u : Value) : ∀ {ys : List Ta} {lo hi : Nat}, Zs w v lo hi ys → Zs (w.setCell a u) v lo hi ys
 | [], _, _, h => h
 | _ :: _, _, _, ⟨p, q, h1, h2, h3, h4, h5⟩ => ⟨p, q, h1, h2, h3.setO (h4 _ hv) u, h4, h5.setO hv u⟩
def wt (y : Ta) : Nat := 6 + 2 * y.t.rs.length + 3 * y.t.ws.length
def ouQ (k : Nat) : Bool := (k : Int) % 3 == 0
theorem ouQ_eq (k : Nat) : ((k : Int) % 3 == 0) = ouQ k := rfl
def wtL : List Ta → Nat
 | [] => 0
 | y :: ys => wt y + wtL ys
def mkTa (y : Ta) (k : Nat) : Ta := ⟨⟨(k : Int), ((k + 1 : Nat) : Int), ((k + 2 : Nat) : Int), ((k + 3 : Nat) : Int), mkR (k + 4) y.t.rs.length, mkW (k + 4 + 2 * y.t.rs.length) y.t.ws.length, ouQ (k + 4 + 2 * y.t.rs.length + 3 * y.t.ws.length), mkB (k + 4 + 2 * y.t.rs.length + 3 * y.t.ws.length + 1)⟩, y.ra, y.rc, y.wa, y.wc⟩
def mkL : List Ta → Nat → List Ta
 | [], _ => []
 | y :: ys, k => mkTa y k :: mkL ys (k + wt y)
theorem mkL_len : ∀ (ys : List Ta) (k : Nat), (mkL ys k).length = ys.length
 | [], _ => rfl
 | _ :: ys, k => by simp [mkL, mkL_len ys]
theorem wtL_app : ∀ (xs ys : List Ta), wtL (xs ++ ys) = wtL xs + wtL ys
 | [], ys => by simp [wtL]
 | x :: xs, ys => by simp [wtL, wtL_app xs ys]; omega
theorem mkL_app : ∀ (xs ys : List Ta) (k : Nat), mkL (xs ++ ys) k = mkL xs k ++ mkL ys (k + wtL xs)
 | [], ys, k => by simp [mkL, wtL]
 | x :: xs, ys, k => by simp [mkL, wtL, mkL_app xs ys, Nat.add_assoc]
theorem take_next {α : Type} (xs : List α) (k : Nat) (h : k < xs.length) : xs.take (k + 1) = xs.take k ++ [xs[k]] := by rw [List.take_add_one, List.getElem?_eq_getElem h]; rfl
theorem wtL_next (ys : List Ta) (k : Nat) (h : k < ys.length) : wtL (ys.take (k + 1)) = wtL (ys.take k) + wt ys[k] := by rw [take_next ys k h, wtL_app]; simp [wtL]
theorem mkL_next (ys : List Ta) (k k0 : Nat) (h : k < ys.length) : mkL (ys.take (k + 1)) k0 = mkL (ys.take k) k0 ++ [mkTa ys[k] (k0 + wtL (ys.take k))] := by rw [take_next ys k h, mkL_app]; simp [mkL]
theorem wtL_fit : ∀ (ys : List Ta), (∀ y ∈ ys, TFit y.t) → wtL ys ≤ ys.length * 5242886
 | [], _ => by simp [wtL]
 | y :: ys, h => by
  have h1 := wtL_fit ys (fun z hz => h z (List.mem_cons_of_mem _ hz))
  have h2 := h y (List.mem_cons_self ..)
  have h3 : wt y ≤ 5242886 := by unfold wt; have := h2.1; have := h2.2.2.1; omega
  simp only [wtL, List.length_cons, Nat.succ_mul]
  omega
theorem wtL_take (ys : List Ta) (k : Nat) : wtL (ys.take k) ≤ wtL ys := by
 have e : wtL ys = wtL (ys.take k) + wtL (ys.drop k) := by rw [← wtL_app, List.take_append_drop]
 omega
theorem cells_put (ys ms : List Ta) (k : Nat) (hm : ms.length = k) (y : Ta) (xs : List Value)
  (h1 : ∀ j, j < k * 8 → xs[j]? = (encT.cells ms)[j]?) (h2 : ∀ j, (k + 1) * 8 ≤ j → xs[j]? = (encT.cells ys)[j]?) (h3 : ∀ i, i < 8 → xs[k * 8 + i]? = (encT.enc y)[i]?) :
  (∀ j, j < (k + 1) * 8 → xs[j]? = (encT.cells (ms ++ [y]))[j]?) ∧ (∀ j, (k + 1) * 8 ≤ j → xs[j]? = (encT.cells ys)[j]?) := by
 refine ⟨fun j hj => ?_, h2⟩
 rw [encT.cells_app]
 by_cases hlt : j < k * 8
 ·rw [List.getElem?_append_left (by rw [encT.cells_len, hm]; exact hlt)]
  exact h1 j hlt
 ·rw [List.getElem?_append_right (by rw [encT.cells_len, hm]; show k * 8 ≤ j; omega), encT.cells_len, hm]
  have e : encT.cells [y] = encT.enc y := by simp [Enc.cells]
  rw [e]
  have h4 := h3 (j - k * 8) (by omega)
  have e2 : k * 8 + (j - k * 8) = j := by omega
  rw [e2] at h4
  exact h4

theorem ownsZn {w w' : World} {base e size n l h : Nat} {v : Value} {xs : List Value} (k : w.ownsRow base e size v n xs) (hz : Zn l h w w') (hne : ∀ g, v.ownBlock = some g → g < l ∨ h ≤ g) : w'.ownsRow base e size v n xs := by
 obtain ⟨h1, h2⟩ := k
 refine ⟨h1, ?_⟩
 rcases h2 with h2 | ⟨g, cap, cur, hv, hg, hh, r⟩
 ·exact Or.inl h2
 ·refine Or.inr ⟨g, cap, cur, hv, hg, ?_, r⟩
  have hlt : g < w.heap.size := (Array.getElem?_eq_some_iff.1 hh).1
  rw [hz.block g hlt (by have := hne g (by rw [hv]; rfl); omega)]
  exact hh
theorem Zn.mono {l h l' h' : Nat} {w w' : World} (k : Zn l h w w') (h1 : l' ≤ l) (h2 : h ≤ h') : Zn l' h' w w' := ⟨k.os, k.tape, k.output, k.size, fun j hj hn => k.block j hj (by omega)⟩

set_option maxRecDepth 100000 in
set_option maxHeartbeats 8000000 in
theorem markL (ys : List Ta) (a : Option Addr) (c n lo hi k0 : Nat) (hn : n = ys.length) (hnn : n ≤ 1048576) (hf : ∀ y ∈ ys, TFit y.t) (hk0 : 0 < k0) (hk1 : k0 ≤ 10000000000000000) (w : World) (h : LLie w lo hi (.slice a n c) ys) :
  Calls Tryz.prog 85 #[.slice a n c, .int .i64 k0] w fun e w' => e = .returned (.int .i64 ((k0 + wtL ys : Nat) : Int)) ∧ LLie w' lo hi (.slice a n c) (mkL ys k0) ∧ Zn lo hi w w' := by
 have HN : Hid (n = ys.length) := hn
 have HF : Hid (∀ y ∈ ys, TFit y.t) := hf
 have HWB : Hid (wtL ys ≤ 5600000000000) := by show _ ≤ _; have h1 := wtL_fit ys hf; have h2 : ys.length * 5242886 ≤ 1048576 * 5242886 := Nat.mul_le_mul_right _ (by omega); omega
 have HU : Hid (∀ g, (Value.slice a n c).ownBlock = some g → lo ≤ g ∧ g < hi) := h.own.lo
 have HO : Hid (w.ownsRow lo 38 8 (.slice a n c) n (encT.cells ys)) := by have h1 := h.own.own; unfold GOwn at h1; rw [← hn] at h1; exact h1
 have HZ : Hid (Zs w (.slice a n c) lo hi ys) := h.zs
 clear h hn hf
 go_enter Tryz.func85, Tryz.ntmps85
 go_wp2
 go_loopw [1, 5] (fun tk t wr => ∃ (k z m : Nat) (xs : List Value), k ≤ n ∧ t = .int .i64 k ∧ tk = .int .i64 z ∧ Hid (z = k0 + wtL (ys.take k)) ∧ Hid (wr.ownsRow lo 38 8 (.slice a n c) n xs) ∧ Hid (∀ j, j < k * 8 → xs[j]? = (encT.cells (mkL (ys.take k) k0))[j]?) ∧ Hid (∀ j, k * 8 ≤ j → xs[j]? = (encT.cells ys)[j]?) ∧ Hid (Zs wr (.slice a n c) lo m (mkL (ys.take k) k0)) ∧ Hid (Zs wr (.slice a n c) m hi (ys.drop k)) ∧ Hid (Zn lo hi w wr)) (fun _ t _ => n - (intOf t).toNat)
 case atStart => exact ⟨0, k0, lo, _, Nat.zero_le _, rfl, rfl, rfl, HO, (fun j hj => by omega), (fun j hj => rfl), (show lo ≤ lo from Nat.le_refl _), HZ, Zn.ofBelow _ _ (belowRefl w)⟩
 case round =>
  clear HO HZ
  obtain ⟨k, q0, m, xs, hk, rfl, rfl, HQ, HX, HA, HD, ZL, ZR, ZW⟩ := hrel
  by_cases hlt : k < n
  ·have hlt' : (k : Int) < (n : Int) := by omega
   have h0 : (0 : Int) ≤ (k : Int) := by omega
   have hky : k < ys.length := by rw [← HN.out]; exact hlt
   obtain ⟨g, rfl, hbg, hgl⟩ := own_form HX.out (by omega)
   have hgu := HU.out g rfl
   have hlen := HX.out.1
   have hq0 : 0 < q0 := by have := HQ.out; omega
   have hq1 : q0 ≤ 20000000000000000 := by have := HQ.out; have := wtL_take ys k; have := HWB.out; omega
   have HNX : Hid (q0 + wt ys[k] = k0 + wtL (ys.take (k + 1))) := by show _ = _; rw [HQ.out, wtL_next ys k hky]; omega
   have HMX : Hid (mkL (ys.take (k + 1)) k0 = mkL (ys.take k) k0 ++ [mkTa ys[k] q0]) := by show _ = _; rw [mkL_next ys k k0 hky, HQ.out]
   have HML : Hid ((mkL (ys.take k) k0).length = k) := by show _ = _; rw [mkL_len, List.length_take]; omega
   have hfx := HF.out _ (List.getElem_mem hky)
   have hzr := ZR.out
   rw [List.drop_eq_getElem_cons hky] at hzr
   obtain ⟨zp, zq, hmp, hpq, hT, hAv, hrest⟩ := hzr
   have hav := hAv g rfl
   have HCX : Hid (∀ i, i < 8 → xs[k * 8 + i]? = (encT.enc ys[k])[i]?) := fun i hi => by
    rw [HD.out (k * 8 + i) (by omega)]
    exact encT.cells_at ys k hky i hi
   obtain ⟨x, hx⟩ : ∃ x, x = ys[k] := ⟨_, rfl⟩
   rw [← hx] at HNX HMX hfx hT HCX
   clear hx
   have hr8 : x.t.rs.length ≤ 1048576 := hfx.1
   have hw8 : x.t.ws.length ≤ 1048576 := hfx.2.2.1
   obtain ⟨zm, hpm, hmq, hR, hW⟩ := hT.ex
   have hlm : lo ≤ m := ZL.out.le
   have hqh : zq ≤ hi := hrest.le
   have HAV : Hid (Av (Value.slice (some ⟨g, 0, none⟩) n c) zp zq) := hAv
   have OW0 := hide HX.out
   have GOW0 : Hid (wr.grownBy wr (some g)) := grown_refl _ _
   have cq0 : wr.cell? ⟨g, k * 8, none⟩ = some (xs[k * 8]'(by omega)) := by rw [World.ownsRow.cellAt OW0.out (k * 8) (by omega)]; simp
   have cf0 : wr.frozen? ⟨g, k * 8, none⟩ = false := World.ownsRow.frozenAt OW0.out (k * 8)
   have st := World.ownsRow.stored OW0.out (k * 8) (.int .i64 (q0 : Int))
   have OW1 := hide st.1
   have GOW1 : Hid (wr.grownBy (wr.setCell ⟨g, k * 8, none⟩ (.int .i64 (q0 : Int))) (some g)) := grown_trans GOW0.out st.2
   clear st
   have cq1 : wr.cell? ⟨g, k * 8 + 1, none⟩ = some (xs[k * 8 + 1]'(by omega)) := by rw [World.ownsRow.cellAt OW0.out (k * 8 + 1) (by omega)]; simp
   have cf1 : wr.frozen? ⟨g, k * 8 + 1, none⟩ = false := World.ownsRow.frozenAt OW0.out (k * 8 + 1)
   have st := World.ownsRow.stored OW1.out (k * 8 + 1) (.int .i64 ((q0 : Int) + 1))
   have OW2 := hide st.1
   have GOW2 : Hid (wr.grownBy ((wr.setCell ⟨g, k * 8, none⟩ (.int .i64 (q0 : Int))).setCell ⟨g, k * 8 + 1, none⟩ (.int .i64 ((q0 : Int) + 1))) (some g)) := grown_trans GOW1.out st.2
   clear st
   have cq2 : wr.cell? ⟨g, k * 8 + 2, none⟩ = some (xs[k * 8 + 2]'(by omega)) := by rw [World.ownsRow.cellAt OW0.out (k * 8 + 2) (by omega)]; simp
   have cf2 : wr.frozen? ⟨g, k * 8 + 2, none⟩ = false := World.ownsRow.frozenAt OW0.out (k * 8 + 2)
   have st := World.ownsRow.stored OW2.out (k * 8 + 2) (.int .i64 ((q0 : Int) + 1 + 1))
   have OW3 := hide st.1
   have GOW3 : Hid (wr.grownBy (((wr.setCell ⟨g, k * 8, none⟩ (.int .i64 (q0 : Int))).setCell ⟨g, k * 8 + 1, none⟩ (.int .i64 ((q0 : Int) + 1))).setCell ⟨g, k * 8 + 2, none⟩ (.int .i64 ((q0 : Int) + 1 + 1))) (some g)) := grown_trans GOW2.out st.2
   clear st
   have cq3 : wr.cell? ⟨g, k * 8 + 3, none⟩ = some (xs[k * 8 + 3]'(by omega)) := by rw [World.ownsRow.cellAt OW0.out (k * 8 + 3) (by omega)]; simp
   have cf3 : wr.frozen? ⟨g, k * 8 + 3, none⟩ = false := World.ownsRow.frozenAt OW0.out (k * 8 + 3)
   have st := World.ownsRow.stored OW3.out (k * 8 + 3) (.int .i64 ((q0 : Int) + 1 + 1 + 1))
   have OW4 := hide st.1
   have GOW4 : Hid (wr.grownBy ((((wr.setCell ⟨g, k * 8, none⟩ (.int .i64 (q0 : Int))).setCell ⟨g, k * 8 + 1, none⟩ (.int .i64 ((q0 : Int) + 1))).setCell ⟨g, k * 8 + 2, none⟩ (.int .i64 ((q0 : Int) + 1 + 1))).setCell ⟨g, k * 8 + 3, none⟩ (.int .i64 ((q0 : Int) + 1 + 1 + 1))) (some g)) := grown_trans GOW3.out st.2
   clear st
   have HZ4 : Hid (Zn lo hi wr ((((wr.setCell ⟨g, k * 8, none⟩ (.int .i64 (q0 : Int))).setCell ⟨g, k * 8 + 1, none⟩ (.int .i64 ((q0 : Int) + 1))).setCell ⟨g, k * 8 + 2, none⟩ (.int .i64 ((q0 : Int) + 1 + 1))).setCell ⟨g, k * 8 + 3, none⟩ (.int .i64 ((q0 : Int) + 1 + 1 + 1)))) := Zn.ofGrown GOW4.out (fun g' e => by cases e; exact hgu)
   have ZL4 : Hid (Zs ((((wr.setCell ⟨g, k * 8, none⟩ (.int .i64 (q0 : Int))).setCell ⟨g, k * 8 + 1, none⟩ (.int .i64 ((q0 : Int) + 1))).setCell ⟨g, k * 8 + 2, none⟩ (.int .i64 ((q0 : Int) + 1 + 1))).setCell ⟨g, k * 8 + 3, none⟩ (.int .i64 ((q0 : Int) + 1 + 1 + 1))) (Value.slice (some ⟨g, 0, none⟩) n c) lo m (mkL (ys.take k) k0)) := (((ZL.out.setO (a := ⟨g, k * 8, none⟩) rfl _).setO (a := ⟨g, k * 8 + 1, none⟩) rfl _).setO (a := ⟨g, k * 8 + 2, none⟩) rfl _).setO (a := ⟨g, k * 8 + 3, none⟩) rfl _
   have ZR4 : Hid (Zs ((((wr.setCell ⟨g, k * 8, none⟩ (.int .i64 (q0 : Int))).setCell ⟨g, k * 8 + 1, none⟩ (.int .i64 ((q0 : Int) + 1))).setCell ⟨g, k * 8 + 2, none⟩ (.int .i64 ((q0 : Int) + 1 + 1))).setCell ⟨g, k * 8 + 3, none⟩ (.int .i64 ((q0 : Int) + 1 + 1 + 1))) (Value.slice (some ⟨g, 0, none⟩) n c) zq hi (ys.drop (k + 1))) := (((hrest.setO (a := ⟨g, k * 8, none⟩) rfl _).setO (a := ⟨g, k * 8 + 1, none⟩) rfl _).setO (a := ⟨g, k * 8 + 2, none⟩) rfl _).setO (a := ⟨g, k * 8 + 3, none⟩) rfl _
   have R4 : Hid (Lies encR 109 ((((wr.setCell ⟨g, k * 8, none⟩ (.int .i64 (q0 : Int))).setCell ⟨g, k * 8 + 1, none⟩ (.int .i64 ((q0 : Int) + 1))).setCell ⟨g, k * 8 + 2, none⟩ (.int .i64 ((q0 : Int) + 1 + 1))).setCell ⟨g, k * 8 + 3, none⟩ (.int .i64 ((q0 : Int) + 1 + 1 + 1))) zp zm (.slice x.ra x.t.rs.length x.rc) x.t.rs) := (((hR.setO (a := ⟨g, k * 8, none⟩) (by show g < zp ∨ zm ≤ g; omega) _).setO (a := ⟨g, k * 8 + 1, none⟩) (by show g < zp ∨ zm ≤ g; omega) _).setO (a := ⟨g, k * 8 + 2, none⟩) (by show g < zp ∨ zm ≤ g; omega) _).setO (a := ⟨g, k * 8 + 3, none⟩) (by show g < zp ∨ zm ≤ g; omega) _
   have W4 : Hid (Lies encW 111 ((((wr.setCell ⟨g, k * 8, none⟩ (.int .i64 (q0 : Int))).setCell ⟨g, k * 8 + 1, none⟩ (.int .i64 ((q0 : Int) + 1))).setCell ⟨g, k * 8 + 2, none⟩ (.int .i64 ((q0 : Int) + 1 + 1))).setCell ⟨g, k * 8 + 3, none⟩ (.int .i64 ((q0 : Int) + 1 + 1 + 1))) zm zq (.slice x.wa x.t.ws.length x.wc) x.t.ws) := (((hW.setO (a := ⟨g, k * 8, none⟩) (by show g < zm ∨ zq ≤ g; omega) _).setO (a := ⟨g, k * 8 + 1, none⟩) (by show g < zm ∨ zq ≤ g; omega) _).setO (a := ⟨g, k * 8 + 2, none⟩) (by show g < zm ∨ zq ≤ g; omega) _).setO (a := ⟨g, k * 8 + 3, none⟩) (by show g < zm ∨ zq ≤ g; omega) _
   have HX4 := hide OW4.out
   obtain ⟨xs4, hxs4⟩ : ∃ xs4, xs4 = ((((xs.set (k * 8) (.int .i64 (q0 : Int))).set (k * 8 + 1) (.int .i64 ((q0 : Int) + 1))).set (k * 8 + 2) (.int .i64 ((q0 : Int) + 1 + 1))).set (k * 8 + 3) (.int .i64 ((q0 : Int) + 1 + 1 + 1))) := ⟨_, rfl⟩
   rw [← hxs4] at HX4
   have HL4 : Hid (xs4 = ((((xs.set (k * 8) (.int .i64 (q0 : Int))).set (k * 8 + 1) (.int .i64 ((q0 : Int) + 1))).set (k * 8 + 2) (.int .i64 ((q0 : Int) + 1 + 1))).set (k * 8 + 3) (.int .i64 ((q0 : Int) + 1 + 1 + 1)))) := hxs4
   clear hxs4 hT hAv hrest hR hW ZL ZR OW1 OW2 OW3 OW4 GOW1 GOW2 GOW3 GOW4 GOW0 OW0
   go_upto_region 12 with fail
   clear cq0 cq1 cq2 cq3 cf0 cf1 cf2 cf3
   generalize ((((wr.setCell ⟨g, k * 8, none⟩ (.int .i64 (q0 : Int))).setCell ⟨g, k * 8 + 1, none⟩ (.int .i64 ((q0 : Int) + 1))).setCell ⟨g, k * 8 + 2, none⟩ (.int .i64 ((q0 : Int) + 1 + 1))).setCell ⟨g, k * 8 + 3, none⟩ (.int .i64 ((q0 : Int) + 1 + 1 + 1))) = w4 at *
   have hl4 := HX4.out.1
   have r4 : w4.cell? ⟨g, k * 8 + 4, none⟩ = some (.slice x.ra x.t.rs.length x.rc) := by
    rw [World.ownsRow.cellAt HX4.out (k * 8 + 4) (by omega), HL4.out, List.getElem?_set_ne (by omega), List.getElem?_set_ne (by omega), List.getElem?_set_ne (by omega), List.getElem?_set_ne (by omega), HCX.out 4 (by omega)]
    rfl
   have E4 : Hid ((q0 : Int) + 1 + 1 + 1 + 1 = ((q0 + 4 : Nat) : Int)) := by show _ = _; omega
   go_wp2_with fail
   rw [E4.out]
   refine (markR x.t.rs.length (q0 + 4) x.ra x.rc zp _ (by omega) (by omega) (by omega) _ R4.out.own).mono ?_
   rintro e w5 ⟨rfl, ho5, hg5⟩
   have hz5 : Zn zp zm w4 w5 := Zn.ofGrown hg5 (fun g' e => R4.out.lo g' e)
   have HX5 := hide (ownsZn HX4.out hz5 (fun g' e => by cases e; show g < zp ∨ zm ≤ g; omega))
   have ZL5 := hide (ZL4.out.zn hz5 (Or.inl hmp))
   have ZR5 := hide (ZR4.out.zn hz5 (Or.inr hmq))
   have R5 : Hid (Lies encR 109 w5 zp zm (.slice x.ra x.t.rs.length x.rc) (mkR (q0 + 4) x.t.rs.length)) := ⟨ho5, fun g' e => R4.out.up g' e⟩
   have W5 := hide (W4.out.zn hz5 (Or.inr (Nat.le_refl _)))
   have ZW5 : Hid (Zn lo hi w w5) := (ZW.out.trans HZ4.out).trans (hz5.mono (by omega) (by omega))
   clear hz5 ho5 hg5 r4 E4 ZL4 ZR4 R4 W4 ZW HZ4 HX4
   obtain ⟨k4, hk4⟩ : ∃ k4, k4 = q0 + 4 + 2 * x.t.rs.length := ⟨_, rfl⟩
   rw [← hk4]
   have HK4 : Hid (k4 = q0 + 4 + 2 * x.t.rs.length) := hk4
   have hk40 : 0 < k4 := by omega
   have hk41 : k4 ≤ 30000000000000000 := by omega
   clear hk4
   have r5 : w5.cell? ⟨g, k * 8 + 5, none⟩ = some (.slice x.wa x.t.ws.length x.wc) := by
    rw [World.ownsRow.cellAt HX5.out (k * 8 + 5) (by omega), HL4.out, List.getElem?_set_ne (by omega), List.getElem?_set_ne (by omega), List.getElem?_set_ne (by omega), List.getElem?_set_ne (by omega), HCX.out 5 (by omega)]
    rfl
   go_wp2_with fail
   refine (markW x.t.ws.length k4 x.wa x.wc zm _ (by omega) (by omega) (by omega) _ W5.out.own).mono ?_
   rintro e w6 ⟨rfl, ho6, hg6⟩
   have hz6 : Zn zm zq w5 w6 := Zn.ofGrown hg6 (fun g' e => W5.out.lo g' e)
   have HX6 := hide (ownsZn HX5.out hz6 (fun g' e => by cases e; show g < zm ∨ zq ≤ g; omega))
   have ZL6 := hide (ZL5.out.zn hz6 (Or.inl (by omega)))
   have ZR6 := hide (ZR5.out.zn hz6 (Or.inr (Nat.le_refl _)))
   have W6 : Hid (Lies encW 111 w6 zm zq (.slice x.wa x.t.ws.length x.wc) (mkW k4 x.t.ws.length)) := ⟨ho6, fun g' e => W5.out.up g' e⟩
   have R6 := hide (R5.out.zn hz6 (Or.inl (Nat.le_refl _)))
   have ZW6 : Hid (Zn lo hi w w6) := ZW5.out.trans (hz6.mono (by omega) (by omega))
   clear hz6 ho6 hg6 r5 ZL5 ZR5 R5 W5 ZW5 HX5
   obtain ⟨k5, hk5⟩ : ∃ k5, k5 = k4 + 3 * x.t.ws.length := ⟨_, rfl⟩
   rw [← hk5]
   have HK5 : Hid (k5 = q0 + 4 + 2 * x.t.rs.length + 3 * x.t.ws.length) := by show _ = _; rw [hk5, HK4.out]
   have hk50 : 0 < k5 := by omega
   have hk51 : k5 ≤ 40000000000000000 := by omega
   clear hk5
   have cq6 : w6.cell? ⟨g, k * 8 + 6, none⟩ = some (xs4[k * 8 + 6]'(by omega)) := by rw [World.ownsRow.cellAt HX6.out (k * 8 + 6) (by omega)]; simp
   have cf6 : w6.frozen? ⟨g, k * 8 + 6, none⟩ = false := World.ownsRow.frozenAt HX6.out (k * 8 + 6)
   have eg := ouQ_eq k5
   have st := World.ownsRow.stored HX6.out (k * 8 + 6) (.bool (ouQ k5))
   have HX7 := hide st.1
   have Z7 : Hid (Zn lo hi w6 (w6.setCell ⟨g, k * 8 + 6, none⟩ (.bool (ouQ k5)))) := Zn.ofGrown st.2 (fun g' e => by cases e; exact hgu)
   have ZL7 : Hid (Zs (w6.setCell ⟨g, k * 8 + 6, none⟩ (.bool (ouQ k5))) (Value.slice (some ⟨g, 0, none⟩) n c) lo m (mkL (ys.take k) k0)) := ZL6.out.setO (a := ⟨g, k * 8 + 6, none⟩) rfl _
   have ZR7 : Hid (Zs (w6.setCell ⟨g, k * 8 + 6, none⟩ (.bool (ouQ k5))) (Value.slice (some ⟨g, 0, none⟩) n c) zq hi (ys.drop (k + 1))) := ZR6.out.setO (a := ⟨g, k * 8 + 6, none⟩) rfl _
   have R7 := hide (R6.out.setO (a := ⟨g, k * 8 + 6, none⟩) (by show g < zp ∨ zm ≤ g; omega) (.bool (ouQ k5)))
   have W7 := hide (W6.out.setO (a := ⟨g, k * 8 + 6, none⟩) (by show g < zm ∨ zq ≤ g; omega) (.bool (ouQ k5)))
   clear st ZL6 ZR6 R6 W6 HX6
   have E5 : Hid ((k5 : Int) + 1 = ((k5 + 1 : Nat) : Int)) := by show _ = _; omega
   go_wp2_with fail
   rw [E5.out]
   refine (mark87 (k5 + 1) (by omega) (by omega) _).mono ?_
   rintro e w8 ⟨rfl, hb8⟩
   have HX8 := hide (ownsBelow HX7.out hb8)
   have ZL8 := hide (ZL7.out.below hb8)
   have ZR8 := hide (ZR7.out.below hb8)
   have R8 := hide (R7.out.below hb8)
   have W8 := hide (W7.out.below hb8)
   have ZW8 : Hid (Zn lo hi w w8) := (ZW6.out.trans Z7.out).trans (Zn.ofBelow _ _ hb8)
   clear hb8 cq6 cf6 ZL7 ZR7 R7 W7 ZW6 Z7 HX7 E5
   have hl8 := HX8.out.1
   have cq7 : w8.cell? ⟨g, k * 8 + 7, none⟩ = some ((xs4.set (k * 8 + 6) (.bool (ouQ k5)))[k * 8 + 7]'(by simp only [List.length_set]; omega)) := by rw [World.ownsRow.cellAt HX8.out (k * 8 + 7) (by omega)]; simp
   have cf7 : w8.frozen? ⟨g, k * 8 + 7, none⟩ = false := World.ownsRow.frozenAt HX8.out (k * 8 + 7)
   have st := World.ownsRow.stored HX8.out (k * 8 + 7) (.string (mkB (k5 + 1)))
   have HX9 := hide st.1
   have ZW9 : Hid (Zn lo hi w (w8.setCell ⟨g, k * 8 + 7, none⟩ (.string (mkB (k5 + 1))))) := ZW8.out.trans (Zn.ofGrown st.2 (fun g' e => by cases e; exact hgu))
   have ZL9 : Hid (Zs (w8.setCell ⟨g, k * 8 + 7, none⟩ (.string (mkB (k5 + 1)))) (Value.slice (some ⟨g, 0, none⟩) n c) lo m (mkL (ys.take k) k0)) := ZL8.out.setO (a := ⟨g, k * 8 + 7, none⟩) rfl _
   have ZR9 : Hid (Zs (w8.setCell ⟨g, k * 8 + 7, none⟩ (.string (mkB (k5 + 1)))) (Value.slice (some ⟨g, 0, none⟩) n c) zq hi (ys.drop (k + 1))) := ZR8.out.setO (a := ⟨g, k * 8 + 7, none⟩) rfl _
   have R9 := hide (R8.out.setO (a := ⟨g, k * 8 + 7, none⟩) (by show g < zp ∨ zm ≤ g; omega) (.string (mkB (k5 + 1))))
   have W9 := hide (W8.out.setO (a := ⟨g, k * 8 + 7, none⟩) (by show g < zm ∨ zq ≤ g; omega) (.string (mkB (k5 + 1))))
   have HT9 : Hid (TLie (w8.setCell ⟨g, k * 8 + 7, none⟩ (.string (mkB (k5 + 1)))) zp zq (mkTa x q0).t (mkTa x q0).ra (mkTa x q0).rc (mkTa x q0).wa (mkTa x q0).wc) := ⟨zm, hpm, hmq, by
    have h := R9.out
    show Lies encR 109 _ zp zm (.slice x.ra (mkR (q0 + 4) x.t.rs.length).length x.rc) (mkR (q0 + 4) x.t.rs.length)
    rw [mkR_len]; exact h, by
    have h := W9.out
    rw [HK4.out] at h
    show Lies encW 111 _ zm zq (.slice x.wa (mkW (q0 + 4 + 2 * x.t.rs.length) x.t.ws.length).length x.wc) (mkW (q0 + 4 + 2 * x.t.rs.length) x.t.ws.length)
    rw [mkW_len]; exact h⟩
   have ZL10 : Hid (Zs (w8.setCell ⟨g, k * 8 + 7, none⟩ (.string (mkB (k5 + 1)))) (Value.slice (some ⟨g, 0, none⟩) n c) lo zq (mkL (ys.take (k + 1)) k0)) := by
    have h := Zs.snoc (y := mkTa x q0) hmp hpq (Nat.le_refl _) HT9.out HAV.out ZL9.out
    rw [← HMX.out] at h
    exact h
   have HCP := hide (cells_put ys (mkL (ys.take k) k0) k HML.out (mkTa x q0) ((xs4.set (k * 8 + 6) (.bool (ouQ k5))).set (k * 8 + 7) (.string (mkB (k5 + 1)))) (fun j hj => by
     rw [List.getElem?_set_ne (by omega), List.getElem?_set_ne (by omega), HL4.out, List.getElem?_set_ne (by omega), List.getElem?_set_ne (by omega), List.getElem?_set_ne (by omega), List.getElem?_set_ne (by omega)]
     exact HA.out j hj) (fun j hj => by
     rw [List.getElem?_set_ne (by omega), List.getElem?_set_ne (by omega), HL4.out, List.getElem?_set_ne (by omega), List.getElem?_set_ne (by omega), List.getElem?_set_ne (by omega), List.getElem?_set_ne (by omega)]
     exact HD.out j (by omega)) (fun i hi => by
     have e5 : k5 = q0 + 4 + 2 * x.t.rs.length + 3 * x.t.ws.length := HK5.out
     have hxl : xs.length = n * 8 := hlen
     rcases (show i = 0 ∨ i = 1 ∨ i = 2 ∨ i = 3 ∨ i = 4 ∨ i = 5 ∨ i = 6 ∨ i = 7 by omega) with rfl | rfl | rfl | rfl | rfl | rfl | rfl | rfl
     ·rw [List.getElem?_set_ne (by omega), List.getElem?_set_ne (by omega), HL4.out, List.getElem?_set_ne (by omega), List.getElem?_set_ne (by omega), List.getElem?_set_ne (by omega), Nat.add_zero, List.getElem?_set_self (by omega)]
      rfl
     ·rw [List.getElem?_set_ne (by omega), List.getElem?_set_ne (by omega), HL4.out, List.getElem?_set_ne (by omega), List.getElem?_set_ne (by omega), List.getElem?_set_self (by simp only [List.length_set]; omega)]
      simp [mkTa, encT]
     ·rw [List.getElem?_set_ne (by omega), List.getElem?_set_ne (by omega), HL4.out, List.getElem?_set_ne (by omega), List.getElem?_set_self (by simp only [List.length_set]; omega)]
      simp [mkTa, encT]; omega
     ·rw [List.getElem?_set_ne (by omega), List.getElem?_set_ne (by omega), HL4.out, List.getElem?_set_self (by simp only [List.length_set]; omega)]
      simp [mkTa, encT]; omega
     ·rw [List.getElem?_set_ne (by omega), List.getElem?_set_ne (by omega), HL4.out, List.getElem?_set_ne (by omega), List.getElem?_set_ne (by omega), List.getElem?_set_ne (by omega), List.getElem?_set_ne (by omega), HCX.out 4 (by omega)]
      simp [mkTa, encT, mkR_len]
     ·rw [List.getElem?_set_ne (by omega), List.getElem?_set_ne (by omega), HL4.out, List.getElem?_set_ne (by omega), List.getElem?_set_ne (by omega), List.getElem?_set_ne (by omega), List.getElem?_set_ne (by omega), HCX.out 5 (by omega)]
      simp [mkTa, encT, mkW_len]
     ·rw [List.getElem?_set_ne (by omega), List.getElem?_set_self (by omega), e5]
      rfl
     ·rw [List.getElem?_set_self (by simp only [List.length_set]; omega), e5]
      rfl))
   rw [← HMX.out] at HCP
   have HZ2 : Hid (k5 + 2 = k0 + wtL (ys.take (k + 1))) := by show _ = _; rw [← HNX.out, HK5.out]; unfold wt; omega
   have en : (k5 : Int) + 1 + 1 = ((k5 + 2 : Nat) : Int) := by omega
   clear st ZL8 ZR8 R8 W8 R9 W9 HT9 ZL9 ZW8 HX8 HA HD HCX HL4
   go_wp2
   go_roundw
   case rel => exact ⟨k + 1, k5 + 2, zq, _, by omega, by go_num, by go_num, HZ2, HX9, HCP.out.1, HCP.out.2, ZL10, ZR9, ZW9⟩
   case measure => simp [intOf]; omega
  ·have hd : ¬ (k : Int) < (n : Int) := by omega
   have hkn : ys.length ≤ k := by rw [← HN.out]; omega
   have eT : ys.take k = ys := List.take_of_length_le hkn
   rw [eT] at HQ HA ZL
   have hle : m ≤ hi := ZR.out.le
   have HG : Hid (GOwn encT 38 wr lo (.slice a n c) (mkL ys k0)) := by
    refine gown_ext (by rw [mkL_len]; exact HN.out.symm) HX.out (fun j hj => HA.out j ?_)
    have h8 : encT.size = 8 := rfl
    rw [h8] at hj
    omega
   have HR : Hid (LLie wr lo hi (.slice a n c) (mkL ys k0)) := ⟨⟨HG.out, fun g e => (HU.out g e).2⟩, ZL.out.mono (Nat.le_refl _) hle⟩
   have HE : Hid (q0 = k0 + wtL ys) := HQ.out
   clear HQ HA HD ZL ZR HX HG eT hkn
   go_wp2
   go_ret
   exact ⟨ret_int (by have := HE.out; omega), HR.out, ZW.out⟩

end Go.Proofs.YtpnnncfbodfnhaaGreatDoor

namespace Go.Proofs.YtpnnncfbodfnhaaGreatDoor
open Go.RowKit
open KM
attribute [local go_sem ↓] Go.wp_at_zero Go.wp_at_succ

theorem mkL_at (ys : List Ta) (k k0 : Nat) (h : k < ys.length) : (mkL ys k0)[k]'(by rw [mkL_len]; exact h) = mkTa ys[k] (k0 + wtL (ys.take k)) := by
 have e : ys = ys.take k ++ ys[k] :: ys.drop (k + 1) := by rw [← List.drop_eq_getElem_cons h, List.take_append_drop]
 have h1 : (mkL ys k0)[k]? = some (mkTa ys[k] (k0 + wtL (ys.take k))) := by
  conv => lhs; rw [e]
  rw [mkL_app, List.getElem?_append_right (by rw [mkL_len, List.length_take]; omega), mkL_len, List.length_take]
  have : k - min k ys.length = 0 := by omega
  rw [this]
  simp [mkL]
 have h2 := List.getElem?_eq_getElem (show k < (mkL ys k0).length by rw [mkL_len]; exact h)
 rw [h2] at h1
 exact Option.some.inj h1

set_option maxRecDepth 100000 in
set_option maxHeartbeats 6000000 in
theorem heldL (ys : List Ta) (a : Option Addr) (c n k0 : Nat) (hn : n = ys.length) (hnn : n ≤ 1048576) (hf : ∀ y ∈ ys, TFit y.t) (hk0 : 0 < k0) (hk1 : k0 ≤ 10000000000000000) (w : World) (h : TRows w a (mkL ys k0)) :
  Calls Tryz.prog 89 #[.slice a n c, .int .i64 k0] w fun e w' => e = .returned (.int .i64 ((k0 + wtL ys : Nat) : Int)) ∧ Below w.heap.size w w' := by
 have HN : Hid (n = ys.length) := hn
 have HF : Hid (∀ y ∈ ys, TFit y.t) := hf
 have HWB : Hid (wtL ys ≤ 5600000000000) := by show _ ≤ _; have h1 := wtL_fit ys hf; have h2 : ys.length * 5242886 ≤ 1048576 * 5242886 := Nat.mul_le_mul_right _ (by omega); omega
 have HP : Hid (TRows w a (mkL ys k0)) := h
 clear h hn hf
 go_enter Tryz.func89, Tryz.ntmps89
 go_wp2
 go_loopw [1, 5] (fun tk t wr => ∃ (k z : Nat), k ≤ n ∧ t = .int .i64 k ∧ tk = .int .i64 z ∧ Hid (z = k0 + wtL (ys.take k)) ∧ Hid (Below w.heap.size w wr)) (fun _ t _ => n - (intOf t).toNat)
 case atStart => exact ⟨0, k0, Nat.zero_le _, rfl, rfl, rfl, belowRefl w⟩
 case round =>
  obtain ⟨k, q0, hk, rfl, rfl, HQ, HB⟩ := hrel
  by_cases hlt : k < n
  ·have hlt' : (k : Int) < (n : Int) := by omega
   have h0 : (0 : Int) ≤ (k : Int) := by omega
   have hky : k < ys.length := by rw [← HN.out]; exact hlt
   have hq0 : 0 < q0 := by have := HQ.out; omega
   have hq1 : q0 ≤ 20000000000000000 := by have := HQ.out; have := wtL_take ys k; have := HWB.out; omega
   have HNX : Hid (q0 + wt ys[k] = k0 + wtL (ys.take (k + 1))) := by show _ = _; rw [HQ.out, wtL_next ys k hky]; omega
   have hfx := HF.out _ (List.getElem_mem hky)
   obtain ⟨b, o, rfl, hbl, hc, hrow⟩ := (HP.out.below HB.out).cls k (by rw [mkL_len]; exact hky)
   rw [mkL_at ys k k0 hky, ← HQ.out] at hc hrow
   obtain ⟨x, hx⟩ : ∃ x, x = ys[k] := ⟨_, rfl⟩
   rw [← hx] at HNX hfx hc hrow
   clear hx
   have hr8 : x.t.rs.length ≤ 1048576 := hfx.1
   have hw8 : x.t.ws.length ≤ 1048576 := hfx.2.2.1
   have RR : Hid (GRow encR wr x.ra (mkR (q0 + 4) x.t.rs.length)) := hrow.r
   have RW : Hid (GRow encW wr x.wa (mkW (q0 + 4 + 2 * x.t.rs.length) x.t.ws.length)) := hrow.w
   have r0 : wr.cell? ⟨b, o + k * 8, none⟩ = some (.int .i64 ((q0 : Int))) := by rw [hc.c0]; congr 2
   have n0 := ne_self_int ((q0 : Int))
   have r1 : wr.cell? ⟨b, o + k * 8 + 1, none⟩ = some (.int .i64 ((q0 : Int) + 1)) := by rw [hc.c1]; congr 2
   have n1 := ne_self_int ((q0 : Int) + 1)
   have r2 : wr.cell? ⟨b, o + k * 8 + 2, none⟩ = some (.int .i64 ((q0 : Int) + 1 + 1)) := by rw [hc.c2]; congr 2
   have n2 := ne_self_int ((q0 : Int) + 1 + 1)
   have r3 : wr.cell? ⟨b, o + k * 8 + 3, none⟩ = some (.int .i64 ((q0 : Int) + 1 + 1 + 1)) := by rw [hc.c3]; congr 2
   have n3 := ne_self_int ((q0 : Int) + 1 + 1 + 1)
   have r4 : wr.cell? ⟨b, o + k * 8 + 4, none⟩ = some (.slice x.ra x.t.rs.length x.rc) := by rw [hc.c4]; congr 2; exact mkR_len _ _
   have C5 : Hid (wr.cell? ⟨b, o + k * 8 + 5, none⟩ = some (.slice x.wa x.t.ws.length x.wc)) := by show _ = _; rw [hc.c5]; congr 2; exact mkW_len _ _
   have C6 : Hid (wr.cell? ⟨b, o + k * 8 + 6, none⟩ = some (.bool (ouQ (q0 + 4 + 2 * x.t.rs.length + 3 * x.t.ws.length)))) := hc.c6
   have C7 : Hid (wr.cell? ⟨b, o + k * 8 + 7, none⟩ = some (.string (mkB (q0 + 4 + 2 * x.t.rs.length + 3 * x.t.ws.length + 1)))) := hc.c7
   have E4 : Hid ((q0 : Int) + 1 + 1 + 1 + 1 = ((q0 + 4 : Nat) : Int)) := by show _ = _; omega
   clear hc hrow hfx
   go_wp2_with fail
   rw [E4.out]
   refine (heldR x.t.rs.length (q0 + 4) x.ra x.rc (by omega) (by omega) (by omega) _ RR.out).mono ?_
   rintro e w1 ⟨rfl, hb⟩
   have HB1 : Hid (Below wr.heap.size wr w1) := hb
   clear hb r0 r1 r2 r3 r4 n0 n1 n2 n3 E4 RR
   obtain ⟨k4, hk4⟩ : ∃ k4, k4 = q0 + 4 + 2 * x.t.rs.length := ⟨_, rfl⟩
   rw [← hk4] at RW C6 C7 ⊢
   have HK4 : Hid (k4 = q0 + 4 + 2 * x.t.rs.length) := hk4
   have hk40 : 0 < k4 := by omega
   have hk41 : k4 ≤ 30000000000000000 := by omega
   have hk4n : ¬ (k4 : Int) < 0 := by omega
   clear hk4
   have r5 := (HB1.out.cell (p := ⟨b, o + k * 8 + 5, none⟩) hbl).trans C5.out
   go_wp2_with fail
   refine (heldW x.t.ws.length k4 x.wa x.wc (by omega) (by omega) (by omega) _ (RW.out.below HB1.out)).mono ?_
   rintro e w2 ⟨rfl, hb⟩
   have HB2 : Hid (Below wr.heap.size wr w2) := HB1.out.trans (hb.mono HB1.out.size)
   clear hb r5 RW C5 HB1
   obtain ⟨k5, hk5⟩ : ∃ k5, k5 = k4 + 3 * x.t.ws.length := ⟨_, rfl⟩
   rw [← hk5] at C6 C7 ⊢
   have HK5 : Hid (k5 = q0 + 4 + 2 * x.t.rs.length + 3 * x.t.ws.length) := by show _ = _; rw [hk5, HK4.out]
   have hk50 : 0 < k5 := by omega
   have hk51 : k5 ≤ 40000000000000000 := by omega
   have hk5n : ¬ (k5 : Int) < 0 := by omega
   clear hk5
   have r6 := (HB2.out.cell (p := ⟨b, o + k * 8 + 6, none⟩) hbl).trans C6.out
   have r7 := (HB2.out.cell (p := ⟨b, o + k * 8 + 7, none⟩) hbl).trans C7.out
   have eg := ouQ_eq k5
   have bg := bne_self' (ouQ k5)
   have E5 : Hid ((k5 : Int) + 1 = ((k5 + 1 : Nat) : Int)) := by show _ = _; omega
   have e5 : IntKind.i64.wrap ((k5 : Int) + 1) = (k5 : Int) + 1 := by rw [IntKind.wrap_i64]; omega
   have tn := bne_text (mkB (k5 + 1))
   go_wp2
   refine wp_region_held_drew (S := fun w' => w'.cell? ⟨b, o + k * 8 + 7, none⟩ = some (.string (mkB (k5 + 1)))) (by kernel_rfl) r7 (fun hHeld => ?_)
   (refine ti 0 ?_; simp only [Act.put, tA, tB, tD, tE, tF])
   (refine ti 1 ?_; simp only [Act.put, tA, tB, tC, tD, tE, tF])
   (refine ti 2 ?_; simp only [Act.put, tA, tB, tC, tD, tE, tF])
   (refine ti 3 ?_; simp only [Act.put, tA, tB, tC, tD, tE, tF])
   (refine ti 4 ?_; simp only [Act.put, tA, tB, tC, tD, tE, tF])
   (refine ti 5 ?_; simp only [Act.put, tA, tB, tC, tD, tE, tF])
   refine wpAnyH_ready (rs := [6]) (by kernel_rfl) (by simp) ?_
   refine AllReadyH.cons rfl (fun K hK => ?_) AllReadyH.nil
   go_simp
   go_wp2_with fail
   rw [E5.out]
   refine (mark87 (k5 + 1) (by omega) (by omega) _).mono ?_
   rintro e w3 ⟨rfl, hbm⟩
   have HB3 : Hid (Below wr.heap.size wr w3) := HB2.out.trans ((undrew hbm).mono HB2.out.size)
   clear hbm
   have s7 := (HB3.out.cell (p := ⟨b, o + k * 8 + 7, none⟩) hbl).trans C7.out
   go_wp2_with fail
   refine hK.out _ _ s7 (fun hHeld2 => ?_)
   clear hK K
   (refine ti 7 ?_; simp only [Act.put, tA, tB, tC, tD, tE, tF])
   refine wpAnyH_done (by kernel_rfl) ?_ _
   have HZ2 : Hid (k5 + 2 = k0 + wtL (ys.take (k + 1))) := by show _ = _; rw [← HNX.out, HK5.out]; unfold wt; omega
   have en : (k5 : Int) + 1 + 1 = ((k5 + 2 : Nat) : Int) := by omega
   have HBn : Hid (Below w.heap.size w w3) := HB.out.trans (HB3.out.mono HB.out.size)
   clear r6 r7 s7 C6 C7
   go_wp2
   go_roundw
   case rel => exact ⟨k + 1, k5 + 2, by omega, by go_num, by go_num, HZ2, HBn⟩
   case measure => simp [intOf]; omega
  ·have hd : ¬ (k : Int) < (n : Int) := by omega
   have eT : ys.take k = ys := List.take_of_length_le (by rw [← HN.out]; omega)
   rw [eT] at HQ
   have HE : Hid (q0 = k0 + wtL ys) := HQ.out
   clear HQ eT
   go_wp2
   go_ret
   exact ⟨ret_int (by have := HE.out; omega), HB.out⟩

end Go.Proofs.YtpnnncfbodfnhaaGreatDoor

namespace Go.Proofs.YtpnnncfbodfnhaaGreatDoor
open Go.RowKit
open KM
attribute [local go_sem ↓] Go.wp_at_zero Go.wp_at_succ

set_option maxRecDepth 100000 in
set_option maxHeartbeats 4000000 in
theorem heldV (n k0 : Nat) (a : Option Addr) (c : Nat) (hn : n ≤ 100000000) (hk0 : 0 < k0) (hk1 : k0 ≤ 100000000000000000) (w : World) (h : GRow encV w a (mkV k0 n)) :
  Calls Tryz.prog 88 #[.slice a n c, .int .i64 k0] w fun e w' => e = .returned (.int .i64 ((k0 + 4 * n : Nat) : Int)) ∧ Below w.heap.size w w' := by
 have H : Hid (GRow encV w a (mkV k0 n)) := h
 clear h
 go_enter Tryz.func88, Tryz.ntmps88
 go_wp2
 go_loopw [1, 5] (fun tk t wr => ∃ k : Nat, k ≤ n ∧ t = .int .i64 k ∧ tk = .int .i64 ((k0 + 4 * k : Nat) : Int) ∧ Hid (Below w.heap.size w wr)) (fun _ t _ => n - (intOf t).toNat)
 case atStart => exact ⟨0, Nat.zero_le _, rfl, rfl, Below.refl _ _⟩
 case round =>
  obtain ⟨k, hk, rfl, rfl, HB⟩ := hrel
  by_cases hlt : k < n
  ·have hlt' : (k : Int) < (n : Int) := by omega
   have h0 : (0 : Int) ≤ (k : Int) := by omega
   obtain ⟨b, off, rfl, hgl, hc⟩ := (H.out.below HB.out) (by rw [mkV_len]; omega)
   have HC := hide (vat hc k (by rw [mkV_len]; exact hlt))
   rw [mkV_at k0 n k hlt] at HC
   clear hc
   obtain ⟨q, hq⟩ : ∃ q, q = k0 + 4 * k := ⟨_, rfl⟩
   have HQ : Hid (q = k0 + 4 * k) := hq
   rw [← hq] at HC ⊢
   have hq0 : 0 < q := by omega
   have hq1 : q ≤ 900000000000000000 := by omega
   clear hq
   have HN2 : Hid (((q + 4 : Nat) : Int) = ((k0 + 4 * (k + 1) : Nat) : Int)) := by show _ = _; have := HQ.out; omega
   have eq0 : IntKind.i64.wrap (q : Int) = (q : Int) := by rw [IntKind.wrap_i64]; omega
   go_wp2
   have r0 := HC.out.1
   have tn0 := bne_text (mkB q)
   refine wp_region_held_drew (S := fun w' => w'.cell? ⟨b, off + k * 4, none⟩ = some (.string (mkB q))) (by kernel_rfl) r0 (fun hHeld => ?_)
   (refine ti 0 ?_; simp only [Act.put, tA, tB, tD, tE, tF])
   (refine ti 1 ?_; simp only [Act.put, tA, tB, tC, tD, tE, tF])
   (refine ti 2 ?_; simp only [Act.put, tA, tB, tC, tD, tE, tF])
   (refine ti 3 ?_; simp only [Act.put, tA, tB, tC, tD, tE, tF])
   (refine ti 4 ?_; simp only [Act.put, tA, tB, tC, tD, tE, tF])
   (refine ti 5 ?_; simp only [Act.put, tA, tB, tC, tD, tE, tF])
   refine wpAnyH_ready (rs := [6]) (by kernel_rfl) (by simp) ?_
   refine AllReadyH.cons rfl (fun K hK => ?_) AllReadyH.nil
   go_simp
   go_wp2_with fail
   refine (mark87 q (by omega) (by omega) _).mono ?_
   rintro e w1 ⟨rfl, hbm⟩
   have hbA1 : Below wr.heap.size wr w1 := undrew hbm
   clear hbm
   have s0 := (hbA1.cell (p := ⟨b, off + k * 4, none⟩) hgl).trans HC.out.1
   go_wp2_with fail
   refine hK.out _ _ s0 (fun hHeld2 => ?_)
   clear hK K
   (refine ti 7 ?_; simp only [Act.put, tA, tB, tC, tD, tE, tF])
   refine wpAnyH_done (by kernel_rfl) ?_ _
   go_wp2
   have r1 := (hbA1.cell (p := ⟨b, off + k * 4 + 1, none⟩) hgl).trans HC.out.2.1
   have E1 : Hid ((q : Int) + 1 = ((q + 1 : Nat) : Int)) := by show _ = _; omega
   have e1 : IntKind.i64.wrap ((q : Int) + 1) = (q : Int) + 1 := by rw [IntKind.wrap_i64]; omega
   have tn1 := bne_text (mkB (q + 1))
   refine wp_region_held_drew (S := fun w' => w'.cell? ⟨b, off + k * 4 + 1, none⟩ = some (.string (mkB (q + 1)))) (by kernel_rfl) r1 (fun hHeld => ?_)
   (refine ti 0 ?_; simp only [Act.put, tA, tB, tD, tE, tF])
   (refine ti 1 ?_; simp only [Act.put, tA, tB, tC, tD, tE, tF])
   (refine ti 2 ?_; simp only [Act.put, tA, tB, tC, tD, tE, tF])
   (refine ti 3 ?_; simp only [Act.put, tA, tB, tC, tD, tE, tF])
   (refine ti 4 ?_; simp only [Act.put, tA, tB, tC, tD, tE, tF])
   (refine ti 5 ?_; simp only [Act.put, tA, tB, tC, tD, tE, tF])
   refine wpAnyH_ready (rs := [6]) (by kernel_rfl) (by simp) ?_
   refine AllReadyH.cons rfl (fun K hK => ?_) AllReadyH.nil
   go_simp
   go_wp2_with fail
   rw [E1.out]
   refine (mark87 (q + 1) (by omega) (by omega) _).mono ?_
   rintro e w2 ⟨rfl, hbm⟩
   have hbA2 : Below wr.heap.size wr w2 := hbA1.trans ((undrew hbm).mono hbA1.size)
   clear hbm
   have s1 := (hbA2.cell (p := ⟨b, off + k * 4 + 1, none⟩) hgl).trans HC.out.2.1
   go_wp2_with fail
   refine hK.out _ _ s1 (fun hHeld2 => ?_)
   clear hK K
   (refine ti 7 ?_; simp only [Act.put, tA, tB, tC, tD, tE, tF])
   refine wpAnyH_done (by kernel_rfl) ?_ _
   have r2 := (hbA2.cell (p := ⟨b, off + k * 4 + 2, none⟩) hgl).trans HC.out.2.2.1
   have r3 := (hbA2.cell (p := ⟨b, off + k * 4 + 3, none⟩) hgl).trans HC.out.2.2.2
   have eg := goneQ_eq q
   have ebn := bne_self' (goneQ q)
   have ebi : (((q : Int) + 1 + 1 + 1) != ((q : Int) + 1 + 1 + 1)) = false := by simp
   go_wp2
   go_roundw
   case rel => exact ⟨k + 1, by omega, by go_num, by rw [← HN2.out]; go_num, HB.out.trans (hbA2.mono HB.out.size)⟩
   case measure => simp [intOf]; omega
  ·have hd : ¬ (k : Int) < (n : Int) := by omega
   go_wp2
   go_ret
   refine ⟨?_, HB.out⟩
   rw [show k = n by omega]
   rfl
end Go.Proofs.YtpnnncfbodfnhaaGreatDoor

namespace Go.Proofs.YtpnnncfbodfnhaaGreatDoor
open Go.RowKit
open KM
attribute [local go_sem ↓] Go.wp_at_zero Go.wp_at_succ

end Go.Proofs.YtpnnncfbodfnhaaGreatDoor

namespace Go.Proofs.YtpnnncfbodfnhaaGreatDoor
open Go.RowKit
open KM
open VM
attribute [local go_sem ↓] Go.wp_at_zero Go.wp_at_succ

theorem rBs_fit {x : ByteArray} {p : Int} {s : Bb} {q : Nat} {bo : Bool} (h : ansB (rBs x p) = (s, q, bo)) : BFit s := by
 cases hr : rBs x p with
 | none =>
  rw [hr] at h
  cases h
  exact ⟨by show 0 ≤ _; omega, (fun x hx => by cases hx), ⟨by show 0 ≤ _; omega, fun x hx => by cases hx⟩, ⟨by show 0 ≤ _; omega, fun x hx => by cases hx⟩⟩
 | some r =>
  obtain ⟨s', q'⟩ := r
  rw [hr] at h
  have es : s' = s := by cases h; rfl
  subst es
  have hs : sbB s' = true := by
   unfold rBs at hr
   iterate 5
    split at hr
    ·cases hr
   split at hr
   ·rename_i ht
    cases hr
    exact ht
   ·cases hr
  have hm := base_small hs
  refine ⟨Nat.le_trans hm.vl (by omega), fun x hx => ?_, ⟨?_, fun t ht => ?_⟩, ⟨?_, fun t ht => ?_⟩⟩
  ·have := hm.vs x hx; unfold VSm at this; omega
  ·rw [txs_len]; exact Nat.le_trans hm.pl (by omega)
  ·obtain ⟨y, hy, rfl⟩ := List.mem_map.1 ht
   exact small_fit (right_small (hm.ps y hy))
  ·rw [txs_len]; exact Nat.le_trans hm.ql (by omega)
  ·obtain ⟨y, hy, rfl⟩ := List.mem_map.1 ht
   exact small_fit (right_small (hm.qs y hy))

end Go.Proofs.YtpnnncfbodfnhaaGreatDoor

/- PutKey: the step under the lock. -/
import Derived.Test.YtjeicgibddfifaaGreatPc01
import Derived.Test.YtjeicgibddfifaaGreatPc27
import Derived.Test.YtjeicgibddfifaaGreatPc07
import Derived.Deep.RegionHeld3
import Derived.Deep.Cut
import Derived.Deep.CutRange
namespace Go.Proofs.YtjeicgibddfifaaGreat
open Go.RowKit
open KM
attribute [local go_sem ↓] Go.wp_at_zero Go.wp_at_succ

theorem Zn.setn {l h : Nat} {w W : World} (k : Zn l h w W) {a : Addr} (ha : w.heap.size ≤ a.block) (u : Value) : Zn l h w (W.setCell a u) := ⟨k.os, k.tape, k.output, Nat.le_trans k.size (by simp [World.setCell]), fun j hj hn => (Below.heap_setCell W a u j (by omega)).trans (k.block j hj hn)⟩
theorem le_set {n : Nat} {W : World} (h : n ≤ W.heap.size) (a : Addr) (u : Value) : n ≤ (W.setCell a u).heap.size := by simpa [World.setCell] using h

set_option maxRecDepth 100000 in
set_option maxHeartbeats 16000000 in
theorem iputk1 (c : En) (hf : EnFit c) (x : Wt) (hx : x.1.size ≤ 1048576 ∧ x.2.1.size ≤ 1048576) (lo m g xb k ba : Nat) (hxb : xb < lo) (hk : k < c.os.length) (y : Ta) (hy : y = c.os[k]'hk) (hba : c.oa = some ⟨ba, 0, none⟩) (w : World) (hgw : g < w.heap.size) (bx : Bx w xb [.string x.1, .string x.2.1, .bool x.2.2]) (lx : EnLx w lo m g g g c) :
  Calls Tryz.prog 41 #[.pointer (some ⟨g, 2, none⟩), .pointer (some ⟨ba, k * 8, none⟩), .pointer (some ⟨xb, 0, none⟩)] w fun ex w' => ∃ (d : En) (p q : Nat), ex = .returned (.int .i64 (pkC y.t x)) ∧ d.b = c.b ∧ d.oa = c.oa ∧ d.oc = c.oc ∧ d.os.length = c.os.length ∧ txs d.os = (txs c.os).set k (pkT y.t x) ∧ EnQ w' lo m g p q d ∧ q ≤ w'.heap.size ∧ w.heap.size ≤ p ∧ Zn m g w w' := by
 have HBA := hide hba
 have HFT : Hid (TFit c.os[k].t) := hf.o.2 _ (List.mem_map.2 ⟨_, List.getElem_mem hk, rfl⟩)
 have HID : Hid (txs c.os = (txs c.os).set k c.os[k].t) := by
  show _ = _
  have hk2 : k < (txs c.os).length := by rw [txs_len]; exact hk
  have e1 : (txs c.os)[k]'hk2 = c.os[k].t := List.getElem_map (fun y : Ta => y.t)
  have e2 : (txs c.os).set k ((txs c.os)[k]'hk2) = txs c.os := List.set_getElem_self hk2
  rw [e1] at e2
  exact e2.symm
 have HCL : Hid (∀ W : World, EnLx W lo m g g g c → Cls W ba (k * 8) c.os[k]) := fun W h => by
  obtain ⟨b0, o, ha, _, hc, -⟩ := h.rows.o.cls k hk
  rw [hba] at ha
  cases ha
  rw [Nat.zero_add] at hc
  exact hc
 have HRW : Hid (∀ W : World, EnLx W lo m g g g c → TRow W c.os[k].t c.os[k].ra c.os[k].wa) := fun W h => h.rows.o.each _ (List.getElem_mem hk)
 obtain ⟨rw_, hrw⟩ : ∃ r, r = writeB x := ⟨_, rfl⟩
 obtain ⟨rk, hrk⟩ : ∃ r, r = wkB c.os[k].t x := ⟨_, rfl⟩
 have HC0 : Hid (pkC c.os[k].t x = if rw_ = true then (if rk = true then 0 else 3) else 2) := by show _ = _; rw [hrw, hrk]; rfl
 have HT0 : Hid (pkT c.os[k].t x = if rw_ = true ∧ rk = true then setW c.os[k].t (putS c.os[k].t.ws x) else c.os[k].t) := by show _ = _; rw [hrw, hrk]; rfl
 have CW : Hid (∀ W : World, Calls Tryz.prog 42 #[.agg #[.string x.1, .string x.2.1, .bool x.2.2]] W fun e w' => e = .returned (.bool rw_) ∧ Below W.heap.size W w') := fun W => by rw [hrw]; exact iwrite x.1 x.2.1 x.2.2 W
 have hwk0 := hrk.symm
 rw [← hy] at HFT HID HCL HRW HC0 HT0 hwk0
 have HK := hide hk
 clear hy hrw hrk hba hf hk
 have HS : Hid (∀ W : World, EnLx W lo m g g g c → Bx W xb [.string x.1, .string x.2.1, .bool x.2.2] → W.cell? ⟨ba, k * 8, none⟩ = some (.int .i64 y.t.id) ∧ W.cell? ⟨ba, k * 8 + 1, none⟩ = some (.int .i64 y.t.st) ∧ W.cell? ⟨ba, k * 8 + 2, none⟩ = some (.int .i64 y.t.snap) ∧ W.cell? ⟨ba, k * 8 + 3, none⟩ = some (.int .i64 y.t.cs) ∧ W.cell? ⟨ba, k * 8 + 4, none⟩ = some (.slice y.ra y.t.rs.length y.rc) ∧ W.cell? ⟨ba, k * 8 + 5, none⟩ = some (.slice y.wa y.t.ws.length y.wc) ∧ W.cell? ⟨ba, k * 8 + 6, none⟩ = some (.bool y.t.out) ∧ W.cell? ⟨ba, k * 8 + 7, none⟩ = some (.string y.t.nm) ∧ W.cell? ⟨xb, 0, none⟩ = some (.string x.1) ∧ W.cell? ⟨xb, 1, none⟩ = some (.string x.2.1) ∧ W.cell? ⟨xb, 2, none⟩ = some (.bool x.2.2)) := fun W h1 h2 => ⟨(HCL.out W h1).c0, (HCL.out W h1).c1, (HCL.out W h1).c2, (HCL.out W h1).c3, (HCL.out W h1).c4, (HCL.out W h1).c5, (HCL.out W h1).c6, (HCL.out W h1).c7, h2.c0, h2.c1, h2.c2⟩
 have BX : Hid (Bx w xb [.string x.1, .string x.2.1, .bool x.2.2]) := bx
 have LX : Hid (EnLx w lo m g g g c) := lx
 have HZ : Hid (Zn m g w w) := Zn.ofBelow m g (belowRefl w)
 have HW : Hid (w.heap.size ≤ w.heap.size) := Nat.le_refl _
 have HGW : Hid (g < w.heap.size) := hgw
 clear bx lx hgw
 go_enter Tryz.func41, Tryz.ntmps41
 have x0 := BX.out.c0
 have x1 := BX.out.c1
 have x2 := BX.out.c2
 go_wp2_with fail
 refine (CW.out _).mono ?_
 rintro ex w1 ⟨rfl, hb⟩
 replace BX := hide (BX.out.below hb)
 replace LX := hide (LX.out.below hb)
 replace HZ := hide (HZ.out.trans (Zn.ofBelow m g hb))
 replace HW := hide (Nat.le_trans HW.out hb.size)
 replace HGW := hide (Nat.lt_of_lt_of_le HGW.out hb.size)
 clear hb x0 x1 x2 CW
 cases rw_
 ·have HC : Hid (pkC y.t x = 2) := HC0.out
  have HT : Hid (pkT y.t x = y.t) := by show _ = _; rw [HT0.out, if_neg (by simp)]
  go_wp2
  go_ret
  exact ⟨c, w1.heap.size, w1.heap.size, ret_int HC.out.symm, rfl, rfl, rfl, rfl, by rw [HT.out]; exact HID.out, LX.out.q0 _ (Nat.le_of_lt HGW.out), Nat.le_refl _, HW.out, HZ.out⟩
 cases rk
 ·have hwk : wkB y.t x = false := hwk0
  have HC : Hid (pkC y.t x = 3) := HC0.out
  have HT : Hid (pkT y.t x = y.t) := by show _ = _; rw [HT0.out, if_neg (by simp)]
  clear HC0 HT0
  go_wp2
  have CK : Hid (∀ W : World, EnLx W lo m g g g c → Calls Tryz.prog 43 #[.agg #[.int .i64 y.t.id, .int .i64 y.t.st, .int .i64 y.t.snap, .int .i64 y.t.cs, .slice y.ra y.t.rs.length y.rc, .slice y.wa y.t.ws.length y.wc, .bool y.t.out, .string y.t.nm], .agg #[.string x.1, .string x.2.1, .bool x.2.2]] W fun e w' => ∃ ra1 rc1 wa1 wc1, e = .returned (.tuple #[.agg #[.int .i64 y.t.id, .int .i64 y.t.st, .int .i64 y.t.snap, .int .i64 y.t.cs, .slice ra1 y.t.rs.length rc1, .slice wa1 y.t.ws.length wc1, .bool y.t.out, .string y.t.nm], .bool false]) ∧ TLie w' W.heap.size w'.heap.size (setW y.t y.t.ws) ra1 rc1 wa1 wc1 ∧ Below W.heap.size W w') := fun W h => iwk_no y.t y.ra y.wa y.rc y.wc x HFT.out hx hwk W (HRW.out W h)
  refine wp_region_held_drew (S := fun w' => w'.cell? ⟨ba, k * 8, none⟩ = some (.int .i64 y.t.id) ∧ w'.cell? ⟨ba, k * 8 + 1, none⟩ = some (.int .i64 y.t.st) ∧ w'.cell? ⟨ba, k * 8 + 2, none⟩ = some (.int .i64 y.t.snap) ∧ w'.cell? ⟨ba, k * 8 + 3, none⟩ = some (.int .i64 y.t.cs) ∧ w'.cell? ⟨ba, k * 8 + 4, none⟩ = some (.slice y.ra y.t.rs.length y.rc) ∧ w'.cell? ⟨ba, k * 8 + 5, none⟩ = some (.slice y.wa y.t.ws.length y.wc) ∧ w'.cell? ⟨ba, k * 8 + 6, none⟩ = some (.bool y.t.out) ∧ w'.cell? ⟨ba, k * 8 + 7, none⟩ = some (.string y.t.nm) ∧ w'.cell? ⟨xb, 0, none⟩ = some (.string x.1) ∧ w'.cell? ⟨xb, 1, none⟩ = some (.string x.2.1) ∧ w'.cell? ⟨xb, 2, none⟩ = some (.bool x.2.2)) (by kernel_rfl) (HS.out w1 LX.out BX.out) (fun hHeld => ?_)
  (refine tk 0 ?_ rfl (Or.inl ⟨by rfl, ?_⟩) ?_; rotate_left; (focus (intro w h; (try dsimp only at h); go_simp; (try with_reducible rfl))); simp only [Act.put, tA, tB, tD, tE, tF])
  (refine tk 1 ?_ rfl (Or.inl ⟨by rfl, ?_⟩) ?_; rotate_left; (focus (intro w h; (try dsimp only at h); go_simp; (try with_reducible rfl))); simp only [Act.put, tA, tB, tC, tD, tE, tF])
  (refine tk 2 ?_ rfl (Or.inl ⟨by rfl, ?_⟩) ?_; rotate_left; (focus (intro w h; (try dsimp only at h); go_simp; (try with_reducible rfl))); simp only [Act.put, tA, tB, tC, tD, tE, tF])
  (refine tk 3 ?_ rfl (Or.inl ⟨by rfl, ?_⟩) ?_; rotate_left; (focus (intro w h; (try dsimp only at h); go_simp; (try with_reducible rfl))); simp only [Act.put, tA, tB, tC, tD, tE, tF])
  have hbd : Below w1.heap.size w1 w1.drew := (belowRefl w1).drew
  replace BX := hide (BX.out.below hbd)
  replace LX := hide (LX.out.below hbd)
  replace HZ := hide (HZ.out.trans (Zn.ofBelow m g hbd))
  replace HW := hide (Nat.le_trans HW.out hbd.size)
  replace HGW := hide (Nat.lt_of_lt_of_le HGW.out hbd.size)
  have NT0 : Hid (w.heap.size ≤ w1.drew.heap.size) := HW.out
  clear hbd
  generalize w1.drew = vd at *
  refine wpAnyH_ready (rs := [4, 8]) (by kernel_rfl) (by simp) ?_
  refine (AllReadyH.cons rfl (fun K hK => ?_) (AllReadyH.cons rfl (fun K hK => ?_) AllReadyH.nil))
  ·go_simp
   go_wp2_with fail
   refine (CK.out _ LX.out).mono ?_
   rintro ex v2 ⟨ra1, rc1, wa1, wc1, rfl, ht, hb⟩
   obtain ⟨q0, hq0⟩ : ∃ q0, q0 = v2.heap.size := ⟨_, rfl⟩
   have RT : Hid (TLie v2 vd.heap.size q0 (setW y.t y.t.ws) ra1 rc1 wa1 wc1) := by rw [hq0]; exact ht
   have HQ : Hid (q0 ≤ v2.heap.size) := by rw [hq0]; exact Nat.le_refl _
   have HPW : Hid (w.heap.size ≤ vd.heap.size) := HW.out
   have HPQ : Hid (vd.heap.size ≤ q0) := by rw [hq0]; exact hb.size
   have HGP : Hid (g < vd.heap.size) := HGW.out
   replace BX := hide (BX.out.below hb)
   replace LX := hide (LX.out.below hb)
   replace HZ := hide (HZ.out.trans (Zn.ofBelow m g hb))
   replace HW := hide (Nat.le_trans HW.out hb.size)
   replace HGW := hide (Nat.lt_of_lt_of_le HGW.out hb.size)
   clear ht hb CK
   generalize vd.heap.size = p0 at *
   clear hq0
   go_wp2_with fail
   refine hK.out _ _ (HS.out _ LX.out BX.out) (fun hHeldK => ?_)
   clear hK K
   (refine tk 5 ?_ rfl (Or.inl ⟨by rfl, ?_⟩) ?_; rotate_left; (focus (intro w h; (try dsimp only at h); go_simp; (try with_reducible rfl))); simp only [Act.put, tA, tB, tC, tD, tE, tF])
   (refine tk 6 ?_ rfl (Or.inl ⟨by rfl, ?_⟩) ?_; rotate_left; (focus (intro w h; (try dsimp only at h); go_simp; (try with_reducible rfl))); simp only [Act.put, tA, tB, tC, tD, tE, tF])
   (refine tk 7 ?_ rfl (Or.inl ⟨by rfl, ?_⟩) ?_; rotate_left; (focus (intro w h; (try dsimp only at h); go_simp; (try with_reducible rfl))); simp only [Act.put, tA, tB, tC, tD, tE, tF])
   refine wpAnyH_ready (rs := [8]) (by kernel_rfl) (by simp) ?_
   refine (AllReadyH.cons rfl (fun K hK => ?_) AllReadyH.nil)
   have NT : Hid (w.heap.size ≤ v2.heap.size) := HW.out
   go_simp
   have hba : Below v2.heap.size v2 (v2.alloc (.cells #[.int .i64 0, .int .i64 0, .int .i64 0, .int .i64 0, .slice none 0 0, .slice none 0 0, .bool false, .string ⟨#[]⟩] 56)) := (belowRefl v2).alloc (Nat.le_refl _) _
   have BT : Hid (Bx (v2.alloc (.cells #[.int .i64 0, .int .i64 0, .int .i64 0, .int .i64 0, .slice none 0 0, .slice none 0 0, .bool false, .string ⟨#[]⟩] 56)) v2.heap.size [.int .i64 0, .int .i64 0, .int .i64 0, .int .i64 0, .slice none 0 0, .slice none 0 0, .bool false, .string ⟨#[]⟩]) := Bx.new v2 [.int .i64 0, .int .i64 0, .int .i64 0, .int .i64 0, .slice none 0 0, .slice none 0 0, .bool false, .string ⟨#[]⟩] 56
   replace RT := hide (RT.out.below hba)
   have NB : Hid (v2.heap.size < p0 ∨ q0 ≤ v2.heap.size) := Or.inr HQ.out
   replace HQ := hide (Nat.le_trans HQ.out hba.size)
   have NG : Hid (g < v2.heap.size) := HGW.out
   replace BX := hide (BX.out.below hba)
   replace LX := hide (LX.out.below hba)
   replace HZ := hide (HZ.out.trans (Zn.ofBelow m g hba))
   replace HW := hide (Nat.le_trans HW.out hba.size)
   clear hba
   generalize hq1 : v2.heap.size = tb at *
   clear hq1
   generalize (v2.alloc (.cells #[.int .i64 0, .int .i64 0, .int .i64 0, .int .i64 0, .slice none 0 0, .slice none 0 0, .bool false, .string ⟨#[]⟩] 56)) = v3 at *
   refine hK.out _ _ (HS.out _ LX.out BX.out) (fun hHeldA => ?_)
   clear hK K
   refine wpAnyH_ready (rs := [9]) (by kernel_rfl) (by simp) ?_
   refine (AllReadyH.cons rfl (fun K hK => ?_) AllReadyH.nil)
   have o0 := BT.out.c0
   have fo0 := BT.out.fz 0
   have o1 := BT.out.c1
   have fo1 := BT.out.fz 1
   have o2 := BT.out.c2
   have fo2 := BT.out.fz 2
   have o3 := BT.out.c3
   have fo3 := BT.out.fz 3
   have o4 := BT.out.c4
   have fo4 := BT.out.fz 4
   have o5 := BT.out.c5
   have fo5 := BT.out.fz 5
   have o6 := BT.out.c6
   have fo6 := BT.out.fz 6
   have o7 := BT.out.c7
   have fo7 := BT.out.fz 7
   go_simp
   clear o0 fo0 o1 fo1 o2 fo2 o3 fo3 o4 fo4 o5 fo5 o6 fo6 o7 fo7
   have hlm := LX.out.lm
   have hmg := LX.out.mg
   have BT2 : Hid (Bx ((((((((v3.setCell ⟨tb, 0, none⟩ (.int .i64 y.t.id)).setCell ⟨tb, 1, none⟩ (.int .i64 y.t.st)).setCell ⟨tb, 2, none⟩ (.int .i64 y.t.snap)).setCell ⟨tb, 3, none⟩ (.int .i64 y.t.cs)).setCell ⟨tb, 4, none⟩ (.slice ra1 y.t.rs.length rc1)).setCell ⟨tb, 5, none⟩ (.slice wa1 y.t.ws.length wc1)).setCell ⟨tb, 6, none⟩ (.bool y.t.out)).setCell ⟨tb, 7, none⟩ (.string y.t.nm)) tb [.int .i64 y.t.id, .int .i64 y.t.st, .int .i64 y.t.snap, .int .i64 y.t.cs, .slice ra1 y.t.rs.length rc1, .slice wa1 y.t.ws.length wc1, .bool y.t.out, .string y.t.nm]) := (((((((BT.out.set 0 _).set 1 _).set 2 _).set 3 _).set 4 _).set 5 _).set 6 _).set 7 _
   have BX2 : Hid (Bx ((((((((v3.setCell ⟨tb, 0, none⟩ (.int .i64 y.t.id)).setCell ⟨tb, 1, none⟩ (.int .i64 y.t.st)).setCell ⟨tb, 2, none⟩ (.int .i64 y.t.snap)).setCell ⟨tb, 3, none⟩ (.int .i64 y.t.cs)).setCell ⟨tb, 4, none⟩ (.slice ra1 y.t.rs.length rc1)).setCell ⟨tb, 5, none⟩ (.slice wa1 y.t.ws.length wc1)).setCell ⟨tb, 6, none⟩ (.bool y.t.out)).setCell ⟨tb, 7, none⟩ (.string y.t.nm)) xb [.string x.1, .string x.2.1, .bool x.2.2]) := (((((((BX.out.setO (p := ⟨tb, 0, none⟩) (by have := NG.out; show tb ≠ xb; omega) _).setO (p := ⟨tb, 1, none⟩) (by have := NG.out; show tb ≠ xb; omega) _).setO (p := ⟨tb, 2, none⟩) (by have := NG.out; show tb ≠ xb; omega) _).setO (p := ⟨tb, 3, none⟩) (by have := NG.out; show tb ≠ xb; omega) _).setO (p := ⟨tb, 4, none⟩) (by have := NG.out; show tb ≠ xb; omega) _).setO (p := ⟨tb, 5, none⟩) (by have := NG.out; show tb ≠ xb; omega) _).setO (p := ⟨tb, 6, none⟩) (by have := NG.out; show tb ≠ xb; omega) _).setO (p := ⟨tb, 7, none⟩) (by have := NG.out; show tb ≠ xb; omega) _
   have LX2 : Hid (EnLx ((((((((v3.setCell ⟨tb, 0, none⟩ (.int .i64 y.t.id)).setCell ⟨tb, 1, none⟩ (.int .i64 y.t.st)).setCell ⟨tb, 2, none⟩ (.int .i64 y.t.snap)).setCell ⟨tb, 3, none⟩ (.int .i64 y.t.cs)).setCell ⟨tb, 4, none⟩ (.slice ra1 y.t.rs.length rc1)).setCell ⟨tb, 5, none⟩ (.slice wa1 y.t.ws.length wc1)).setCell ⟨tb, 6, none⟩ (.bool y.t.out)).setCell ⟨tb, 7, none⟩ (.string y.t.nm)) lo m g g g c) := (((((((LX.out.setr (a := ⟨tb, 0, none⟩) (by have := NG.out; show g ≤ tb; omega) (fun b e9 => by have := LX.out.o.up b e9; have := NG.out; show b ≠ tb; omega) _).setr (a := ⟨tb, 1, none⟩) (by have := NG.out; show g ≤ tb; omega) (fun b e9 => by have := LX.out.o.up b e9; have := NG.out; show b ≠ tb; omega) _).setr (a := ⟨tb, 2, none⟩) (by have := NG.out; show g ≤ tb; omega) (fun b e9 => by have := LX.out.o.up b e9; have := NG.out; show b ≠ tb; omega) _).setr (a := ⟨tb, 3, none⟩) (by have := NG.out; show g ≤ tb; omega) (fun b e9 => by have := LX.out.o.up b e9; have := NG.out; show b ≠ tb; omega) _).setr (a := ⟨tb, 4, none⟩) (by have := NG.out; show g ≤ tb; omega) (fun b e9 => by have := LX.out.o.up b e9; have := NG.out; show b ≠ tb; omega) _).setr (a := ⟨tb, 5, none⟩) (by have := NG.out; show g ≤ tb; omega) (fun b e9 => by have := LX.out.o.up b e9; have := NG.out; show b ≠ tb; omega) _).setr (a := ⟨tb, 6, none⟩) (by have := NG.out; show g ≤ tb; omega) (fun b e9 => by have := LX.out.o.up b e9; have := NG.out; show b ≠ tb; omega) _).setr (a := ⟨tb, 7, none⟩) (by have := NG.out; show g ≤ tb; omega) (fun b e9 => by have := LX.out.o.up b e9; have := NG.out; show b ≠ tb; omega) _
   have RT2 : Hid (TLie ((((((((v3.setCell ⟨tb, 0, none⟩ (.int .i64 y.t.id)).setCell ⟨tb, 1, none⟩ (.int .i64 y.t.st)).setCell ⟨tb, 2, none⟩ (.int .i64 y.t.snap)).setCell ⟨tb, 3, none⟩ (.int .i64 y.t.cs)).setCell ⟨tb, 4, none⟩ (.slice ra1 y.t.rs.length rc1)).setCell ⟨tb, 5, none⟩ (.slice wa1 y.t.ws.length wc1)).setCell ⟨tb, 6, none⟩ (.bool y.t.out)).setCell ⟨tb, 7, none⟩ (.string y.t.nm)) p0 q0 (setW y.t y.t.ws) ra1 rc1 wa1 wc1) := (((((((RT.out.setO (a := ⟨tb, 0, none⟩) NB.out _).setO (a := ⟨tb, 1, none⟩) NB.out _).setO (a := ⟨tb, 2, none⟩) NB.out _).setO (a := ⟨tb, 3, none⟩) NB.out _).setO (a := ⟨tb, 4, none⟩) NB.out _).setO (a := ⟨tb, 5, none⟩) NB.out _).setO (a := ⟨tb, 6, none⟩) NB.out _).setO (a := ⟨tb, 7, none⟩) NB.out _
   have HZ2 : Hid (Zn m g w ((((((((v3.setCell ⟨tb, 0, none⟩ (.int .i64 y.t.id)).setCell ⟨tb, 1, none⟩ (.int .i64 y.t.st)).setCell ⟨tb, 2, none⟩ (.int .i64 y.t.snap)).setCell ⟨tb, 3, none⟩ (.int .i64 y.t.cs)).setCell ⟨tb, 4, none⟩ (.slice ra1 y.t.rs.length rc1)).setCell ⟨tb, 5, none⟩ (.slice wa1 y.t.ws.length wc1)).setCell ⟨tb, 6, none⟩ (.bool y.t.out)).setCell ⟨tb, 7, none⟩ (.string y.t.nm))) := (((((((HZ.out.setn (a := ⟨tb, 0, none⟩) NT.out _).setn (a := ⟨tb, 1, none⟩) NT.out _).setn (a := ⟨tb, 2, none⟩) NT.out _).setn (a := ⟨tb, 3, none⟩) NT.out _).setn (a := ⟨tb, 4, none⟩) NT.out _).setn (a := ⟨tb, 5, none⟩) NT.out _).setn (a := ⟨tb, 6, none⟩) NT.out _).setn (a := ⟨tb, 7, none⟩) NT.out _
   have HQ2 : Hid (q0 ≤ ((((((((v3.setCell ⟨tb, 0, none⟩ (.int .i64 y.t.id)).setCell ⟨tb, 1, none⟩ (.int .i64 y.t.st)).setCell ⟨tb, 2, none⟩ (.int .i64 y.t.snap)).setCell ⟨tb, 3, none⟩ (.int .i64 y.t.cs)).setCell ⟨tb, 4, none⟩ (.slice ra1 y.t.rs.length rc1)).setCell ⟨tb, 5, none⟩ (.slice wa1 y.t.ws.length wc1)).setCell ⟨tb, 6, none⟩ (.bool y.t.out)).setCell ⟨tb, 7, none⟩ (.string y.t.nm)).heap.size) := le_set (le_set (le_set (le_set (le_set (le_set (le_set (le_set HQ.out _ _) _ _) _ _) _ _) _ _) _ _) _ _) _ _
   clear BT BX LX RT HZ HQ
   generalize ((((((((v3.setCell ⟨tb, 0, none⟩ (.int .i64 y.t.id)).setCell ⟨tb, 1, none⟩ (.int .i64 y.t.st)).setCell ⟨tb, 2, none⟩ (.int .i64 y.t.snap)).setCell ⟨tb, 3, none⟩ (.int .i64 y.t.cs)).setCell ⟨tb, 4, none⟩ (.slice ra1 y.t.rs.length rc1)).setCell ⟨tb, 5, none⟩ (.slice wa1 y.t.ws.length wc1)).setCell ⟨tb, 6, none⟩ (.bool y.t.out)).setCell ⟨tb, 7, none⟩ (.string y.t.nm)) = v8 at *
   refine hK.out _ _ (HS.out _ LX2.out BX2.out) (fun hHeldS => ?_)
   clear hK K
   (refine tk 10 ?_ rfl (Or.inl ⟨by rfl, ?_⟩) ?_; rotate_left; (focus (intro w h; (try dsimp only at h); go_simp; (try with_reducible rfl))); simp only [Act.put, tA, tB, tC, tD, tE, tF])
   refine wpAnyH_done (by kernel_rfl) ?_ _
   go_wp2
   go_ret
   exact ⟨c, q0, q0, ret_int HC.out.symm, rfl, rfl, rfl, rfl, by rw [HT.out]; exact HID.out, LX2.out.q0 q0 (by have := HGP.out; have := HPQ.out; omega), HQ2.out, by have := HPW.out; have := HPQ.out; omega, HZ2.out⟩
  ·have NT : Hid (w.heap.size ≤ vd.heap.size) := NT0.out
   go_simp
   have hba : Below vd.heap.size vd (vd.alloc (.cells #[.int .i64 0, .int .i64 0, .int .i64 0, .int .i64 0, .slice none 0 0, .slice none 0 0, .bool false, .string ⟨#[]⟩] 56)) := (belowRefl vd).alloc (Nat.le_refl _) _
   have BT : Hid (Bx (vd.alloc (.cells #[.int .i64 0, .int .i64 0, .int .i64 0, .int .i64 0, .slice none 0 0, .slice none 0 0, .bool false, .string ⟨#[]⟩] 56)) vd.heap.size [.int .i64 0, .int .i64 0, .int .i64 0, .int .i64 0, .slice none 0 0, .slice none 0 0, .bool false, .string ⟨#[]⟩]) := Bx.new vd [.int .i64 0, .int .i64 0, .int .i64 0, .int .i64 0, .slice none 0 0, .slice none 0 0, .bool false, .string ⟨#[]⟩] 56
   have NB : Hid (vd.heap.size < (vd.alloc (.cells #[.int .i64 0, .int .i64 0, .int .i64 0, .int .i64 0, .slice none 0 0, .slice none 0 0, .bool false, .string ⟨#[]⟩] 56)).heap.size) := BT.out.lt
   have NG : Hid (g < vd.heap.size) := HGW.out
   replace BX := hide (BX.out.below hba)
   replace LX := hide (LX.out.below hba)
   replace HZ := hide (HZ.out.trans (Zn.ofBelow m g hba))
   replace HW := hide (Nat.le_trans HW.out hba.size)
   clear hba
   generalize vd.heap.size = tb at *
   generalize (vd.alloc (.cells #[.int .i64 0, .int .i64 0, .int .i64 0, .int .i64 0, .slice none 0 0, .slice none 0 0, .bool false, .string ⟨#[]⟩] 56)) = v2 at *
   refine hK.out _ _ (HS.out _ LX.out BX.out) (fun hHeldA => ?_)
   clear hK K
   refine wpAnyH_ready (rs := [4]) (by kernel_rfl) (by simp) ?_
   refine (AllReadyH.cons rfl (fun K hK => ?_) AllReadyH.nil)
   replace HGW : Hid (g < v2.heap.size) := Nat.lt_trans NG.out NB.out
   go_simp
   go_wp2_with fail
   refine (CK.out _ LX.out).mono ?_
   rintro ex v3 ⟨ra1, rc1, wa1, wc1, rfl, ht, hb⟩
   obtain ⟨q0, hq0⟩ : ∃ q0, q0 = v3.heap.size := ⟨_, rfl⟩
   have RT : Hid (TLie v3 v2.heap.size q0 (setW y.t y.t.ws) ra1 rc1 wa1 wc1) := by rw [hq0]; exact ht
   have HQ : Hid (q0 ≤ v3.heap.size) := by rw [hq0]; exact Nat.le_refl _
   have HPW : Hid (w.heap.size ≤ v2.heap.size) := HW.out
   have HPQ : Hid (v2.heap.size ≤ q0) := by rw [hq0]; exact hb.size
   have HGP : Hid (g < v2.heap.size) := HGW.out
   replace BT := hide (BT.out.below hb)
   have NB2 : Hid (tb < v2.heap.size ∨ q0 ≤ tb) := Or.inl NB.out
   replace BX := hide (BX.out.below hb)
   replace LX := hide (LX.out.below hb)
   replace HZ := hide (HZ.out.trans (Zn.ofBelow m g hb))
   replace HW := hide (Nat.le_trans HW.out hb.size)
   replace HGW := hide (Nat.lt_of_lt_of_le HGW.out hb.size)
   clear ht hb CK
   generalize v2.heap.size = p0 at *
   clear hq0
   go_wp2_with fail
   refine hK.out _ _ (HS.out _ LX.out BX.out) (fun hHeldK => ?_)
   clear hK K
   (refine tk 5 ?_ rfl (Or.inl ⟨by rfl, ?_⟩) ?_; rotate_left; (focus (intro w h; (try dsimp only at h); go_simp; (try with_reducible rfl))); simp only [Act.put, tA, tB, tC, tD, tE, tF])
   (refine tk 6 ?_ rfl (Or.inl ⟨by rfl, ?_⟩) ?_; rotate_left; (focus (intro w h; (try dsimp only at h); go_simp; (try with_reducible rfl))); simp only [Act.put, tA, tB, tC, tD, tE, tF])
   (refine tk 7 ?_ rfl (Or.inl ⟨by rfl, ?_⟩) ?_; rotate_left; (focus (intro w h; (try dsimp only at h); go_simp; (try with_reducible rfl))); simp only [Act.put, tA, tB, tC, tD, tE, tF])
   refine wpAnyH_ready (rs := [9]) (by kernel_rfl) (by simp) ?_
   refine (AllReadyH.cons rfl (fun K hK => ?_) AllReadyH.nil)
   have o0 := BT.out.c0
   have fo0 := BT.out.fz 0
   have o1 := BT.out.c1
   have fo1 := BT.out.fz 1
   have o2 := BT.out.c2
   have fo2 := BT.out.fz 2
   have o3 := BT.out.c3
   have fo3 := BT.out.fz 3
   have o4 := BT.out.c4
   have fo4 := BT.out.fz 4
   have o5 := BT.out.c5
   have fo5 := BT.out.fz 5
   have o6 := BT.out.c6
   have fo6 := BT.out.fz 6
   have o7 := BT.out.c7
   have fo7 := BT.out.fz 7
   go_simp
   clear o0 fo0 o1 fo1 o2 fo2 o3 fo3 o4 fo4 o5 fo5 o6 fo6 o7 fo7
   have hlm := LX.out.lm
   have hmg := LX.out.mg
   have BT2 : Hid (Bx ((((((((v3.setCell ⟨tb, 0, none⟩ (.int .i64 y.t.id)).setCell ⟨tb, 1, none⟩ (.int .i64 y.t.st)).setCell ⟨tb, 2, none⟩ (.int .i64 y.t.snap)).setCell ⟨tb, 3, none⟩ (.int .i64 y.t.cs)).setCell ⟨tb, 4, none⟩ (.slice ra1 y.t.rs.length rc1)).setCell ⟨tb, 5, none⟩ (.slice wa1 y.t.ws.length wc1)).setCell ⟨tb, 6, none⟩ (.bool y.t.out)).setCell ⟨tb, 7, none⟩ (.string y.t.nm)) tb [.int .i64 y.t.id, .int .i64 y.t.st, .int .i64 y.t.snap, .int .i64 y.t.cs, .slice ra1 y.t.rs.length rc1, .slice wa1 y.t.ws.length wc1, .bool y.t.out, .string y.t.nm]) := (((((((BT.out.set 0 _).set 1 _).set 2 _).set 3 _).set 4 _).set 5 _).set 6 _).set 7 _
   have BX2 : Hid (Bx ((((((((v3.setCell ⟨tb, 0, none⟩ (.int .i64 y.t.id)).setCell ⟨tb, 1, none⟩ (.int .i64 y.t.st)).setCell ⟨tb, 2, none⟩ (.int .i64 y.t.snap)).setCell ⟨tb, 3, none⟩ (.int .i64 y.t.cs)).setCell ⟨tb, 4, none⟩ (.slice ra1 y.t.rs.length rc1)).setCell ⟨tb, 5, none⟩ (.slice wa1 y.t.ws.length wc1)).setCell ⟨tb, 6, none⟩ (.bool y.t.out)).setCell ⟨tb, 7, none⟩ (.string y.t.nm)) xb [.string x.1, .string x.2.1, .bool x.2.2]) := (((((((BX.out.setO (p := ⟨tb, 0, none⟩) (by have := NG.out; show tb ≠ xb; omega) _).setO (p := ⟨tb, 1, none⟩) (by have := NG.out; show tb ≠ xb; omega) _).setO (p := ⟨tb, 2, none⟩) (by have := NG.out; show tb ≠ xb; omega) _).setO (p := ⟨tb, 3, none⟩) (by have := NG.out; show tb ≠ xb; omega) _).setO (p := ⟨tb, 4, none⟩) (by have := NG.out; show tb ≠ xb; omega) _).setO (p := ⟨tb, 5, none⟩) (by have := NG.out; show tb ≠ xb; omega) _).setO (p := ⟨tb, 6, none⟩) (by have := NG.out; show tb ≠ xb; omega) _).setO (p := ⟨tb, 7, none⟩) (by have := NG.out; show tb ≠ xb; omega) _
   have LX2 : Hid (EnLx ((((((((v3.setCell ⟨tb, 0, none⟩ (.int .i64 y.t.id)).setCell ⟨tb, 1, none⟩ (.int .i64 y.t.st)).setCell ⟨tb, 2, none⟩ (.int .i64 y.t.snap)).setCell ⟨tb, 3, none⟩ (.int .i64 y.t.cs)).setCell ⟨tb, 4, none⟩ (.slice ra1 y.t.rs.length rc1)).setCell ⟨tb, 5, none⟩ (.slice wa1 y.t.ws.length wc1)).setCell ⟨tb, 6, none⟩ (.bool y.t.out)).setCell ⟨tb, 7, none⟩ (.string y.t.nm)) lo m g g g c) := (((((((LX.out.setr (a := ⟨tb, 0, none⟩) (by have := NG.out; show g ≤ tb; omega) (fun b e9 => by have := LX.out.o.up b e9; have := NG.out; show b ≠ tb; omega) _).setr (a := ⟨tb, 1, none⟩) (by have := NG.out; show g ≤ tb; omega) (fun b e9 => by have := LX.out.o.up b e9; have := NG.out; show b ≠ tb; omega) _).setr (a := ⟨tb, 2, none⟩) (by have := NG.out; show g ≤ tb; omega) (fun b e9 => by have := LX.out.o.up b e9; have := NG.out; show b ≠ tb; omega) _).setr (a := ⟨tb, 3, none⟩) (by have := NG.out; show g ≤ tb; omega) (fun b e9 => by have := LX.out.o.up b e9; have := NG.out; show b ≠ tb; omega) _).setr (a := ⟨tb, 4, none⟩) (by have := NG.out; show g ≤ tb; omega) (fun b e9 => by have := LX.out.o.up b e9; have := NG.out; show b ≠ tb; omega) _).setr (a := ⟨tb, 5, none⟩) (by have := NG.out; show g ≤ tb; omega) (fun b e9 => by have := LX.out.o.up b e9; have := NG.out; show b ≠ tb; omega) _).setr (a := ⟨tb, 6, none⟩) (by have := NG.out; show g ≤ tb; omega) (fun b e9 => by have := LX.out.o.up b e9; have := NG.out; show b ≠ tb; omega) _).setr (a := ⟨tb, 7, none⟩) (by have := NG.out; show g ≤ tb; omega) (fun b e9 => by have := LX.out.o.up b e9; have := NG.out; show b ≠ tb; omega) _
   have RT2 : Hid (TLie ((((((((v3.setCell ⟨tb, 0, none⟩ (.int .i64 y.t.id)).setCell ⟨tb, 1, none⟩ (.int .i64 y.t.st)).setCell ⟨tb, 2, none⟩ (.int .i64 y.t.snap)).setCell ⟨tb, 3, none⟩ (.int .i64 y.t.cs)).setCell ⟨tb, 4, none⟩ (.slice ra1 y.t.rs.length rc1)).setCell ⟨tb, 5, none⟩ (.slice wa1 y.t.ws.length wc1)).setCell ⟨tb, 6, none⟩ (.bool y.t.out)).setCell ⟨tb, 7, none⟩ (.string y.t.nm)) p0 q0 (setW y.t y.t.ws) ra1 rc1 wa1 wc1) := (((((((RT.out.setO (a := ⟨tb, 0, none⟩) NB2.out _).setO (a := ⟨tb, 1, none⟩) NB2.out _).setO (a := ⟨tb, 2, none⟩) NB2.out _).setO (a := ⟨tb, 3, none⟩) NB2.out _).setO (a := ⟨tb, 4, none⟩) NB2.out _).setO (a := ⟨tb, 5, none⟩) NB2.out _).setO (a := ⟨tb, 6, none⟩) NB2.out _).setO (a := ⟨tb, 7, none⟩) NB2.out _
   have HZ2 : Hid (Zn m g w ((((((((v3.setCell ⟨tb, 0, none⟩ (.int .i64 y.t.id)).setCell ⟨tb, 1, none⟩ (.int .i64 y.t.st)).setCell ⟨tb, 2, none⟩ (.int .i64 y.t.snap)).setCell ⟨tb, 3, none⟩ (.int .i64 y.t.cs)).setCell ⟨tb, 4, none⟩ (.slice ra1 y.t.rs.length rc1)).setCell ⟨tb, 5, none⟩ (.slice wa1 y.t.ws.length wc1)).setCell ⟨tb, 6, none⟩ (.bool y.t.out)).setCell ⟨tb, 7, none⟩ (.string y.t.nm))) := (((((((HZ.out.setn (a := ⟨tb, 0, none⟩) NT.out _).setn (a := ⟨tb, 1, none⟩) NT.out _).setn (a := ⟨tb, 2, none⟩) NT.out _).setn (a := ⟨tb, 3, none⟩) NT.out _).setn (a := ⟨tb, 4, none⟩) NT.out _).setn (a := ⟨tb, 5, none⟩) NT.out _).setn (a := ⟨tb, 6, none⟩) NT.out _).setn (a := ⟨tb, 7, none⟩) NT.out _
   have HQ2 : Hid (q0 ≤ ((((((((v3.setCell ⟨tb, 0, none⟩ (.int .i64 y.t.id)).setCell ⟨tb, 1, none⟩ (.int .i64 y.t.st)).setCell ⟨tb, 2, none⟩ (.int .i64 y.t.snap)).setCell ⟨tb, 3, none⟩ (.int .i64 y.t.cs)).setCell ⟨tb, 4, none⟩ (.slice ra1 y.t.rs.length rc1)).setCell ⟨tb, 5, none⟩ (.slice wa1 y.t.ws.length wc1)).setCell ⟨tb, 6, none⟩ (.bool y.t.out)).setCell ⟨tb, 7, none⟩ (.string y.t.nm)).heap.size) := le_set (le_set (le_set (le_set (le_set (le_set (le_set (le_set HQ.out _ _) _ _) _ _) _ _) _ _) _ _) _ _) _ _
   clear BT BX LX RT HZ HQ
   generalize ((((((((v3.setCell ⟨tb, 0, none⟩ (.int .i64 y.t.id)).setCell ⟨tb, 1, none⟩ (.int .i64 y.t.st)).setCell ⟨tb, 2, none⟩ (.int .i64 y.t.snap)).setCell ⟨tb, 3, none⟩ (.int .i64 y.t.cs)).setCell ⟨tb, 4, none⟩ (.slice ra1 y.t.rs.length rc1)).setCell ⟨tb, 5, none⟩ (.slice wa1 y.t.ws.length wc1)).setCell ⟨tb, 6, none⟩ (.bool y.t.out)).setCell ⟨tb, 7, none⟩ (.string y.t.nm)) = v8 at *
   refine hK.out _ _ (HS.out _ LX2.out BX2.out) (fun hHeldS => ?_)
   clear hK K
   (refine tk 10 ?_ rfl (Or.inl ⟨by rfl, ?_⟩) ?_; rotate_left; (focus (intro w h; (try dsimp only at h); go_simp; (try with_reducible rfl))); simp only [Act.put, tA, tB, tC, tD, tE, tF])
   refine wpAnyH_done (by kernel_rfl) ?_ _
   go_wp2
   go_ret
   exact ⟨c, q0, q0, ret_int HC.out.symm, rfl, rfl, rfl, rfl, by rw [HT.out]; exact HID.out, LX2.out.q0 q0 (by have := HGP.out; have := HPQ.out; omega), HQ2.out, by have := HPW.out; have := HPQ.out; omega, HZ2.out⟩
 ·have hwk : wkB y.t x = true := hwk0
  have HC : Hid (pkC y.t x = 0) := HC0.out
  have HT : Hid (pkT y.t x = setW y.t (putS y.t.ws x)) := by show _ = _; rw [HT0.out, if_pos ⟨rfl, rfl⟩]
  clear HC0 HT0
  go_wp2
  have CK : Hid (∀ W : World, EnLx W lo m g g g c → Calls Tryz.prog 43 #[.agg #[.int .i64 y.t.id, .int .i64 y.t.st, .int .i64 y.t.snap, .int .i64 y.t.cs, .slice y.ra y.t.rs.length y.rc, .slice y.wa y.t.ws.length y.wc, .bool y.t.out, .string y.t.nm], .agg #[.string x.1, .string x.2.1, .bool x.2.2]] W fun e w' => ∃ ra1 rc1 wa1 wc1, e = .returned (.tuple #[.agg #[.int .i64 y.t.id, .int .i64 y.t.st, .int .i64 y.t.snap, .int .i64 y.t.cs, .slice ra1 y.t.rs.length rc1, .slice wa1 (putS y.t.ws x).length wc1, .bool y.t.out, .string y.t.nm], .bool true]) ∧ TLie w' W.heap.size w'.heap.size (setW y.t (putS y.t.ws x)) ra1 rc1 wa1 wc1 ∧ Below W.heap.size W w') := fun W h => iwk_yes y.t y.ra y.wa y.rc y.wc x HFT.out hx hwk W (HRW.out W h)
  refine wp_region_held_drew (S := fun w' => w'.cell? ⟨ba, k * 8, none⟩ = some (.int .i64 y.t.id) ∧ w'.cell? ⟨ba, k * 8 + 1, none⟩ = some (.int .i64 y.t.st) ∧ w'.cell? ⟨ba, k * 8 + 2, none⟩ = some (.int .i64 y.t.snap) ∧ w'.cell? ⟨ba, k * 8 + 3, none⟩ = some (.int .i64 y.t.cs) ∧ w'.cell? ⟨ba, k * 8 + 4, none⟩ = some (.slice y.ra y.t.rs.length y.rc) ∧ w'.cell? ⟨ba, k * 8 + 5, none⟩ = some (.slice y.wa y.t.ws.length y.wc) ∧ w'.cell? ⟨ba, k * 8 + 6, none⟩ = some (.bool y.t.out) ∧ w'.cell? ⟨ba, k * 8 + 7, none⟩ = some (.string y.t.nm) ∧ w'.cell? ⟨xb, 0, none⟩ = some (.string x.1) ∧ w'.cell? ⟨xb, 1, none⟩ = some (.string x.2.1) ∧ w'.cell? ⟨xb, 2, none⟩ = some (.bool x.2.2)) (by kernel_rfl) (HS.out w1 LX.out BX.out) (fun hHeld => ?_)
  (refine tk 0 ?_ rfl (Or.inl ⟨by rfl, ?_⟩) ?_; rotate_left; (focus (intro w h; (try dsimp only at h); go_simp; (try with_reducible rfl))); simp only [Act.put, tA, tB, tD, tE, tF])
  (refine tk 1 ?_ rfl (Or.inl ⟨by rfl, ?_⟩) ?_; rotate_left; (focus (intro w h; (try dsimp only at h); go_simp; (try with_reducible rfl))); simp only [Act.put, tA, tB, tC, tD, tE, tF])
  (refine tk 2 ?_ rfl (Or.inl ⟨by rfl, ?_⟩) ?_; rotate_left; (focus (intro w h; (try dsimp only at h); go_simp; (try with_reducible rfl))); simp only [Act.put, tA, tB, tC, tD, tE, tF])
  (refine tk 3 ?_ rfl (Or.inl ⟨by rfl, ?_⟩) ?_; rotate_left; (focus (intro w h; (try dsimp only at h); go_simp; (try with_reducible rfl))); simp only [Act.put, tA, tB, tC, tD, tE, tF])
  have hbd : Below w1.heap.size w1 w1.drew := (belowRefl w1).drew
  replace BX := hide (BX.out.below hbd)
  replace LX := hide (LX.out.below hbd)
  replace HZ := hide (HZ.out.trans (Zn.ofBelow m g hbd))
  replace HW := hide (Nat.le_trans HW.out hbd.size)
  replace HGW := hide (Nat.lt_of_lt_of_le HGW.out hbd.size)
  have NT0 : Hid (w.heap.size ≤ w1.drew.heap.size) := HW.out
  clear hbd
  generalize w1.drew = vd at *
  refine wpAnyH_ready (rs := [4, 8]) (by kernel_rfl) (by simp) ?_
  refine (AllReadyH.cons rfl (fun K hK => ?_) (AllReadyH.cons rfl (fun K hK => ?_) AllReadyH.nil))
  ·go_simp
   go_wp2_with fail
   refine (CK.out _ LX.out).mono ?_
   rintro ex v2 ⟨ra1, rc1, wa1, wc1, rfl, ht, hb⟩
   obtain ⟨q0, hq0⟩ : ∃ q0, q0 = v2.heap.size := ⟨_, rfl⟩
   have RT : Hid (TLie v2 vd.heap.size q0 (setW y.t (putS y.t.ws x)) ra1 rc1 wa1 wc1) := by rw [hq0]; exact ht
   have HQ : Hid (q0 ≤ v2.heap.size) := by rw [hq0]; exact Nat.le_refl _
   have HPW : Hid (w.heap.size ≤ vd.heap.size) := HW.out
   have HPQ : Hid (vd.heap.size ≤ q0) := by rw [hq0]; exact hb.size
   have HGP : Hid (g < vd.heap.size) := HGW.out
   replace BX := hide (BX.out.below hb)
   replace LX := hide (LX.out.below hb)
   replace HZ := hide (HZ.out.trans (Zn.ofBelow m g hb))
   replace HW := hide (Nat.le_trans HW.out hb.size)
   replace HGW := hide (Nat.lt_of_lt_of_le HGW.out hb.size)
   clear ht hb CK
   generalize vd.heap.size = p0 at *
   clear hq0
   go_wp2_with fail
   refine hK.out _ _ (HS.out _ LX.out BX.out) (fun hHeldK => ?_)
   clear hK K
   (refine tk 5 ?_ rfl (Or.inl ⟨by rfl, ?_⟩) ?_; rotate_left; (focus (intro w h; (try dsimp only at h); go_simp; (try with_reducible rfl))); simp only [Act.put, tA, tB, tC, tD, tE, tF])
   (refine tk 6 ?_ rfl (Or.inl ⟨by rfl, ?_⟩) ?_; rotate_left; (focus (intro w h; (try dsimp only at h); go_simp; (try with_reducible rfl))); simp only [Act.put, tA, tB, tC, tD, tE, tF])
   (refine tk 7 ?_ rfl (Or.inl ⟨by rfl, ?_⟩) ?_; rotate_left; (focus (intro w h; (try dsimp only at h); go_simp; (try with_reducible rfl))); simp only [Act.put, tA, tB, tC, tD, tE, tF])
   refine wpAnyH_ready (rs := [8]) (by kernel_rfl) (by simp) ?_
   refine (AllReadyH.cons rfl (fun K hK => ?_) AllReadyH.nil)
   have NT : Hid (w.heap.size ≤ v2.heap.size) := HW.out
   go_simp
   have hba : Below v2.heap.size v2 (v2.alloc (.cells #[.int .i64 0, .int .i64 0, .int .i64 0, .int .i64 0, .slice none 0 0, .slice none 0 0, .bool false, .string ⟨#[]⟩] 56)) := (belowRefl v2).alloc (Nat.le_refl _) _
   have BT : Hid (Bx (v2.alloc (.cells #[.int .i64 0, .int .i64 0, .int .i64 0, .int .i64 0, .slice none 0 0, .slice none 0 0, .bool false, .string ⟨#[]⟩] 56)) v2.heap.size [.int .i64 0, .int .i64 0, .int .i64 0, .int .i64 0, .slice none 0 0, .slice none 0 0, .bool false, .string ⟨#[]⟩]) := Bx.new v2 [.int .i64 0, .int .i64 0, .int .i64 0, .int .i64 0, .slice none 0 0, .slice none 0 0, .bool false, .string ⟨#[]⟩] 56
   replace RT := hide (RT.out.below hba)
   have NB : Hid (v2.heap.size < p0 ∨ q0 ≤ v2.heap.size) := Or.inr HQ.out
   replace HQ := hide (Nat.le_trans HQ.out hba.size)
   have NG : Hid (g < v2.heap.size) := HGW.out
   replace BX := hide (BX.out.below hba)
   replace LX := hide (LX.out.below hba)
   replace HZ := hide (HZ.out.trans (Zn.ofBelow m g hba))
   replace HW := hide (Nat.le_trans HW.out hba.size)
   clear hba
   generalize hq1 : v2.heap.size = tb at *
   clear hq1
   generalize (v2.alloc (.cells #[.int .i64 0, .int .i64 0, .int .i64 0, .int .i64 0, .slice none 0 0, .slice none 0 0, .bool false, .string ⟨#[]⟩] 56)) = v3 at *
   refine hK.out _ _ (HS.out _ LX.out BX.out) (fun hHeldA => ?_)
   clear hK K
   refine wpAnyH_ready (rs := [9]) (by kernel_rfl) (by simp) ?_
   refine (AllReadyH.cons rfl (fun K hK => ?_) AllReadyH.nil)
   have o0 := BT.out.c0
   have fo0 := BT.out.fz 0
   have o1 := BT.out.c1
   have fo1 := BT.out.fz 1
   have o2 := BT.out.c2
   have fo2 := BT.out.fz 2
   have o3 := BT.out.c3
   have fo3 := BT.out.fz 3
   have o4 := BT.out.c4
   have fo4 := BT.out.fz 4
   have o5 := BT.out.c5
   have fo5 := BT.out.fz 5
   have o6 := BT.out.c6
   have fo6 := BT.out.fz 6
   have o7 := BT.out.c7
   have fo7 := BT.out.fz 7
   go_simp
   clear o0 fo0 o1 fo1 o2 fo2 o3 fo3 o4 fo4 o5 fo5 o6 fo6 o7 fo7
   have hlm := LX.out.lm
   have hmg := LX.out.mg
   have BT2 : Hid (Bx ((((((((v3.setCell ⟨tb, 0, none⟩ (.int .i64 y.t.id)).setCell ⟨tb, 1, none⟩ (.int .i64 y.t.st)).setCell ⟨tb, 2, none⟩ (.int .i64 y.t.snap)).setCell ⟨tb, 3, none⟩ (.int .i64 y.t.cs)).setCell ⟨tb, 4, none⟩ (.slice ra1 y.t.rs.length rc1)).setCell ⟨tb, 5, none⟩ (.slice wa1 (putS y.t.ws x).length wc1)).setCell ⟨tb, 6, none⟩ (.bool y.t.out)).setCell ⟨tb, 7, none⟩ (.string y.t.nm)) tb [.int .i64 y.t.id, .int .i64 y.t.st, .int .i64 y.t.snap, .int .i64 y.t.cs, .slice ra1 y.t.rs.length rc1, .slice wa1 (putS y.t.ws x).length wc1, .bool y.t.out, .string y.t.nm]) := (((((((BT.out.set 0 _).set 1 _).set 2 _).set 3 _).set 4 _).set 5 _).set 6 _).set 7 _
   have BX2 : Hid (Bx ((((((((v3.setCell ⟨tb, 0, none⟩ (.int .i64 y.t.id)).setCell ⟨tb, 1, none⟩ (.int .i64 y.t.st)).setCell ⟨tb, 2, none⟩ (.int .i64 y.t.snap)).setCell ⟨tb, 3, none⟩ (.int .i64 y.t.cs)).setCell ⟨tb, 4, none⟩ (.slice ra1 y.t.rs.length rc1)).setCell ⟨tb, 5, none⟩ (.slice wa1 (putS y.t.ws x).length wc1)).setCell ⟨tb, 6, none⟩ (.bool y.t.out)).setCell ⟨tb, 7, none⟩ (.string y.t.nm)) xb [.string x.1, .string x.2.1, .bool x.2.2]) := (((((((BX.out.setO (p := ⟨tb, 0, none⟩) (by have := NG.out; show tb ≠ xb; omega) _).setO (p := ⟨tb, 1, none⟩) (by have := NG.out; show tb ≠ xb; omega) _).setO (p := ⟨tb, 2, none⟩) (by have := NG.out; show tb ≠ xb; omega) _).setO (p := ⟨tb, 3, none⟩) (by have := NG.out; show tb ≠ xb; omega) _).setO (p := ⟨tb, 4, none⟩) (by have := NG.out; show tb ≠ xb; omega) _).setO (p := ⟨tb, 5, none⟩) (by have := NG.out; show tb ≠ xb; omega) _).setO (p := ⟨tb, 6, none⟩) (by have := NG.out; show tb ≠ xb; omega) _).setO (p := ⟨tb, 7, none⟩) (by have := NG.out; show tb ≠ xb; omega) _
   have LX2 : Hid (EnLx ((((((((v3.setCell ⟨tb, 0, none⟩ (.int .i64 y.t.id)).setCell ⟨tb, 1, none⟩ (.int .i64 y.t.st)).setCell ⟨tb, 2, none⟩ (.int .i64 y.t.snap)).setCell ⟨tb, 3, none⟩ (.int .i64 y.t.cs)).setCell ⟨tb, 4, none⟩ (.slice ra1 y.t.rs.length rc1)).setCell ⟨tb, 5, none⟩ (.slice wa1 (putS y.t.ws x).length wc1)).setCell ⟨tb, 6, none⟩ (.bool y.t.out)).setCell ⟨tb, 7, none⟩ (.string y.t.nm)) lo m g g g c) := (((((((LX.out.setr (a := ⟨tb, 0, none⟩) (by have := NG.out; show g ≤ tb; omega) (fun b e9 => by have := LX.out.o.up b e9; have := NG.out; show b ≠ tb; omega) _).setr (a := ⟨tb, 1, none⟩) (by have := NG.out; show g ≤ tb; omega) (fun b e9 => by have := LX.out.o.up b e9; have := NG.out; show b ≠ tb; omega) _).setr (a := ⟨tb, 2, none⟩) (by have := NG.out; show g ≤ tb; omega) (fun b e9 => by have := LX.out.o.up b e9; have := NG.out; show b ≠ tb; omega) _).setr (a := ⟨tb, 3, none⟩) (by have := NG.out; show g ≤ tb; omega) (fun b e9 => by have := LX.out.o.up b e9; have := NG.out; show b ≠ tb; omega) _).setr (a := ⟨tb, 4, none⟩) (by have := NG.out; show g ≤ tb; omega) (fun b e9 => by have := LX.out.o.up b e9; have := NG.out; show b ≠ tb; omega) _).setr (a := ⟨tb, 5, none⟩) (by have := NG.out; show g ≤ tb; omega) (fun b e9 => by have := LX.out.o.up b e9; have := NG.out; show b ≠ tb; omega) _).setr (a := ⟨tb, 6, none⟩) (by have := NG.out; show g ≤ tb; omega) (fun b e9 => by have := LX.out.o.up b e9; have := NG.out; show b ≠ tb; omega) _).setr (a := ⟨tb, 7, none⟩) (by have := NG.out; show g ≤ tb; omega) (fun b e9 => by have := LX.out.o.up b e9; have := NG.out; show b ≠ tb; omega) _
   have RT2 : Hid (TLie ((((((((v3.setCell ⟨tb, 0, none⟩ (.int .i64 y.t.id)).setCell ⟨tb, 1, none⟩ (.int .i64 y.t.st)).setCell ⟨tb, 2, none⟩ (.int .i64 y.t.snap)).setCell ⟨tb, 3, none⟩ (.int .i64 y.t.cs)).setCell ⟨tb, 4, none⟩ (.slice ra1 y.t.rs.length rc1)).setCell ⟨tb, 5, none⟩ (.slice wa1 (putS y.t.ws x).length wc1)).setCell ⟨tb, 6, none⟩ (.bool y.t.out)).setCell ⟨tb, 7, none⟩ (.string y.t.nm)) p0 q0 (setW y.t (putS y.t.ws x)) ra1 rc1 wa1 wc1) := (((((((RT.out.setO (a := ⟨tb, 0, none⟩) NB.out _).setO (a := ⟨tb, 1, none⟩) NB.out _).setO (a := ⟨tb, 2, none⟩) NB.out _).setO (a := ⟨tb, 3, none⟩) NB.out _).setO (a := ⟨tb, 4, none⟩) NB.out _).setO (a := ⟨tb, 5, none⟩) NB.out _).setO (a := ⟨tb, 6, none⟩) NB.out _).setO (a := ⟨tb, 7, none⟩) NB.out _
   have HZ2 : Hid (Zn m g w ((((((((v3.setCell ⟨tb, 0, none⟩ (.int .i64 y.t.id)).setCell ⟨tb, 1, none⟩ (.int .i64 y.t.st)).setCell ⟨tb, 2, none⟩ (.int .i64 y.t.snap)).setCell ⟨tb, 3, none⟩ (.int .i64 y.t.cs)).setCell ⟨tb, 4, none⟩ (.slice ra1 y.t.rs.length rc1)).setCell ⟨tb, 5, none⟩ (.slice wa1 (putS y.t.ws x).length wc1)).setCell ⟨tb, 6, none⟩ (.bool y.t.out)).setCell ⟨tb, 7, none⟩ (.string y.t.nm))) := (((((((HZ.out.setn (a := ⟨tb, 0, none⟩) NT.out _).setn (a := ⟨tb, 1, none⟩) NT.out _).setn (a := ⟨tb, 2, none⟩) NT.out _).setn (a := ⟨tb, 3, none⟩) NT.out _).setn (a := ⟨tb, 4, none⟩) NT.out _).setn (a := ⟨tb, 5, none⟩) NT.out _).setn (a := ⟨tb, 6, none⟩) NT.out _).setn (a := ⟨tb, 7, none⟩) NT.out _
   have HQ2 : Hid (q0 ≤ ((((((((v3.setCell ⟨tb, 0, none⟩ (.int .i64 y.t.id)).setCell ⟨tb, 1, none⟩ (.int .i64 y.t.st)).setCell ⟨tb, 2, none⟩ (.int .i64 y.t.snap)).setCell ⟨tb, 3, none⟩ (.int .i64 y.t.cs)).setCell ⟨tb, 4, none⟩ (.slice ra1 y.t.rs.length rc1)).setCell ⟨tb, 5, none⟩ (.slice wa1 (putS y.t.ws x).length wc1)).setCell ⟨tb, 6, none⟩ (.bool y.t.out)).setCell ⟨tb, 7, none⟩ (.string y.t.nm)).heap.size) := le_set (le_set (le_set (le_set (le_set (le_set (le_set (le_set HQ.out _ _) _ _) _ _) _ _) _ _) _ _) _ _) _ _
   clear BT BX LX RT HZ HQ
   generalize ((((((((v3.setCell ⟨tb, 0, none⟩ (.int .i64 y.t.id)).setCell ⟨tb, 1, none⟩ (.int .i64 y.t.st)).setCell ⟨tb, 2, none⟩ (.int .i64 y.t.snap)).setCell ⟨tb, 3, none⟩ (.int .i64 y.t.cs)).setCell ⟨tb, 4, none⟩ (.slice ra1 y.t.rs.length rc1)).setCell ⟨tb, 5, none⟩ (.slice wa1 (putS y.t.ws x).length wc1)).setCell ⟨tb, 6, none⟩ (.bool y.t.out)).setCell ⟨tb, 7, none⟩ (.string y.t.nm)) = v8 at *
   refine hK.out _ _ (HS.out _ LX2.out BX2.out) (fun hHeldS => ?_)
   clear hK K
   (refine tk 10 ?_ rfl (Or.inl ⟨by rfl, ?_⟩) ?_; rotate_left; (focus (intro w h; (try dsimp only at h); go_simp; (try with_reducible rfl))); simp only [Act.put, tA, tB, tC, tD, tE, tF])
   refine wpAnyH_done (by kernel_rfl) ?_ _
   have o0 := BT2.out.c0
   have o1 := BT2.out.c1
   have o2 := BT2.out.c2
   have o3 := BT2.out.c3
   have o4 := BT2.out.c4
   have o5 := BT2.out.c5
   have o6 := BT2.out.c6
   have o7 := BT2.out.c7
   have CR := hide (HCL.out _ LX2.out)
   have r0 := CR.out.c0
   have r1 := CR.out.c1
   have r2 := CR.out.c2
   have r3 := CR.out.c3
   have r4 := CR.out.c4
   have r5 := CR.out.c5
   have r6 := CR.out.c6
   have r7 := CR.out.c7
   have OW : Hid (GOwn encT 56 v8 m (.slice (some ⟨ba, 0, none⟩) c.os.length c.oc) c.os) := by have h := LX2.out.o.own; rw [HBA.out] at h; exact h
   have fr0 : v8.frozen? ⟨ba, k * 8, none⟩ = false := World.ownsRow.frozenAt OW.out (k * 8)
   have fr1 : v8.frozen? ⟨ba, k * 8 + 1, none⟩ = false := World.ownsRow.frozenAt OW.out (k * 8 + 1)
   have fr2 : v8.frozen? ⟨ba, k * 8 + 2, none⟩ = false := World.ownsRow.frozenAt OW.out (k * 8 + 2)
   have fr3 : v8.frozen? ⟨ba, k * 8 + 3, none⟩ = false := World.ownsRow.frozenAt OW.out (k * 8 + 3)
   have fr4 : v8.frozen? ⟨ba, k * 8 + 4, none⟩ = false := World.ownsRow.frozenAt OW.out (k * 8 + 4)
   have fr5 : v8.frozen? ⟨ba, k * 8 + 5, none⟩ = false := World.ownsRow.frozenAt OW.out (k * 8 + 5)
   have fr6 : v8.frozen? ⟨ba, k * 8 + 6, none⟩ = false := World.ownsRow.frozenAt OW.out (k * 8 + 6)
   have fr7 : v8.frozen? ⟨ba, k * 8 + 7, none⟩ = false := World.ownsRow.frozenAt OW.out (k * 8 + 7)
   go_wp2
   go_ret
   have P8 := own_put8 (W := v8) (i := k) rfl OW.out HK.out ⟨setW y.t (putS y.t.ws x), ra1, rc1, wa1, wc1⟩
   have hq := LX2.out.put (y := ⟨setW y.t (putS y.t.ws x), ra1, rc1, wa1, wc1⟩) (k := k) (p := p0) (q := q0) (by have := HGP.out; omega) HPQ.out (RT2.out.grown P8.2 (fun b e9 => by cases e9; have := LX2.out.o.up ba (by rw [HBA.out]; rfl); have := HGP.out; left; show ba < p0; omega)) HBA.out P8.2 P8.1
   refine ⟨⟨c.b, c.os.set k ⟨setW y.t (putS y.t.ws x), ra1, rc1, wa1, wc1⟩, c.oa, c.oc⟩, p0, q0, ret_int HC.out.symm, rfl, rfl, rfl, List.length_set, ?_, hq, Nat.le_trans HQ2.out P8.2.size, HPW.out, HZ2.out.trans (Zn.ofGrown P8.2 (fun b e9 => by cases e9; exact LX2.out.o.lo ba (by rw [HBA.out]; rfl)))⟩
   show txs (c.os.set k ⟨setW y.t (putS y.t.ws x), ra1, rc1, wa1, wc1⟩) = _
   rw [HT.out]
   simp [txs, List.map_set]
  ·have NT : Hid (w.heap.size ≤ vd.heap.size) := NT0.out
   go_simp
   have hba : Below vd.heap.size vd (vd.alloc (.cells #[.int .i64 0, .int .i64 0, .int .i64 0, .int .i64 0, .slice none 0 0, .slice none 0 0, .bool false, .string ⟨#[]⟩] 56)) := (belowRefl vd).alloc (Nat.le_refl _) _
   have BT : Hid (Bx (vd.alloc (.cells #[.int .i64 0, .int .i64 0, .int .i64 0, .int .i64 0, .slice none 0 0, .slice none 0 0, .bool false, .string ⟨#[]⟩] 56)) vd.heap.size [.int .i64 0, .int .i64 0, .int .i64 0, .int .i64 0, .slice none 0 0, .slice none 0 0, .bool false, .string ⟨#[]⟩]) := Bx.new vd [.int .i64 0, .int .i64 0, .int .i64 0, .int .i64 0, .slice none 0 0, .slice none 0 0, .bool false, .string ⟨#[]⟩] 56
   have NB : Hid (vd.heap.size < (vd.alloc (.cells #[.int .i64 0, .int .i64 0, .int .i64 0, .int .i64 0, .slice none 0 0, .slice none 0 0, .bool false, .string ⟨#[]⟩] 56)).heap.size) := BT.out.lt
   have NG : Hid (g < vd.heap.size) := HGW.out
   replace BX := hide (BX.out.below hba)
   replace LX := hide (LX.out.below hba)
   replace HZ := hide (HZ.out.trans (Zn.ofBelow m g hba))
   replace HW := hide (Nat.le_trans HW.out hba.size)
   clear hba
   generalize vd.heap.size = tb at *
   generalize (vd.alloc (.cells #[.int .i64 0, .int .i64 0, .int .i64 0, .int .i64 0, .slice none 0 0, .slice none 0 0, .bool false, .string ⟨#[]⟩] 56)) = v2 at *
   refine hK.out _ _ (HS.out _ LX.out BX.out) (fun hHeldA => ?_)
   clear hK K
   refine wpAnyH_ready (rs := [4]) (by kernel_rfl) (by simp) ?_
   refine (AllReadyH.cons rfl (fun K hK => ?_) AllReadyH.nil)
   replace HGW : Hid (g < v2.heap.size) := Nat.lt_trans NG.out NB.out
   go_simp
   go_wp2_with fail
   refine (CK.out _ LX.out).mono ?_
   rintro ex v3 ⟨ra1, rc1, wa1, wc1, rfl, ht, hb⟩
   obtain ⟨q0, hq0⟩ : ∃ q0, q0 = v3.heap.size := ⟨_, rfl⟩
   have RT : Hid (TLie v3 v2.heap.size q0 (setW y.t (putS y.t.ws x)) ra1 rc1 wa1 wc1) := by rw [hq0]; exact ht
   have HQ : Hid (q0 ≤ v3.heap.size) := by rw [hq0]; exact Nat.le_refl _
   have HPW : Hid (w.heap.size ≤ v2.heap.size) := HW.out
   have HPQ : Hid (v2.heap.size ≤ q0) := by rw [hq0]; exact hb.size
   have HGP : Hid (g < v2.heap.size) := HGW.out
   replace BT := hide (BT.out.below hb)
   have NB2 : Hid (tb < v2.heap.size ∨ q0 ≤ tb) := Or.inl NB.out
   replace BX := hide (BX.out.below hb)
   replace LX := hide (LX.out.below hb)
   replace HZ := hide (HZ.out.trans (Zn.ofBelow m g hb))
   replace HW := hide (Nat.le_trans HW.out hb.size)
   replace HGW := hide (Nat.lt_of_lt_of_le HGW.out hb.size)
   clear ht hb CK
   generalize v2.heap.size = p0 at *
   clear hq0
   go_wp2_with fail
   refine hK.out _ _ (HS.out _ LX.out BX.out) (fun hHeldK => ?_)
   clear hK K
   (refine tk 5 ?_ rfl (Or.inl ⟨by rfl, ?_⟩) ?_; rotate_left; (focus (intro w h; (try dsimp only at h); go_simp; (try with_reducible rfl))); simp only [Act.put, tA, tB, tC, tD, tE, tF])
   (refine tk 6 ?_ rfl (Or.inl ⟨by rfl, ?_⟩) ?_; rotate_left; (focus (intro w h; (try dsimp only at h); go_simp; (try with_reducible rfl))); simp only [Act.put, tA, tB, tC, tD, tE, tF])
   (refine tk 7 ?_ rfl (Or.inl ⟨by rfl, ?_⟩) ?_; rotate_left; (focus (intro w h; (try dsimp only at h); go_simp; (try with_reducible rfl))); simp only [Act.put, tA, tB, tC, tD, tE, tF])
   refine wpAnyH_ready (rs := [9]) (by kernel_rfl) (by simp) ?_
   refine (AllReadyH.cons rfl (fun K hK => ?_) AllReadyH.nil)
   have o0 := BT.out.c0
   have fo0 := BT.out.fz 0
   have o1 := BT.out.c1
   have fo1 := BT.out.fz 1
   have o2 := BT.out.c2
   have fo2 := BT.out.fz 2
   have o3 := BT.out.c3
   have fo3 := BT.out.fz 3
   have o4 := BT.out.c4
   have fo4 := BT.out.fz 4
   have o5 := BT.out.c5
   have fo5 := BT.out.fz 5
   have o6 := BT.out.c6
   have fo6 := BT.out.fz 6
   have o7 := BT.out.c7
   have fo7 := BT.out.fz 7
   go_simp
   clear o0 fo0 o1 fo1 o2 fo2 o3 fo3 o4 fo4 o5 fo5 o6 fo6 o7 fo7
   have hlm := LX.out.lm
   have hmg := LX.out.mg
   have BT2 : Hid (Bx ((((((((v3.setCell ⟨tb, 0, none⟩ (.int .i64 y.t.id)).setCell ⟨tb, 1, none⟩ (.int .i64 y.t.st)).setCell ⟨tb, 2, none⟩ (.int .i64 y.t.snap)).setCell ⟨tb, 3, none⟩ (.int .i64 y.t.cs)).setCell ⟨tb, 4, none⟩ (.slice ra1 y.t.rs.length rc1)).setCell ⟨tb, 5, none⟩ (.slice wa1 (putS y.t.ws x).length wc1)).setCell ⟨tb, 6, none⟩ (.bool y.t.out)).setCell ⟨tb, 7, none⟩ (.string y.t.nm)) tb [.int .i64 y.t.id, .int .i64 y.t.st, .int .i64 y.t.snap, .int .i64 y.t.cs, .slice ra1 y.t.rs.length rc1, .slice wa1 (putS y.t.ws x).length wc1, .bool y.t.out, .string y.t.nm]) := (((((((BT.out.set 0 _).set 1 _).set 2 _).set 3 _).set 4 _).set 5 _).set 6 _).set 7 _
   have BX2 : Hid (Bx ((((((((v3.setCell ⟨tb, 0, none⟩ (.int .i64 y.t.id)).setCell ⟨tb, 1, none⟩ (.int .i64 y.t.st)).setCell ⟨tb, 2, none⟩ (.int .i64 y.t.snap)).setCell ⟨tb, 3, none⟩ (.int .i64 y.t.cs)).setCell ⟨tb, 4, none⟩ (.slice ra1 y.t.rs.length rc1)).setCell ⟨tb, 5, none⟩ (.slice wa1 (putS y.t.ws x).length wc1)).setCell ⟨tb, 6, none⟩ (.bool y.t.out)).setCell ⟨tb, 7, none⟩ (.string y.t.nm)) xb [.string x.1, .string x.2.1, .bool x.2.2]) := (((((((BX.out.setO (p := ⟨tb, 0, none⟩) (by have := NG.out; show tb ≠ xb; omega) _).setO (p := ⟨tb, 1, none⟩) (by have := NG.out; show tb ≠ xb; omega) _).setO (p := ⟨tb, 2, none⟩) (by have := NG.out; show tb ≠ xb; omega) _).setO (p := ⟨tb, 3, none⟩) (by have := NG.out; show tb ≠ xb; omega) _).setO (p := ⟨tb, 4, none⟩) (by have := NG.out; show tb ≠ xb; omega) _).setO (p := ⟨tb, 5, none⟩) (by have := NG.out; show tb ≠ xb; omega) _).setO (p := ⟨tb, 6, none⟩) (by have := NG.out; show tb ≠ xb; omega) _).setO (p := ⟨tb, 7, none⟩) (by have := NG.out; show tb ≠ xb; omega) _
   have LX2 : Hid (EnLx ((((((((v3.setCell ⟨tb, 0, none⟩ (.int .i64 y.t.id)).setCell ⟨tb, 1, none⟩ (.int .i64 y.t.st)).setCell ⟨tb, 2, none⟩ (.int .i64 y.t.snap)).setCell ⟨tb, 3, none⟩ (.int .i64 y.t.cs)).setCell ⟨tb, 4, none⟩ (.slice ra1 y.t.rs.length rc1)).setCell ⟨tb, 5, none⟩ (.slice wa1 (putS y.t.ws x).length wc1)).setCell ⟨tb, 6, none⟩ (.bool y.t.out)).setCell ⟨tb, 7, none⟩ (.string y.t.nm)) lo m g g g c) := (((((((LX.out.setr (a := ⟨tb, 0, none⟩) (by have := NG.out; show g ≤ tb; omega) (fun b e9 => by have := LX.out.o.up b e9; have := NG.out; show b ≠ tb; omega) _).setr (a := ⟨tb, 1, none⟩) (by have := NG.out; show g ≤ tb; omega) (fun b e9 => by have := LX.out.o.up b e9; have := NG.out; show b ≠ tb; omega) _).setr (a := ⟨tb, 2, none⟩) (by have := NG.out; show g ≤ tb; omega) (fun b e9 => by have := LX.out.o.up b e9; have := NG.out; show b ≠ tb; omega) _).setr (a := ⟨tb, 3, none⟩) (by have := NG.out; show g ≤ tb; omega) (fun b e9 => by have := LX.out.o.up b e9; have := NG.out; show b ≠ tb; omega) _).setr (a := ⟨tb, 4, none⟩) (by have := NG.out; show g ≤ tb; omega) (fun b e9 => by have := LX.out.o.up b e9; have := NG.out; show b ≠ tb; omega) _).setr (a := ⟨tb, 5, none⟩) (by have := NG.out; show g ≤ tb; omega) (fun b e9 => by have := LX.out.o.up b e9; have := NG.out; show b ≠ tb; omega) _).setr (a := ⟨tb, 6, none⟩) (by have := NG.out; show g ≤ tb; omega) (fun b e9 => by have := LX.out.o.up b e9; have := NG.out; show b ≠ tb; omega) _).setr (a := ⟨tb, 7, none⟩) (by have := NG.out; show g ≤ tb; omega) (fun b e9 => by have := LX.out.o.up b e9; have := NG.out; show b ≠ tb; omega) _
   have RT2 : Hid (TLie ((((((((v3.setCell ⟨tb, 0, none⟩ (.int .i64 y.t.id)).setCell ⟨tb, 1, none⟩ (.int .i64 y.t.st)).setCell ⟨tb, 2, none⟩ (.int .i64 y.t.snap)).setCell ⟨tb, 3, none⟩ (.int .i64 y.t.cs)).setCell ⟨tb, 4, none⟩ (.slice ra1 y.t.rs.length rc1)).setCell ⟨tb, 5, none⟩ (.slice wa1 (putS y.t.ws x).length wc1)).setCell ⟨tb, 6, none⟩ (.bool y.t.out)).setCell ⟨tb, 7, none⟩ (.string y.t.nm)) p0 q0 (setW y.t (putS y.t.ws x)) ra1 rc1 wa1 wc1) := (((((((RT.out.setO (a := ⟨tb, 0, none⟩) NB2.out _).setO (a := ⟨tb, 1, none⟩) NB2.out _).setO (a := ⟨tb, 2, none⟩) NB2.out _).setO (a := ⟨tb, 3, none⟩) NB2.out _).setO (a := ⟨tb, 4, none⟩) NB2.out _).setO (a := ⟨tb, 5, none⟩) NB2.out _).setO (a := ⟨tb, 6, none⟩) NB2.out _).setO (a := ⟨tb, 7, none⟩) NB2.out _
   have HZ2 : Hid (Zn m g w ((((((((v3.setCell ⟨tb, 0, none⟩ (.int .i64 y.t.id)).setCell ⟨tb, 1, none⟩ (.int .i64 y.t.st)).setCell ⟨tb, 2, none⟩ (.int .i64 y.t.snap)).setCell ⟨tb, 3, none⟩ (.int .i64 y.t.cs)).setCell ⟨tb, 4, none⟩ (.slice ra1 y.t.rs.length rc1)).setCell ⟨tb, 5, none⟩ (.slice wa1 (putS y.t.ws x).length wc1)).setCell ⟨tb, 6, none⟩ (.bool y.t.out)).setCell ⟨tb, 7, none⟩ (.string y.t.nm))) := (((((((HZ.out.setn (a := ⟨tb, 0, none⟩) NT.out _).setn (a := ⟨tb, 1, none⟩) NT.out _).setn (a := ⟨tb, 2, none⟩) NT.out _).setn (a := ⟨tb, 3, none⟩) NT.out _).setn (a := ⟨tb, 4, none⟩) NT.out _).setn (a := ⟨tb, 5, none⟩) NT.out _).setn (a := ⟨tb, 6, none⟩) NT.out _).setn (a := ⟨tb, 7, none⟩) NT.out _
   have HQ2 : Hid (q0 ≤ ((((((((v3.setCell ⟨tb, 0, none⟩ (.int .i64 y.t.id)).setCell ⟨tb, 1, none⟩ (.int .i64 y.t.st)).setCell ⟨tb, 2, none⟩ (.int .i64 y.t.snap)).setCell ⟨tb, 3, none⟩ (.int .i64 y.t.cs)).setCell ⟨tb, 4, none⟩ (.slice ra1 y.t.rs.length rc1)).setCell ⟨tb, 5, none⟩ (.slice wa1 (putS y.t.ws x).length wc1)).setCell ⟨tb, 6, none⟩ (.bool y.t.out)).setCell ⟨tb, 7, none⟩ (.string y.t.nm)).heap.size) := le_set (le_set (le_set (le_set (le_set (le_set (le_set (le_set HQ.out _ _) _ _) _ _) _ _) _ _) _ _) _ _) _ _
   clear BT BX LX RT HZ HQ
   generalize ((((((((v3.setCell ⟨tb, 0, none⟩ (.int .i64 y.t.id)).setCell ⟨tb, 1, none⟩ (.int .i64 y.t.st)).setCell ⟨tb, 2, none⟩ (.int .i64 y.t.snap)).setCell ⟨tb, 3, none⟩ (.int .i64 y.t.cs)).setCell ⟨tb, 4, none⟩ (.slice ra1 y.t.rs.length rc1)).setCell ⟨tb, 5, none⟩ (.slice wa1 (putS y.t.ws x).length wc1)).setCell ⟨tb, 6, none⟩ (.bool y.t.out)).setCell ⟨tb, 7, none⟩ (.string y.t.nm)) = v8 at *
   refine hK.out _ _ (HS.out _ LX2.out BX2.out) (fun hHeldS => ?_)
   clear hK K
   (refine tk 10 ?_ rfl (Or.inl ⟨by rfl, ?_⟩) ?_; rotate_left; (focus (intro w h; (try dsimp only at h); go_simp; (try with_reducible rfl))); simp only [Act.put, tA, tB, tC, tD, tE, tF])
   refine wpAnyH_done (by kernel_rfl) ?_ _
   have o0 := BT2.out.c0
   have o1 := BT2.out.c1
   have o2 := BT2.out.c2
   have o3 := BT2.out.c3
   have o4 := BT2.out.c4
   have o5 := BT2.out.c5
   have o6 := BT2.out.c6
   have o7 := BT2.out.c7
   have CR := hide (HCL.out _ LX2.out)
   have r0 := CR.out.c0
   have r1 := CR.out.c1
   have r2 := CR.out.c2
   have r3 := CR.out.c3
   have r4 := CR.out.c4
   have r5 := CR.out.c5
   have r6 := CR.out.c6
   have r7 := CR.out.c7
   have OW : Hid (GOwn encT 56 v8 m (.slice (some ⟨ba, 0, none⟩) c.os.length c.oc) c.os) := by have h := LX2.out.o.own; rw [HBA.out] at h; exact h
   have fr0 : v8.frozen? ⟨ba, k * 8, none⟩ = false := World.ownsRow.frozenAt OW.out (k * 8)
   have fr1 : v8.frozen? ⟨ba, k * 8 + 1, none⟩ = false := World.ownsRow.frozenAt OW.out (k * 8 + 1)
   have fr2 : v8.frozen? ⟨ba, k * 8 + 2, none⟩ = false := World.ownsRow.frozenAt OW.out (k * 8 + 2)
   have fr3 : v8.frozen? ⟨ba, k * 8 + 3, none⟩ = false := World.ownsRow.frozenAt OW.out (k * 8 + 3)
   have fr4 : v8.frozen? ⟨ba, k * 8 + 4, none⟩ = false := World.ownsRow.frozenAt OW.out (k * 8 + 4)
   have fr5 : v8.frozen? ⟨ba, k * 8 + 5, none⟩ = false := World.ownsRow.frozenAt OW.out (k * 8 + 5)
   have fr6 : v8.frozen? ⟨ba, k * 8 + 6, none⟩ = false := World.ownsRow.frozenAt OW.out (k * 8 + 6)
   have fr7 : v8.frozen? ⟨ba, k * 8 + 7, none⟩ = false := World.ownsRow.frozenAt OW.out (k * 8 + 7)
   go_wp2
   go_ret
   have P8 := own_put8 (W := v8) (i := k) rfl OW.out HK.out ⟨setW y.t (putS y.t.ws x), ra1, rc1, wa1, wc1⟩
   have hq := LX2.out.put (y := ⟨setW y.t (putS y.t.ws x), ra1, rc1, wa1, wc1⟩) (k := k) (p := p0) (q := q0) (by have := HGP.out; omega) HPQ.out (RT2.out.grown P8.2 (fun b e9 => by cases e9; have := LX2.out.o.up ba (by rw [HBA.out]; rfl); have := HGP.out; left; show ba < p0; omega)) HBA.out P8.2 P8.1
   refine ⟨⟨c.b, c.os.set k ⟨setW y.t (putS y.t.ws x), ra1, rc1, wa1, wc1⟩, c.oa, c.oc⟩, p0, q0, ret_int HC.out.symm, rfl, rfl, rfl, List.length_set, ?_, hq, Nat.le_trans HQ2.out P8.2.size, HPW.out, HZ2.out.trans (Zn.ofGrown P8.2 (fun b e9 => by cases e9; exact LX2.out.o.lo ba (by rw [HBA.out]; rfl)))⟩
   show txs (c.os.set k ⟨setW y.t (putS y.t.ws x), ra1, rc1, wa1, wc1⟩) = _
   rw [HT.out]
   simp [txs, List.map_set]

end Go.Proofs.YtjeicgibddfifaaGreat

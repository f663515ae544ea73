/- What spec.BaseText returns. -/
import Derived.Test.YtpnnncfbodfnhaaGreatDoorPr01
import Derived.Test.YtpnnncfbodfnhaaGreatDoorPr32
import Derived.Test.YtpnnncfbodfnhaaGreatDoorPr14
import Derived.Test.YtpnnncfbodfnhaaGreatDoorPr05
import Derived.Deep.RegionHeld3
import Derived.Deep.Cut
import Derived.Deep.CutRange
import Derived.Test.YtpnnncfbodfnhaaGreatDoorProg
import Derived.WalkKit
import Derived.WalkSpells
import Derived.WalkLawsBesides
import Derived.Test.YtpnnncfbodfnhaaGreatDoorPr17
import Derived.Test.YtpnnncfbodfnhaaGreatDoorPr08
import Derived.Laws.BitsAllLaws
import Derived.Lib.LaidTab
import Derived.Lib.Strings
import Derived.WalkMore
namespace Go.Proofs.YtpnnncfbodfnhaaGreatDoor
open Go.RowKit
open KM
open VM
attribute [local go_sem ↓] Go.wp_at_zero Go.wp_at_succ

set_option maxRecDepth 100000 in
set_option maxHeartbeats 2000000 in
theorem stxs (xs : List Ta) (a : Option Addr) (c : Nat) (hx : ∀ x ∈ xs, txnB x.t = true) (hf : LFit (txs xs)) (hn : xs.length ≤ 100) (w : World) (hp : TRows w a xs) :
  Calls Tryz.prog 56 #[.slice a xs.length c] w fun e w' => ∃ u : ByteArray, e = .returned (.string u) ∧ (u.data.toList = WM.varL xs.length ++ tsL xs ∧ u.size ≤ 60000) ∧ Below w.heap.size w w' := by
 have HP : Hid (TRows w a xs) := hp
 have HX : Hid (∀ x ∈ xs, txnB x.t = true) := hx
 have HF : Hid (LFit (txs xs)) := hf
 clear hp hx hf
 obtain ⟨P, hP⟩ : ∃ P : List UInt8, P = WM.varL xs.length := ⟨_, rfl⟩
 have nP : P.length ≤ 5 := by rw [hP]; exact var_len _ (by omega)
 have C1 : Hid (∀ w, Calls Tryz.prog 55 #[.int .i64 (xs.length : Int)] w fun e w' => ∃ u : ByteArray, e = .returned (.string u) ∧ u.data.toList = P ∧ Below w.heap.size w w') := fun w => by
  refine (var28 xs.length (by omega) w).mono ?_
  rintro e w' ⟨rfl, hb⟩
  exact ⟨_, rfl, by rw [hP], hb⟩
 rw [← hP]
 clear hP
 have HT : Hid (∀ k, k ≤ xs.length → (tsL (xs.take k)).length ≤ 50000) := fun k hk => by
  have h1 := ts_len (xs.take k) (fun x hx => right_small (HX.out x (List.mem_of_mem_take hx)))
  rw [List.length_take] at h1
  omega
 go_enter Tryz.func56, Tryz.ntmps56
 go_wp2_with fail
 refine (C1.out _).mono ?_
 rintro e w1 ⟨u0, rfl, hu0, hb1⟩
 have HU0 := hide hu0
 have HB1 := hide hb1
 clear hu0 hb1 C1
 go_wp2
 go_loopw [3, 4] (fun v i wr => ∃ (k : Nat) (u : ByteArray), k ≤ xs.length ∧ i = .int .i64 k ∧ v = .string u ∧ Hid (u.data.toList = P ++ tsL (xs.take k)) ∧ Hid (Below w.heap.size w wr)) (fun _ i _ => xs.length - (intOf i).toNat)
 case atStart => exact ⟨0, _, Nat.zero_le _, rfl, rfl, (by show _ = _; rw [HU0.out]; simp [tsL]), HB1⟩
 case round =>
  clear HB1 HU0
  obtain ⟨k, u, hk, rfl, rfl, HU, HB⟩ := hrel
  by_cases hlt : k < xs.length
  ·have hlt' : (k : Int) < (xs.length : Int) := by omega
   have h0 : (0 : Int) ≤ (k : Int) := by omega
   obtain ⟨b1, off1, hab, hbl, hc, hrw⟩ := (HP.out.below HB.out).cls k hlt
   subst hab
   have hq : txnB xs[k].t = true := HX.out _ (List.getElem_mem hlt)
   have hfx : TFit xs[k].t := HF.out.2 _ (List.mem_map.2 ⟨_, List.getElem_mem hlt, rfl⟩)
   have HEq : Hid (tsL (xs.take (k + 1)) = tsL (xs.take k) ++ txL xs[k].t) := ts_take hlt
   obtain ⟨x, hx⟩ : ∃ x, x = xs[k] := ⟨_, rfl⟩
   rw [← hx] at hq hfx hrw hc HEq
   clear hx
   have hlx := tx_len (right_small hq)
   have hlk := HT.out k (by omega)
   have huz : u.size ≤ 50005 := by rw [ba_len HU.out, List.length_append]; omega
   have C2 : Hid (∀ W, TRow W x.t x.ra x.wa → Calls Tryz.prog 21 #[.agg #[.int .i64 x.t.id, .int .i64 x.t.st, .int .i64 x.t.snap, .int .i64 x.t.cs, .slice x.ra x.t.rs.length x.rc, .slice x.wa x.t.ws.length x.wc, .bool x.t.out, .string x.t.nm]] W fun e w' => ∃ g : ByteArray, e = .returned (.tuple #[.string g, .bool true]) ∧ (g.data.toList = txL x.t ∧ g.size ≤ 500) ∧ Below W.heap.size W w') := fun W h => by
    refine (stext x.t x.ra x.wa x.rc x.wc hfx W h).mono ?_
    rintro e w' ⟨rfl, hb⟩
    refine ⟨⟨(txL x.t).toArray⟩, by unfold txtV; rw [if_pos hq], ⟨by simp, ?_⟩, hb⟩
    rw [show (⟨(txL x.t).toArray⟩ : ByteArray).size = (txL x.t).length from List.size_toArray]; exact hlx
   have r0 := hc.c0
   have r1 := hc.c1
   have r2 := hc.c2
   have r3 := hc.c3
   have r4 := hc.c4
   have r5 := hc.c5
   have r6 := hc.c6
   have r7 := hc.c7
   have HRW := hide hrw
   clear hc hrw hq hfx hlx
   go_wp2_with fail
   refine (C2.out _ HRW.out).mono ?_
   rintro e w2 ⟨g, rfl, ⟨hg, hgz⟩, hb⟩
   have HG := hide hg
   have HB2 : Hid (Below w.heap.size w w2) := HB.out.trans (hb.mono HB.out.size)
   clear hg hb r0 r1 r2 r3 r4 r5 r6 r7
   have HUn : Hid ((u ++ g).data.toList = P ++ tsL (xs.take (k + 1))) := by
    show _ = _
    rw [ba_app, HU.out, HG.out, HEq.out]
    simp only [List.append_assoc]
   go_wp2
   go_roundw
   case rel => exact ⟨k + 1, _, by omega, by go_num, rfl, HUn, HB2⟩
   case measure => simp [intOf]; omega
  ·have hlt' : ¬ (k : Int) < (xs.length : Int) := by omega
   have hu := HU.out
   rw [List.take_of_length_le (by omega)] at hu
   have huz : u.size ≤ 60000 := by rw [ba_len HU.out, List.length_append]; have := HT.out k (by omega); omega
   have HUe := hide hu
   clear hu HU
   go_wp2
   go_ret
   exact ⟨u, rfl, ⟨HUe.out, huz⟩, HB.out⟩

set_option maxRecDepth 100000 in
set_option maxHeartbeats 4000000 in
theorem sbtext (b : Bb) (hf : BFit b) (w : World) (hp : BRows w b) :
  Calls Tryz.prog 20 #[.agg #[.slice b.va b.vs.length b.vc, .slice b.pa b.ps.length b.pc, .slice b.qa b.qs.length b.qc, .int .i64 b.cs, .int .i64 b.nx]] w fun e w' => e = .returned (btxV b) ∧ Below w.heap.size w w' := by
 have HP : Hid (BRows w b) := hp
 clear hp
 have BA0 : Hid (Bx (w.alloc (.cells #[.slice b.va b.vs.length b.vc, .slice b.pa b.ps.length b.pc, .slice b.qa b.qs.length b.qc, .int .i64 b.cs, .int .i64 b.nx] 42)) w.heap.size [.slice b.va b.vs.length b.vc, .slice b.pa b.ps.length b.pc, .slice b.qa b.qs.length b.qc, .int .i64 b.cs, .int .i64 b.nx]) := Bx.new w [.slice b.va b.vs.length b.vc, .slice b.pa b.ps.length b.pc, .slice b.qa b.qs.length b.qc, .int .i64 b.cs, .int .i64 b.nx] 42
 have HB0 : Hid (Below w.heap.size w (w.alloc (.cells #[.slice b.va b.vs.length b.vc, .slice b.pa b.ps.length b.pc, .slice b.qa b.qs.length b.qc, .int .i64 b.cs, .int .i64 b.nx] 42))) := (belowRefl w).alloc (Nat.le_refl _) _
 have C1 : Hid (∀ w, BRows w b → Calls Tryz.prog 51 #[.agg #[.slice b.va b.vs.length b.vc, .slice b.pa b.ps.length b.pc, .slice b.qa b.qs.length b.qc, .int .i64 b.cs, .int .i64 b.nx]] w fun e w' => e = .returned (.bool (sbB b)) ∧ Below w.heap.size w w') := fun w h => sbase5 b hf w h
 cases ht : sbB b
 ·rw [ht] at C1
  have HV : Hid (btxV b = .tuple #[.string ⟨#[]⟩, .bool false]) := by show _ = _; unfold btxV; rw [ht]; rfl
  clear ht hf
  go_enter Tryz.func20, Tryz.ntmps20
  go_wp2_with fail
  refine (C1.out _ (HP.out.below HB0.out)).mono ?_
  rintro e w1 ⟨rfl, hb1⟩
  have HB1 : Hid (Below w.heap.size w w1) := HB0.out.trans (hb1.mono HB0.out.size)
  clear hb1
  go_wp2
  go_ret2
  exact ⟨by rw [HV.out]; rfl, HB1.out⟩
 rw [ht] at C1
 have HV : Hid (btxV b = .tuple #[.string ⟨(bsL b).toArray⟩, .bool true]) := by show _ = _; unfold btxV; rw [ht]; rfl
 have HS : Hid (BSm b) := base_small ht
 clear ht
 have hvl : b.vs.length ≤ 120 := HS.out.vl
 have hpl : b.ps.length ≤ 12 := HS.out.pl
 have hql : b.qs.length ≤ 3 := HS.out.ql
 have CP : Hid (∀ W, BRows W b → Calls Tryz.prog 56 #[.slice b.pa b.ps.length b.pc] W fun e w' => ∃ u : ByteArray, e = .returned (.string u) ∧ (u.data.toList = WM.varL b.ps.length ++ tsL b.ps ∧ u.size ≤ 60000) ∧ Below W.heap.size W w') := fun W h => stxs b.ps b.pa b.pc HS.out.ps hf.p (by omega) W h.p
 have CQ : Hid (∀ W, BRows W b → Calls Tryz.prog 56 #[.slice b.qa b.qs.length b.qc] W fun e w' => ∃ u : ByteArray, e = .returned (.string u) ∧ (u.data.toList = WM.varL b.qs.length ++ tsL b.qs ∧ u.size ≤ 60000) ∧ Below W.heap.size W w') := fun W h => stxs b.qs b.qa b.qc HS.out.qs hf.q (by omega) W h.q
 clear hf
 have CV : Hid (∀ (n : Int) w, 0 ≤ n → n ≤ 9999 → Calls Tryz.prog 55 #[.int .i64 n] w fun e w' => ∃ u : ByteArray, e = .returned (.string u) ∧ (u.data.toList = WM.varL n.toNat ∧ u.size ≤ 5) ∧ Below w.heap.size w w') := fun n w h0 h1 => by
  have k := var28 n.toNat (by omega) w
  rw [Int.toNat_of_nonneg h0] at k
  refine k.mono ?_
  rintro e w' ⟨rfl, hb⟩
  exact ⟨_, rfl, ⟨by simp, by rw [size_mk]; exact var_len _ (by omega)⟩, hb⟩
 go_enter Tryz.func20, Tryz.ntmps20
 go_wp2_with fail
 refine (C1.out _ (HP.out.below HB0.out)).mono ?_
 rintro e w1 ⟨rfl, hb1⟩
 have HB1 : Hid (Below w.heap.size w w1) := HB0.out.trans (hb1.mono HB0.out.size)
 have BA1 := hide (BA0.out.below hb1)
 clear hb1 BA0 HB0 C1
 go_wp2
 refine wp_region_held_drew (S := fun w' => w'.cell? ⟨w.heap.size, 0, none⟩ = some (.slice b.va b.vs.length b.vc) ∧ w'.cell? ⟨w.heap.size, 3, none⟩ = some (.int .i64 b.cs) ∧ w'.cell? ⟨w.heap.size, 4, none⟩ = some (.int .i64 b.nx)) (by kernel_rfl) ⟨BA1.out.c0, BA1.out.c3, BA1.out.c4⟩ (fun hHeld => ?_)
 (refine ti 0 ?_; simp only [Act.put, tA, tB, tD, tE, tF])
 (refine ti 1 ?_; simp only [Act.put, tA, tB, tC, tD, tE, tF])
 (refine ti 3 ?_; simp only [Act.put, tA, tB, tC, tD, tE, tF])
 (refine ti 4 ?_; simp only [Act.put, tA, tB, tC, tD, tE, tF])
 (refine ti 7 ?_; simp only [Act.put, tA, tB, tC, tD, tE, tF])
 (refine ti 8 ?_; simp only [Act.put, tA, tB, tC, tD, tE, tF])
 (refine ti 9 ?_; simp only [Act.put, tA, tB, tC, tD, tE, tF])
 refine wpAnyH_ready (rs := [2]) (by kernel_rfl) (by simp) ?_
 refine AllReadyH.cons rfl (fun K hK => ?_) AllReadyH.nil
 go_simp
 go_wp2_with fail
 refine (CV.out b.cs _ HS.out.c0 HS.out.c1).mono ?_
 rintro e v1 ⟨u1, rfl, ⟨hu, hz1⟩, hb⟩
 have HU1 := hide hu
 have hbu := undrew hb
 have BA2 := hide (BA1.out.below hbu)
 have HB2 : Hid (Below w.heap.size w v1) := HB1.out.trans (hbu.mono HB1.out.size)
 clear hu hb hbu
 go_wp2_with fail
 refine hK.out _ _ ⟨BA2.out.c0, BA2.out.c3, BA2.out.c4⟩ (fun hHeld1 => ?_)
 clear hK K BA1 HB1
 refine wpAnyH_ready (rs := [5]) (by kernel_rfl) (by simp) ?_
 refine AllReadyH.cons rfl (fun K hK => ?_) AllReadyH.nil
 go_simp
 go_wp2_with fail
 refine (CV.out b.nx _ HS.out.n0 HS.out.n1).mono ?_
 rintro e v2 ⟨u2, rfl, ⟨hu, hz2⟩, hb⟩
 have HU2 := hide hu
 have hbu := hb
 have BA3 := hide (BA2.out.below hbu)
 have HB3 : Hid (Below w.heap.size w v2) := HB2.out.trans (hbu.mono HB2.out.size)
 clear hu hb hbu
 go_wp2_with fail
 refine hK.out _ _ ⟨BA3.out.c0, BA3.out.c3, BA3.out.c4⟩ (fun hHeld2 => ?_)
 clear hK K BA2 HB2
 have hs1 : (u1 ++ u2).size ≤ 10 := by rw [ByteArray.size_append]; omega
 (refine tk 6 ?_ rfl (Or.inl ⟨by rfl, ?_⟩) ?_; rotate_left; (focus (intro w hSw; (try dsimp only at hSw); go_simp; (try rw [if_neg (by omega)]); (try with_reducible rfl); done)); simp only [Act.put, tA, tB, tC, tD, tE, tF])
 generalize hse : u1 ++ u2 = s1 at *
 have HS1 : Hid (s1.data.toList = u1.data.toList ++ u2.data.toList) := by show _ = _; rw [← hse, ba_app]
 clear hse
 refine wpAnyH_ready (rs := [10]) (by kernel_rfl) (by simp) ?_
 refine AllReadyH.cons rfl (fun K hK => ?_) AllReadyH.nil
 go_simp
 go_wp2_with fail
 refine (CV.out (b.vs.length : Int) _ (by omega) (by omega)).mono ?_
 rintro e v3 ⟨u3, rfl, ⟨hu, hz3⟩, hb⟩
 have HU3 := hide hu
 have hbu := hb
 have BA4 := hide (BA3.out.below hbu)
 have HB4 : Hid (Below w.heap.size w v3) := HB3.out.trans (hbu.mono HB3.out.size)
 clear hu hb hbu
 go_wp2_with fail
 refine hK.out _ _ ⟨BA4.out.c0, BA4.out.c3, BA4.out.c4⟩ (fun hHeld3 => ?_)
 clear hK K BA3 HB3
 have hs2 : (s1 ++ u3).size ≤ 15 := by rw [ByteArray.size_append]; omega
 (refine tk 11 ?_ rfl (Or.inl ⟨by rfl, ?_⟩) ?_; rotate_left; (focus (intro w hSw; (try dsimp only at hSw); go_simp; (try rw [if_neg (by omega)]); (try with_reducible rfl); done)); simp only [Act.put, tA, tB, tC, tD, tE, tF])
 generalize hse : s1 ++ u3 = s2 at *
 have HS2 : Hid (s2.data.toList = s1.data.toList ++ u3.data.toList) := by show _ = _; rw [← hse, ba_app]
 clear hse
 (refine ti 12 ?_; simp only [Act.put, tA, tB, tC, tD, tE, tF])
 refine wpAnyH_done (by kernel_rfl) ?_ _
 obtain ⟨P, hP⟩ : ∃ P : List UInt8, P = s2.data.toList := ⟨_, rfl⟩
 have HPe : Hid (P = WM.varL b.cs.toNat ++ (WM.varL b.nx.toNat ++ WM.varL b.vs.length)) := by
  show _ = _
  rw [hP, HS2.out, HS1.out, HU1.out, HU2.out, HU3.out]
  simp only [List.append_assoc, Int.toNat_natCast]
 have HP0 : Hid (s2.data.toList = P) := hP.symm
 have nP : P.length ≤ 15 := by rw [hP, ba_size]; exact hs2
 clear hP HU1 HU2 HU3 HS1 HS2
 go_wp2
 go_loopw [4, 5] (fun v i wr => ∃ (k : Nat) (u : ByteArray), k ≤ b.vs.length ∧ i = .int .i64 k ∧ v = .string u ∧ Hid (u.data.toList = P ++ vrL (b.vs.take k)) ∧ Hid (Bx wr w.heap.size [.slice b.va b.vs.length b.vc, .slice b.pa b.ps.length b.pc, .slice b.qa b.qs.length b.qc, .int .i64 b.cs, .int .i64 b.nx]) ∧ Hid (Below w.heap.size w wr)) (fun _ i _ => b.vs.length - (intOf i).toNat)
 case atStart => exact ⟨0, _, Nat.zero_le _, rfl, rfl, (by show _ = _; rw [HP0.out]; simp [vrL]), BA4, HB4⟩
 case round =>
  clear BA4 HB4 HP0
  obtain ⟨k, u, hk, rfl, rfl, HU, BA, HB⟩ := hrel
  have x0 := BA.out.c0
  by_cases hlt : k < b.vs.length
  ·have hlt' : (k : Int) < (b.vs.length : Int) := by omega
   have h0 : (0 : Int) ≤ (k : Int) := by omega
   obtain ⟨bb, off, hab, hbl, q⟩ := (HP.out.v.below HB.out) (by omega)
   rw [hab] at x0
   have Q := vat q k hlt
   have HZ := hide (HS.out.vs _ (List.getElem_mem hlt))
   have hlk : (vrL (b.vs.take k)).length ≤ 4000 := by
    have h1 := vr_len (b.vs.take k) (fun x hx => HS.out.vs x (List.mem_of_mem_take hx))
    rw [List.length_take] at h1
    omega
   have huz : u.size ≤ 4015 := by rw [ba_len HU.out, List.length_append]; omega
   have HE : Hid (vrL (b.vs.take (k + 1)) = vrL (b.vs.take k) ++ vrE b.vs[k]) := vr_take hlt
   obtain ⟨x, hx⟩ : ∃ x, x = b.vs[k] := ⟨_, rfl⟩
   rw [← hx] at Q HZ HE
   have r0 := Q.1
   have r1 := Q.2.1
   have r2 := Q.2.2.1
   have r3 := Q.2.2.2
   have s1 := sh_small HZ.out.1 (by omega)
   have s2 := sh_small HZ.out.2.1 (by omega)
   have s3 := bit_len x.2.2.1
   have z0 := HZ.out.2.2.1
   have z1 := HZ.out.2.2.2
   have z2 : x.1.size ≤ 20000 := Nat.le_trans HZ.out.1 (by omega)
   have z3 : x.2.1.size ≤ 20000 := Nat.le_trans HZ.out.2.1 (by omega)
   clear q hab hx Q hlk
   have BV0 : Hid (Bx (wr.alloc (.cells #[.string x.1, .string x.2.1, .bool x.2.2.1, .int .i64 x.2.2.2] 106)) wr.heap.size [.string x.1, .string x.2.1, .bool x.2.2.1, .int .i64 x.2.2.2]) := Bx.new wr [.string x.1, .string x.2.1, .bool x.2.2.1, .int .i64 x.2.2.2] 106
   have BAa : Hid (Bx (wr.alloc (.cells #[.string x.1, .string x.2.1, .bool x.2.2.1, .int .i64 x.2.2.2] 106)) w.heap.size [.slice b.va b.vs.length b.vc, .slice b.pa b.ps.length b.pc, .slice b.qa b.qs.length b.qc, .int .i64 b.cs, .int .i64 b.nx]) := BA.out.alloc _
   have HBa : Hid (Below w.heap.size w (wr.alloc (.cells #[.string x.1, .string x.2.1, .bool x.2.2.1, .int .i64 x.2.2.2] 106))) := HB.out.alloc HB.out.size _
   go_upto_region 8 with fail
   clear r0 r1 r2 r3 x0
   generalize hWW : (wr.alloc (.cells #[.string x.1, .string x.2.1, .bool x.2.2.1, .int .i64 x.2.2.2] 106)) = W1 at *
   clear hWW
   refine wp_region_held_drew (S := fun w' => w'.cell? ⟨wr.heap.size, 0, none⟩ = some (.string x.1) ∧ w'.cell? ⟨wr.heap.size, 1, none⟩ = some (.string x.2.1) ∧ w'.cell? ⟨wr.heap.size, 2, none⟩ = some (.bool x.2.2.1) ∧ w'.cell? ⟨wr.heap.size, 3, none⟩ = some (.int .i64 x.2.2.2)) (by kernel_rfl) ⟨BV0.out.c0, BV0.out.c1, BV0.out.c2, BV0.out.c3⟩ (fun hHeld => ?_)
   (refine ti 0 ?_; simp only [Act.put, tA, tB, tD, tE, tF])
   (refine ti 1 ?_; simp only [Act.put, tA, tB, tC, tD, tE, tF])
   (refine ti 2 ?_; simp only [Act.put, tA, tB, tC, tD, tE, tF])
   (refine ti 5 ?_; simp only [Act.put, tA, tB, tC, tD, tE, tF])
   (refine ti 6 ?_; simp only [Act.put, tA, tB, tC, tD, tE, tF])
   (refine ti 9 ?_; simp only [Act.put, tA, tB, tC, tD, tE, tF])
   (refine ti 10 ?_; simp only [Act.put, tA, tB, tC, tD, tE, tF])
   (refine ti 13 ?_; simp only [Act.put, tA, tB, tC, tD, tE, tF])
   (refine ti 14 ?_; simp only [Act.put, tA, tB, tC, tD, tE, tF])
   refine wpAnyH_ready (rs := [3]) (by kernel_rfl) (by simp) ?_
   refine AllReadyH.cons rfl (fun K hK => ?_) AllReadyH.nil
   go_simp
   go_wp2_with fail
   refine (sshort x.1 z2 _).mono ?_
   rintro e y0 ⟨g0, rfl, hg, hb⟩
   have HG0 := hide hg
   have hgz0 : g0.size ≤ 8 := by rw [ba_len HG0.out]; exact s1
   have hbu := undrew hb
   have BV1 := hide (BV0.out.below hbu)
   have BA1 := hide (BAa.out.below hbu)
   have HB1 : Hid (Below w.heap.size w y0) := HBa.out.trans (hbu.mono HBa.out.size)
   clear hb hbu
   clear hg
   go_wp2_with fail
   refine hK.out _ _ ⟨BV1.out.c0, BV1.out.c1, BV1.out.c2, BV1.out.c3⟩ (fun hHeldx0 => ?_)
   clear hK K
   have hcz0 : (u ++ g0).size ≤ 4023 := by rw [ByteArray.size_append]; omega
   (refine tk 4 ?_ rfl (Or.inl ⟨by rfl, ?_⟩) ?_; rotate_left; (focus (intro w hSw; (try dsimp only at hSw); go_simp; (try rw [if_neg (by omega)]); (try with_reducible rfl); done)); simp only [Act.put, tA, tB, tC, tD, tE, tF])
   generalize hse : u ++ g0 = c0 at *
   have HC0 : Hid (c0.data.toList = u.data.toList ++ g0.data.toList) := by show _ = _; rw [← hse, ba_app]
   clear hse
   refine wpAnyH_ready (rs := [7]) (by kernel_rfl) (by simp) ?_
   refine AllReadyH.cons rfl (fun K hK => ?_) AllReadyH.nil
   go_simp
   go_wp2_with fail
   refine (sshort x.2.1 z3 _).mono ?_
   rintro e y1 ⟨g1, rfl, hg, hb⟩
   have HG1 := hide hg
   have hgz1 : g1.size ≤ 17 := by rw [ba_len HG1.out]; exact s2
   have hbu := hb
   have BV2 := hide (BV1.out.below hbu)
   have BA2 := hide (BA1.out.below hbu)
   have HB2 : Hid (Below w.heap.size w y1) := HB1.out.trans (hbu.mono HB1.out.size)
   clear hb hbu
   clear hg
   go_wp2_with fail
   refine hK.out _ _ ⟨BV2.out.c0, BV2.out.c1, BV2.out.c2, BV2.out.c3⟩ (fun hHeldx1 => ?_)
   clear hK K
   have hcz1 : (c0 ++ g1).size ≤ 4040 := by rw [ByteArray.size_append]; omega
   (refine tk 8 ?_ rfl (Or.inl ⟨by rfl, ?_⟩) ?_; rotate_left; (focus (intro w hSw; (try dsimp only at hSw); go_simp; (try rw [if_neg (by omega)]); (try with_reducible rfl); done)); simp only [Act.put, tA, tB, tC, tD, tE, tF])
   generalize hse : c0 ++ g1 = c1 at *
   have HC1 : Hid (c1.data.toList = c0.data.toList ++ g1.data.toList) := by show _ = _; rw [← hse, ba_app]
   clear hse
   refine wpAnyH_ready (rs := [11]) (by kernel_rfl) (by simp) ?_
   refine AllReadyH.cons rfl (fun K hK => ?_) AllReadyH.nil
   go_simp
   go_wp2_with fail
   refine (sbit x.2.2.1 _).mono ?_
   rintro e y2 ⟨g2, rfl, hg, rfl⟩
   have HG2 := hide hg
   have hgz2 : g2.size ≤ 1 := by rw [ba_len HG2.out]; rw [bit_len]; omega
   clear hg
   go_wp2_with fail
   refine hK.out _ _ ⟨BV2.out.c0, BV2.out.c1, BV2.out.c2, BV2.out.c3⟩ (fun hHeldx2 => ?_)
   clear hK K
   have hcz2 : (c1 ++ g2).size ≤ 4041 := by rw [ByteArray.size_append]; omega
   (refine tk 12 ?_ rfl (Or.inl ⟨by rfl, ?_⟩) ?_; rotate_left; (focus (intro w hSw; (try dsimp only at hSw); go_simp; (try rw [if_neg (by omega)]); (try with_reducible rfl); done)); simp only [Act.put, tA, tB, tC, tD, tE, tF])
   generalize hse : c1 ++ g2 = c2 at *
   have HC2 : Hid (c2.data.toList = c1.data.toList ++ g2.data.toList) := by show _ = _; rw [← hse, ba_app]
   clear hse
   refine wpAnyH_ready (rs := [15]) (by kernel_rfl) (by simp) ?_
   refine AllReadyH.cons rfl (fun K hK => ?_) AllReadyH.nil
   go_simp
   go_wp2_with fail
   refine (CV.out x.2.2.2 _ z0 z1).mono ?_
   rintro e y3 ⟨g3, rfl, ⟨hg, hgz3⟩, hb⟩
   have HG3 := hide hg
   have hbu := hb
   have BV4 := hide (BV2.out.below hbu)
   have BA4 := hide (BA2.out.below hbu)
   have HB4 : Hid (Below w.heap.size w y3) := HB2.out.trans (hbu.mono HB2.out.size)
   clear hb hbu
   clear hg
   go_wp2_with fail
   refine hK.out _ _ ⟨BV4.out.c0, BV4.out.c1, BV4.out.c2, BV4.out.c3⟩ (fun hHeldx3 => ?_)
   clear hK K
   have hcz3 : (c2 ++ g3).size ≤ 4046 := by rw [ByteArray.size_append]; omega
   (refine tk 16 ?_ rfl (Or.inl ⟨by rfl, ?_⟩) ?_; rotate_left; (focus (intro w hSw; (try dsimp only at hSw); go_simp; (try rw [if_neg (by omega)]); (try with_reducible rfl); done)); simp only [Act.put, tA, tB, tC, tD, tE, tF])
   generalize hse : c2 ++ g3 = c3 at *
   have HC3 : Hid (c3.data.toList = c2.data.toList ++ g3.data.toList) := by show _ = _; rw [← hse, ba_app]
   clear hse
   (refine ti 17 ?_; simp only [Act.put, tA, tB, tC, tD, tE, tF])
   refine wpAnyH_done (by kernel_rfl) ?_ _
   have HUn : Hid (c3.data.toList = P ++ vrL (b.vs.take (k + 1))) := by
    show _ = _
    rw [HC3.out, HC2.out, HC1.out, HC0.out, HU.out, HG0.out, HG1.out, HG2.out, HG3.out, HE.out]
    unfold vrE
    simp only [List.append_assoc]
   clear HE HC0 HC1 HC2 HC3 HG0 HG1 HG2 HG3
   go_wp2
   go_roundw
   case rel => exact ⟨k + 1, _, by omega, by go_num, rfl, HUn, BA4, HB4⟩
   case measure => simp [intOf]; omega
  ·have hlt' : ¬ (k : Int) < (b.vs.length : Int) := by omega
   have hu := HU.out
   rw [List.take_of_length_le (by omega)] at hu
   have HUe := hide hu
   clear hu HU
   have huz : u.size ≤ 4015 := by
    rw [ba_len HUe.out, List.length_append]
    have h1 := vr_len b.vs HS.out.vs
    omega
   go_wp2
   refine wp_region_held_drew (S := fun w' => w'.cell? ⟨w.heap.size, 1, none⟩ = some (.slice b.pa b.ps.length b.pc) ∧ w'.cell? ⟨w.heap.size, 2, none⟩ = some (.slice b.qa b.qs.length b.qc)) (by kernel_rfl) ⟨BA.out.c1, BA.out.c2⟩ (fun hHeld => ?_)
   (refine ti 0 ?_; simp only [Act.put, tA, tB, tD, tE, tF])
   (refine ti 1 ?_; simp only [Act.put, tA, tB, tC, tD, tE, tF])
   (refine ti 2 ?_; simp only [Act.put, tA, tB, tC, tD, tE, tF])
   (refine ti 5 ?_; simp only [Act.put, tA, tB, tC, tD, tE, tF])
   (refine ti 6 ?_; simp only [Act.put, tA, tB, tC, tD, tE, tF])
   refine wpAnyH_ready (rs := [3]) (by kernel_rfl) (by simp) ?_
   refine AllReadyH.cons rfl (fun K hK => ?_) AllReadyH.nil
   go_simp
   go_wp2_with fail
   refine (CP.out _ (HP.out.below HB.out.drew)).mono ?_
   rintro e y0 ⟨g0, rfl, ⟨hg, hgz0⟩, hb⟩
   have HG0 := hide hg
   have hbu := undrew hb
   have BA1 := hide (BA.out.below hbu)
   have HB1 : Hid (Below w.heap.size w y0) := HB.out.trans (hbu.mono HB.out.size)
   clear hg hb hbu
   go_wp2_with fail
   refine hK.out _ _ ⟨BA1.out.c1, BA1.out.c2⟩ (fun hHeldx0 => ?_)
   clear hK K
   have hcz0 : (u ++ g0).size ≤ 64015 := by rw [ByteArray.size_append]; omega
   (refine tk 4 ?_ rfl (Or.inl ⟨by rfl, ?_⟩) ?_; rotate_left; (focus (intro w hSw; (try dsimp only at hSw); go_simp; (try rw [if_neg (by omega)]); (try with_reducible rfl); done)); simp only [Act.put, tA, tB, tC, tD, tE, tF])
   generalize hse : u ++ g0 = c0 at *
   have HC0 : Hid (c0.data.toList = u.data.toList ++ g0.data.toList) := by show _ = _; rw [← hse, ba_app]
   clear hse
   refine wpAnyH_ready (rs := [7]) (by kernel_rfl) (by simp) ?_
   refine AllReadyH.cons rfl (fun K hK => ?_) AllReadyH.nil
   go_simp
   go_wp2_with fail
   refine (CQ.out _ (HP.out.below HB1.out)).mono ?_
   rintro e y1 ⟨g1, rfl, ⟨hg, hgz1⟩, hb⟩
   have HG1 := hide hg
   have BA2 := hide (BA1.out.below hb)
   have HB2 : Hid (Below w.heap.size w y1) := HB1.out.trans (hb.mono HB1.out.size)
   clear hg hb
   go_wp2_with fail
   refine hK.out _ _ ⟨BA2.out.c1, BA2.out.c2⟩ (fun hHeldx1 => ?_)
   clear hK K
   have hcz1 : (c0 ++ g1).size ≤ 124015 := by rw [ByteArray.size_append]; omega
   (refine tk 8 ?_ rfl (Or.inl ⟨by rfl, ?_⟩) ?_; rotate_left; (focus (intro w hSw; (try dsimp only at hSw); go_simp; (try rw [if_neg (by omega)]); (try with_reducible rfl); done)); simp only [Act.put, tA, tB, tC, tD, tE, tF])
   generalize hse : c0 ++ g1 = c1 at *
   have HC1 : Hid (c1.data.toList = c0.data.toList ++ g1.data.toList) := by show _ = _; rw [← hse, ba_app]
   clear hse
   (refine ti 9 ?_; simp only [Act.put, tA, tB, tC, tD, tE, tF])
   (refine ti 10 ?_; simp only [Act.put, tA, tB, tC, tD, tE, tF])
   refine wpAnyH_done (by kernel_rfl) ?_ _
   have HF : Hid (c1 = ⟨(bsL b).toArray⟩) := by
    refine ba_of ?_
    rw [HC1.out, HC0.out, HUe.out, HG0.out, HG1.out, HPe.out]
    unfold bsL
    simp only [List.append_assoc]
   go_wp2
   go_ret2
   exact ⟨by rw [HV.out, HF.out]; rfl, HB2.out⟩

end Go.Proofs.YtpnnncfbodfnhaaGreatDoor

namespace Go.Proofs.YtpnnncfbodfnhaaGreatDoor
namespace SM

def half (s : Nat) : Nat := if s % 2 = 1 then s / 2 ^^^ 3558460437 else s / 2
def halves : Nat → Nat → Nat
 | 0, s => s
 | k + 1, s => halves k (half s)
def step (s : Nat) (b : UInt8) : Nat := halves 8 (s ^^^ b.toNat)
def sum (s : Nat) (l : List UInt8) : Nat := l.foldl step s

theorem half_lt (s : Nat) (h : s < 4294967296) : half s < 4294967296 := by
 unfold half
 split
 ·exact Nat.xor_lt_two_pow (n := 32) (by omega) (by omega)
 ·omega
theorem halves_lt (k s : Nat) (h : s < 4294967296) : halves k s < 4294967296 := by
 induction k generalizing s with
 | zero => exact h
 | succ k ih => exact ih _ (half_lt s h)
theorem xor_lt (a b : Nat) (ha : a < 4294967296) (hb : b < 4294967296) : a ^^^ b < 4294967296 := Nat.xor_lt_two_pow (n := 32) ha hb
theorem step_lt (s : Nat) (b : UInt8) (h : s < 4294967296) : step s b < 4294967296 := by
 have := b.toNat_lt
 exact halves_lt 8 _ (xor_lt _ _ h (by omega))
theorem sum_lt (s : Nat) (l : List UInt8) (h : s < 4294967296) : sum s l < 4294967296 := by
 induction l generalizing s with
 | nil => exact h
 | cons b l ih => exact ih _ (step_lt s b h)

theorem xor_half (a b : Nat) : (a ^^^ b) / 2 = a / 2 ^^^ b / 2 := by
 apply Nat.eq_of_testBit_eq
 intro i
 simp [Nat.testBit_div_two, Nat.testBit_xor]
theorem xor_odd (a b : Nat) : (a ^^^ b) % 2 = (a % 2 + b % 2) % 2 := by
 have h : (a ^^^ b).testBit 0 = (a.testBit 0 ^^ b.testBit 0) := Nat.testBit_xor a b 0
 simp only [Nat.testBit_zero] at h
 rcases Nat.mod_two_eq_zero_or_one (a ^^^ b) with hc | hc <;> rcases Nat.mod_two_eq_zero_or_one a with ha | ha <;> rcases Nat.mod_two_eq_zero_or_one b with hb | hb <;> rw [hc, ha, hb] at h <;> rw [hc, ha, hb] <;> first | rfl | exact absurd h (by decide)
theorem xor_swap (a b p : Nat) : a ^^^ b ^^^ p = (a ^^^ p) ^^^ b := by rw [Nat.xor_assoc, Nat.xor_comm b p, ← Nat.xor_assoc]
theorem xor_twice (a b p : Nat) : (a ^^^ p) ^^^ (b ^^^ p) = a ^^^ b := by
 apply Nat.eq_of_testBit_eq
 intro i
 simp only [Nat.testBit_xor]
 cases a.testBit i <;> cases b.testBit i <;> cases p.testBit i <;> rfl
theorem half_xor (a b : Nat) : half (a ^^^ b) = half a ^^^ half b := by
 unfold half
 rw [xor_half, xor_odd]
 rcases Nat.mod_two_eq_zero_or_one a with ha | ha <;> rcases Nat.mod_two_eq_zero_or_one b with hb | hb <;> simp only [ha, hb]
 ·simp
 ·simp [Nat.xor_assoc]
 ·simp [xor_swap]
 ·simp [xor_twice]
theorem halves_xor (k a b : Nat) : halves k (a ^^^ b) = halves k a ^^^ halves k b := by
 induction k generalizing a b with
 | zero => rfl
 | succ k ih => show halves k (half (a ^^^ b)) = _; rw [half_xor, ih]; rfl
theorem half_two (q : Nat) : half (2 * q) = q := by unfold half; rw [if_neg (by omega)]; omega
theorem halves_16 (q : Nat) : halves 4 (16 * q) = q := by
 show half (half (half (half (16 * q)))) = q
 rw [show 16 * q = 2 * (2 * (2 * (2 * q))) by omega, half_two, half_two, half_two, half_two]
theorem split16 (s : Nat) : s = 16 * (s / 16) ^^^ s % 16 := by
 apply Nat.eq_of_testBit_eq
 intro i
 have e : 16 * (s / 16) = (s / 2 ^ 4) <<< 4 := by rw [Nat.shiftLeft_eq]; omega
 rw [Nat.testBit_xor, e, Nat.testBit_shiftLeft, show (16 : Nat) = 2 ^ 4 from rfl, Nat.testBit_mod_two_pow, Nat.testBit_div_two_pow]
 by_cases h : i < 4
 ·have h4 : ¬ 4 ≤ i := by omega
  simp [h, h4]
 ·have h4 : 4 ≤ i := by omega
  simp [h, h4]

def tab : List Nat := [0x00000000, 0x4589ac8d, 0x8b13591a, 0xce9af597, 0xbe152a1f, 0xfb9c8692, 0x35067305, 0x708fdf88, 0xd419cc15, 0x91906098, 0x5f0a950f, 0x1a833982, 0x6a0ce60a, 0x2f854a87, 0xe11fbf10, 0xa496139d]
theorem tab_eq (r : Nat) (h : r < 16) : halves 4 r = tab.getD r 0 := by
 have : ∀ r : Fin 16, halves 4 r.1 = tab.getD r.1 0 := by decide
 exact this ⟨r, h⟩
theorem tab_lt (r : Nat) (h : r < 16) : tab.getD r 0 < 4294967296 := by
 have : ∀ r : Fin 16, tab.getD r.1 0 < 4294967296 := by decide
 exact this ⟨r, h⟩
theorem four_by_tab (s : Nat) : halves 4 s = s / 16 ^^^ tab.getD (s % 16) 0 := by
 have h := halves_xor 4 (16 * (s / 16)) (s % 16)
 rw [← split16, halves_16, tab_eq _ (Nat.mod_lt _ (by omega))] at h
 exact h
theorem sum_append (s : Nat) (l m : List UInt8) : sum s (l ++ m) = sum (sum s l) m := List.foldl_append
theorem sum_snoc (s : Nat) (l : List UInt8) (b : UInt8) : sum s (l ++ [b]) = step (sum s l) b := by rw [sum_append]; rfl
def four (x : Nat) : List UInt8 := [UInt8.ofNat (x / 16777216), UInt8.ofNat (x / 65536 % 256), UInt8.ofNat (x / 256 % 256), UInt8.ofNat (x % 256)]
end SM
end Go.Proofs.YtpnnncfbodfnhaaGreatDoor

namespace Go.Proofs.YtpnnncfbodfnhaaGreatDoor
open Go.RowKit

theorem gTab : Tryz.prog.globalNamed "loop.example/g00327/impl.halfByteSums" = some 0 := by kernel_rfl
def tabZ : List Int := SM.tab.map fun (n : Nat) => (n : Int)
def Tab (w : World) : Prop := Lib.TabIs Tryz.prog w "loop.example/g00327/impl.halfByteSums" .u32 tabZ

theorem Tab.below {w w' : World} (h : Tab w) (hb : Below w.heap.size w w') : Tab w' := by
 have h1 : w.var? Tryz.prog "loop.example/g00327/impl.halfByteSums" = some (tabZ.map fun z => Value.int .u32 z).toArray := h
 show w'.var? Tryz.prog "loop.example/g00327/impl.halfByteSums" = some (tabZ.map fun z => Value.int .u32 z).toArray
 unfold World.var? at h1 ⊢
 rw [gTab] at h1 ⊢
 simp only [Option.bind_some] at h1 ⊢
 have hg : 0 < w.heap.size := by
  cases hh : w.heap[0]? with
  | none => rw [hh] at h1; cases h1
  | some o => exact (Array.getElem?_eq_some_iff.1 hh).1
 rw [hb.block 0 hg]; exact h1

theorem tabZ_at (r : Nat) : tabZ.getD r 0 = ((SM.tab.getD r 0 : Nat) : Int) := by
 unfold tabZ
 rw [List.getD_eq_getElem?_getD, List.getD_eq_getElem?_getD, List.getElem?_map]
 cases SM.tab[r]? <;> rfl
theorem tab_cell {w : World} (h : Tab w) (r : Nat) (hr : r < 16) : w.cell? ⟨0, r, none⟩ = some (.int .u32 ((SM.tab.getD r 0 : Nat) : Int)) := by
 rw [← tabZ_at]
 exact Lib.TabIs.cell h gTab r (by unfold tabZ; rw [List.length_map]; exact hr)

set_option maxHeartbeats 400000 in
theorem four28 (s : Nat) (hs : s < 4294967296) (w : World) (ht : Tab w) :
  Calls Tryz.prog 128 #[.int .u32 (s : Int)] w fun e w' => e = .returned (.int .u32 ((SM.halves 4 s : Nat) : Int)) ∧ w = w' := by
 have hc := tab_cell ht (s % 16) (Nat.mod_lt _ (by omega))
 have hx := u32_xor_nat (s / 16) (SM.tab.getD (s % 16) 0) (by omega) (SM.tab_lt _ (Nat.mod_lt _ (by omega)))
 rw [← SM.four_by_tab] at hx
 generalize SM.tab.getD (s % 16) 0 = z at hc hx
 rw [show ((s / 16 : Nat) : Int) = (s : Int) / 16 by omega] at hx
 clear ht
 go_enter Tryz.func128, Tryz.ntmps128
 go_wp2
 go_ret
 exact ⟨rfl, rfl⟩

set_option maxHeartbeats 400000 in
theorem with25 (s : Nat) (b : UInt8) (hs : s < 4294967296) (w : World) (ht : Tab w) :
  Calls Tryz.prog 118 #[.int .u32 (s : Int), .int .u8 (b.toNat : Int)] w fun e w' => e = .returned (.int .u32 ((SM.step s b : Nat) : Int)) ∧ w = w' := by
 have hb := b.toNat_lt
 have hx := u32_xor_nat s b.toNat hs (by omega)
 have T : Hid (Tab w) := ht
 have h1 := SM.xor_lt s b.toNat hs (by omega)
 have h2 := SM.halves_lt 4 _ h1
 have e : SM.step s b = SM.halves 4 (SM.halves 4 (s ^^^ b.toNat)) := rfl
 rw [e]
 clear ht e
 generalize s ^^^ b.toNat = x at *
 have c28 := four28 x h1 w T.out
 generalize SM.halves 4 x = y at *
 go_enter Tryz.func118, Tryz.ntmps118
 go_wp2_with fail
 refine c28.mono ?_
 rintro e w' ⟨rfl, rfl⟩
 clear c28
 go_wp2_with fail
 refine (four28 y h2 _ T.out).mono ?_
 rintro e w' ⟨rfl, rfl⟩
 go_wp2
 go_ret
 exact ⟨rfl, rfl⟩

theorem fourCells (s : Nat) (hs : s < 4294967296) : #[Value.int .u8 ((s : Int) / 16777216), Value.int .u8 ((s : Int) / 65536 % 256), Value.int .u8 ((s : Int) / 256 % 256), Value.int .u8 ((s : Int) % 256)].toList = bv (SM.four s) := by
 have h1 : ((s : Int) / 16777216) = ((UInt8.ofNat (s / 16777216)).toNat : Int) := by simp only [UInt8.toNat_ofNat']; omega
 have h2 : ((s : Int) / 65536 % 256) = ((UInt8.ofNat (s / 65536 % 256)).toNat : Int) := by simp only [UInt8.toNat_ofNat']; omega
 have h3 : ((s : Int) / 256 % 256) = ((UInt8.ofNat (s / 256 % 256)).toNat : Int) := by simp only [UInt8.toNat_ofNat']; omega
 have h4 : ((s : Int) % 256) = ((UInt8.ofNat (s % 256)).toNat : Int) := by simp only [UInt8.toNat_ofNat']; omega
 rw [h1, h2, h3, h4]
 rfl

theorem fourStr (s : Nat) (hs : s < 4294967296) (w : World) :
  (convert 55 9 (.slice (some ⟨w.heap.size, 0, none⟩) 4 4)).run Tryz.prog (w.alloc (.cells #[Value.int .u8 ((s : Int) / 16777216), Value.int .u8 ((s : Int) / 65536 % 256), Value.int .u8 ((s : Int) / 256 % 256), Value.int .u8 ((s : Int) % 256)] 5))
   = .ok (.string ⟨(SM.four s).toArray⟩) (w.alloc (.cells #[Value.int .u8 ((s : Int) / 16777216), Value.int .u8 ((s : Int) / 65536 % 256), Value.int .u8 ((s : Int) / 256 % 256), Value.int .u8 ((s : Int) % 256)] 5)) := by
 have hc := fourCells s hs
 generalize #[Value.int .u8 ((s : Int) / 16777216), Value.int .u8 ((s : Int) / 65536 % 256), Value.int .u8 ((s : Int) / 256 % 256), Value.int .u8 ((s : Int) % 256)] = cs at hc
 refine run_convert_bytes_back (P := Tryz.prog) _ 55 9 5 ⟨w.heap.size, 0, none⟩ 4 (SM.four s) Tryz.underlying55 Tryz.underlying5 Tryz.underlying9 ?_
 intro j hj
 have hm : (w.alloc (.cells cs 5)).cell? ⟨w.heap.size, j, none⟩ = cs[j]? := World.cell?_alloc_mark w cs 5 (0, 0) j
 rw [Addr.add_lit, Nat.zero_add, hm, ← Array.getElem?_toList, hc]
 simp [bv, hj]

set_option maxHeartbeats 400000 in
theorem text23 (s : Nat) (hs : s < 4294967296) (w : World) :
  Calls Tryz.prog 66 #[.int .u32 (s : Int)] w fun e w' => e = .returned (.string ⟨(SM.four s).toArray⟩) ∧ Below w.heap.size w w' := by
 have hst := fourStr s hs w
 go_enter Tryz.func66, Tryz.ntmps66
 go_wp2
 go_ret
 exact ⟨rfl, (Below.refl _ _).alloc (Nat.le_refl _) _⟩

set_option maxHeartbeats 400000 in
theorem four26 (s : Nat) (hs : s < 4294967296) (w : World) :
  Calls Tryz.prog 53 #[.int .u32 (s : Int)] w fun e w' => e = .returned (.string ⟨(SM.four s).toArray⟩) ∧ Below w.heap.size w w' := by
 have hst := fourStr s hs w
 go_enter Tryz.func53, Tryz.ntmps53
 go_wp2
 go_ret
 exact ⟨rfl, (Below.refl _ _).alloc (Nat.le_refl _) _⟩

theorem at_byte (s : ByteArray) (k : Nat) (h : k < s.size) : s.data.toList[k]? = some s[k] := by
 rw [Array.getElem?_toList, Array.getElem?_eq_getElem h]; rfl
theorem sum_take (x : Nat) (s : ByteArray) (k : Nat) (h : k < s.size) : SM.sum x (s.data.toList.take (k + 1)) = SM.step (SM.sum x (s.data.toList.take k)) s[k] := by
 rw [List.take_add_one, at_byte s k h]
 exact SM.sum_snoc _ _ _
theorem sum_all (x : Nat) (s : ByteArray) (k : Nat) (h : s.size ≤ k) : SM.sum x (s.data.toList.take k) = SM.sum x s.data.toList := by
 rw [List.take_of_length_le (by rw [Array.length_toList]; exact h)]

set_option maxHeartbeats 400000 in
theorem isum13 (x : Nat) (s : ByteArray) (hx : x < 4294967296) (hs : s.size ≤ 1048576) (w : World) (ht : Tab w) :
  Calls Tryz.prog 101 #[.int .u32 (x : Int), .string s] w fun e w' => e = .returned (.int .u32 ((SM.sum x s.data.toList : Nat) : Int)) ∧ w = w' := by
 have T : Hid (Tab w) := ht
 clear ht
 go_enter Tryz.func101, Tryz.ntmps101
 go_wp2
 go_loop [5, 6] (fun t5 t6 => ∃ (k y : Nat), k ≤ s.size ∧ Hid (y = SM.sum x (s.data.toList.take k)) ∧ t6 = .int .i64 (k : Int) ∧ t5 = .int .u32 (y : Int)) (fun _ t6 => s.size - (intOf t6).toNat)
 case atStart => exact ⟨0, x, Nat.zero_le _, (by show _ = _; rfl), rfl, rfl⟩
 case round =>
  obtain ⟨k, y, hk, HY, rfl, rfl⟩ := hrel
  have hy : y < 4294967296 := by rw [HY.out]; exact SM.sum_lt _ _ hx
  by_cases hlt : k < s.size
  ·have hlt' : (k : Int) < (s.size : Int) := by omega
   have h0 : (0 : Int) ≤ (k : Int) := by omega
   have c25 := with25 y s[k] hy w T.out
   have HZ : Hid (SM.step y s[k] = SM.sum x (s.data.toList.take (k + 1))) := by show _ = _; rw [sum_take x s k hlt, HY.out]
   generalize SM.step y s[k] = z at *
   go_wp2_with fail
   refine c25.mono ?_
   rintro e w' ⟨rfl, rfl⟩
   clear c25
   go_wp2
   go_round
   case rel => exact ⟨k + 1, z, by omega, HZ, by go_num, rfl⟩
   case measure => simp [intOf]; omega
  ·have hlt' : ¬ (k : Int) < (s.size : Int) := by omega
   have HZ : Hid (y = SM.sum x s.data.toList) := by show _ = _; rw [HY.out]; exact sum_all x s k (by omega)
   go_wp2
   go_ret
   exact ⟨by rw [← HZ.out]; rfl, rfl⟩

theorem half_odd (y : Nat) (h : y % 2 = 1) : SM.half y = y / 2 ^^^ 3558460437 := by unfold SM.half; rw [if_pos h]
theorem half_even (y : Nat) (h : ¬ y % 2 = 1) : SM.half y = y / 2 := by unfold SM.half; rw [if_neg h]
theorem halves_more (j y : Nat) (h : j < 8) : SM.halves (8 - (j + 1)) (SM.half y) = SM.halves (8 - j) y := by
 rw [show 8 - j = (8 - (j + 1)) + 1 by omega]; rfl

set_option maxHeartbeats 1000000 in
theorem ssum15 (x : Nat) (s : ByteArray) (hx : x < 4294967296) (hs : s.size ≤ 1048576) (w : World) :
  Calls Tryz.prog 96 #[.int .u32 (x : Int), .string s] w fun e w' => e = .returned (.int .u32 ((SM.sum x s.data.toList : Nat) : Int)) ∧ w = w' := by
 go_enter Tryz.func96, Tryz.ntmps96
 go_wp2
 go_loop [0, 5] (fun t0 t5 => ∃ (k y : Nat), k ≤ s.size ∧ Hid (y = SM.sum x (s.data.toList.take k)) ∧ t5 = .int .i64 (k : Int) ∧ t0 = .int .u32 (y : Int)) (fun _ t5 => s.size - (intOf t5).toNat)
 case atStart => exact ⟨0, x, Nat.zero_le _, (by show _ = _; rfl), rfl, rfl⟩
 case round =>
  obtain ⟨k, y, hk, HY, rfl, rfl⟩ := hrel
  have hy : y < 4294967296 := by rw [HY.out]; exact SM.sum_lt _ _ hx
  by_cases hlt : k < s.size
  ·have hlt' : (k : Int) < (s.size : Int) := by omega
   have h0 : (0 : Int) ≤ (k : Int) := by omega
   have hb := s[k].toNat_lt
   have hxor := u32_xor_nat y s[k].toNat hy (by omega)
   have h1 := SM.xor_lt y s[k].toNat hy (by omega)
   have HZ : Hid (SM.halves 8 (y ^^^ s[k].toNat) = SM.sum x (s.data.toList.take (k + 1))) := by show _ = _; rw [sum_take x s k hlt, HY.out]; rfl
   generalize y ^^^ s[k].toNat = z at *
   go_wp2
   go_loop [0, 6] (fun t0 t6 => ∃ (j u : Nat), j ≤ 8 ∧ u < 4294967296 ∧ Hid (SM.halves (8 - j) u = SM.sum x (s.data.toList.take (k + 1))) ∧ t6 = .int .i64 (j : Int) ∧ t0 = .int .u32 (u : Int)) (fun _ t6 => 8 - (intOf t6).toNat)
   case atStart => exact ⟨0, z, by omega, h1, HZ, rfl, rfl⟩
   case round =>
    obtain ⟨j, u, hj, hu, HU, rfl, rfl⟩ := hrel
    by_cases hlj : j < 8
    ·have hlj' : (j : Int) < 8 := by omega
     have HN : Hid (SM.halves (8 - (j + 1)) (SM.half u) = SM.sum x (s.data.toList.take (k + 1))) := by show _ = _; rw [halves_more j u hlj]; exact HU.out
     have hn := SM.half_lt u hu
     by_cases ho : u % 2 = 1
     ·have ho' : ((u : Int) % 2 == 1) = true := by rw [beq_iff_eq]; omega
      have hxo := u32_xor_nat (u / 2) 3558460437 (by omega) (by omega)
      rw [← half_odd u ho, show ((u / 2 : Nat) : Int) = (u : Int) / 2 by omega, show ((3558460437 : Nat) : Int) = 3558460437 from rfl] at hxo
      generalize SM.half u = v at *
      go_wp2
      go_round
      case rel => exact ⟨j + 1, v, by omega, hn, HN, by go_num, rfl⟩
      case measure => simp [intOf]; omega
     ·have ho' : ((u : Int) % 2 == 1) = false := by rw [beq_eq_false_iff_ne]; omega
      rw [half_even u ho] at hn HN
      go_wp2
      go_round
      case rel => exact ⟨j + 1, u / 2, by omega, hn, HN, by go_num, by go_num⟩
      case measure => simp [intOf]; omega
    ·have hlj' : ¬ (j : Int) < 8 := by omega
     have HE : Hid (u = SM.sum x (s.data.toList.take (k + 1))) := by
      have := HU.out
      rw [show 8 - j = 0 by omega] at this
      exact this
     go_wp2
     go_round
     case rel => exact ⟨k + 1, u, by omega, HE, by go_num, rfl⟩
     case measure => simp [intOf]; omega
  ·have hlt' : ¬ (k : Int) < (s.size : Int) := by omega
   have HZ : Hid (y = SM.sum x s.data.toList) := by show _ = _; rw [HY.out]; exact sum_all x s k (by omega)
   go_wp2
   go_ret
   exact ⟨by rw [← HZ.out]; rfl, rfl⟩

set_option maxHeartbeats 400000 in
theorem isum14 (s : ByteArray) (hs : s.size ≤ 1048576) (w : World) (ht : Tab w) :
  Calls Tryz.prog 65 #[.string s] w fun e w' => e = .returned (.int .u32 ((SM.sum 4294967295 s.data.toList : Nat) : Int)) ∧ w = w' := by
 have c := isum13 4294967295 s (by omega) hs w ht
 clear ht
 generalize SM.sum 4294967295 s.data.toList = z at *
 go_enter Tryz.func65, Tryz.ntmps65
 go_wp2_with fail
 refine c.mono ?_
 rintro e w' ⟨rfl, rfl⟩
 clear c
 go_wp2
 go_ret
 exact ⟨rfl, rfl⟩

set_option maxHeartbeats 400000 in
theorem ssum16 (s : ByteArray) (hs : s.size ≤ 1048576) (w : World) :
  Calls Tryz.prog 54 #[.string s] w fun e w' => e = .returned (.int .u32 ((SM.sum 4294967295 s.data.toList : Nat) : Int)) ∧ w = w' := by
 have c := ssum15 4294967295 s (by omega) hs w
 generalize SM.sum 4294967295 s.data.toList = z at *
 go_enter Tryz.func54, Tryz.ntmps54
 go_wp2_with fail
 refine c.mono ?_
 rintro e w' ⟨rfl, rfl⟩
 clear c
 go_wp2
 go_ret
 exact ⟨rfl, rfl⟩
end Go.Proofs.YtpnnncfbodfnhaaGreatDoor

/- What spec.TxnText returns. -/
import Derived.Test.YtpnnncfbodfnhaaGreatDoorPr01
import Derived.Test.YtpnnncfbodfnhaaGreatDoorPr21
import Derived.Test.YtpnnncfbodfnhaaGreatDoorPr15
import Derived.Test.YtpnnncfbodfnhaaGreatDoorPr08
namespace Go.Proofs.YtpnnncfbodfnhaaGreatDoor
open Go.RowKit
open KM
open VM
attribute [local go_sem ↓] Go.wp_at_zero Go.wp_at_succ

theorem ba_size (u : ByteArray) : u.data.toList.length = u.size := Array.length_toList
theorem ba_app (a b : ByteArray) : (a ++ b).data.toList = a.data.toList ++ b.data.toList := by simp
theorem ba_len {u : ByteArray} {l : List UInt8} (h : u.data.toList = l) : u.size = l.length := by rw [← h, ba_size]
theorem ba_of {u : ByteArray} {l : List UInt8} (h : u.data.toList = l) : u = ⟨l.toArray⟩ := by
 subst h
 exact (ba_eta u).symm

set_option maxRecDepth 100000 in
set_option maxHeartbeats 2000000 in
theorem sshort (x : ByteArray) (hx : x.size ≤ 20000) (w : World) :
  Calls Tryz.prog 18 #[.string x] w fun e w' => ∃ u : ByteArray, e = .returned (.string u) ∧ u.data.toList = shL x ∧ Below w.heap.size w w' := by
 have h5 := WM.varL_len5 x.size (by omega)
 have hz : (⟨(WM.varL x.size).toArray⟩ : ByteArray).size ≤ 5 := by rw [size_mk]; exact h5
 clear h5
 go_enter Tryz.func18, Tryz.ntmps18
 go_wp2_with (go_at_call 55; refine (var28 x.size (by omega) _).mono ?_; rintro e w' ⟨rfl, hb⟩)
 go_ret
 exact ⟨_, rfl, by unfold shL; simp, hb⟩

set_option maxRecDepth 100000 in
set_option maxHeartbeats 2000000 in
theorem sbit (f : Bool) (w : World) : Calls Tryz.prog 19 #[.bool f] w fun e w' => ∃ u : ByteArray, e = .returned (.string u) ∧ u.data.toList = bitL f ∧ w' = w := by
 cases f
 ·go_enter Tryz.func19, Tryz.ntmps19
  go_wp2
  go_ret
  exact ⟨⟨#[0]⟩, rfl, rfl, rfl⟩
 ·go_enter Tryz.func19, Tryz.ntmps19
  go_wp2
  go_ret
  exact ⟨⟨#[1]⟩, rfl, rfl, rfl⟩

set_option maxRecDepth 100000 in
set_option maxHeartbeats 4000000 in
theorem stext (t : Tx) (ra wa : Option Addr) (rc wc : Nat) (hf : TFit t) (w : World) (hp : TRow w t ra wa) :
  Calls Tryz.prog 21 #[.agg #[.int .i64 t.id, .int .i64 t.st, .int .i64 t.snap, .int .i64 t.cs, .slice ra t.rs.length rc, .slice wa t.ws.length wc, .bool t.out, .string t.nm]] w fun e w' => e = .returned (txtV t) ∧ Below w.heap.size w w' := by
 have HP : Hid (TRow w t ra wa) := hp
 clear hp
 have BA0 : Hid (Bx (w.alloc (.cells #[.int .i64 t.id, .int .i64 t.st, .int .i64 t.snap, .int .i64 t.cs, .slice ra t.rs.length rc, .slice wa t.ws.length wc, .bool t.out, .string t.nm] 38)) w.heap.size [.int .i64 t.id, .int .i64 t.st, .int .i64 t.snap, .int .i64 t.cs, .slice ra t.rs.length rc, .slice wa t.ws.length wc, .bool t.out, .string t.nm]) := Bx.new w [.int .i64 t.id, .int .i64 t.st, .int .i64 t.snap, .int .i64 t.cs, .slice ra t.rs.length rc, .slice wa t.ws.length wc, .bool t.out, .string t.nm] 38
 have HB0 : Hid (Below w.heap.size w (w.alloc (.cells #[.int .i64 t.id, .int .i64 t.st, .int .i64 t.snap, .int .i64 t.cs, .slice ra t.rs.length rc, .slice wa t.ws.length wc, .bool t.out, .string t.nm] 38))) := (belowRefl w).alloc (Nat.le_refl _) _
 have C1 : Hid (∀ w, TRow w t ra wa → Calls Tryz.prog 48 #[.agg #[.int .i64 t.id, .int .i64 t.st, .int .i64 t.snap, .int .i64 t.cs, .slice ra t.rs.length rc, .slice wa t.ws.length wc, .bool t.out, .string t.nm]] w fun e w' => e = .returned (.bool (txnB t)) ∧ Below w.heap.size w w') := fun w h => stxn t ra wa rc wc hf w h
 clear hf
 cases ht : txnB t
 ·rw [ht] at C1
  have HV : Hid (txtV t = .tuple #[.string ⟨#[]⟩, .bool false]) := by show _ = _; unfold txtV; rw [ht]; rfl
  clear ht
  go_enter Tryz.func21, Tryz.ntmps21
  go_wp2_with fail
  refine (C1.out _ (HP.out.below HB0.out)).mono ?_
  rintro e w1 ⟨rfl, hb1⟩
  have HB1 : Hid (Below w.heap.size w w1) := HB0.out.trans (hb1.mono HB0.out.size)
  clear hb1
  go_wp2
  go_ret2
  exact ⟨by rw [HV.out]; rfl, HB1.out⟩
 rw [ht] at C1
 have HV : Hid (txtV t = .tuple #[.string ⟨(txL t).toArray⟩, .bool true]) := by show _ = _; unfold txtV; rw [ht]; rfl
 have HS : Hid (Small t) := right_small ht
 clear ht
 have hrl : t.rs.length ≤ 8 := HS.out.rl
 have hwl : t.ws.length ≤ 8 := HS.out.wl
 have CV : Hid (∀ (n : Int) w, 0 ≤ n → n ≤ 9999 → Calls Tryz.prog 55 #[.int .i64 n] w fun e w' => ∃ u : ByteArray, e = .returned (.string u) ∧ (u.data.toList = WM.varL n.toNat ∧ u.size ≤ 5) ∧ Below w.heap.size w w') := fun n w h0 h1 => by
  have k := var28 n.toNat (by omega) w
  rw [Int.toNat_of_nonneg h0] at k
  refine k.mono ?_
  rintro e w' ⟨rfl, hb⟩
  exact ⟨_, rfl, ⟨by simp, by rw [size_mk]; exact var_len _ (by omega)⟩, hb⟩
 go_enter Tryz.func21, Tryz.ntmps21
 go_wp2_with fail
 refine (C1.out _ (HP.out.below HB0.out)).mono ?_
 rintro e w1 ⟨rfl, hb1⟩
 have HB1 : Hid (Below w.heap.size w w1) := HB0.out.trans (hb1.mono HB0.out.size)
 have BA1 := hide (BA0.out.below hb1)
 clear hb1 BA0 HB0 C1
 go_wp2
 refine wp_region_held_drew (S := fun w' => w'.cell? ⟨w.heap.size, 0, none⟩ = some (.int .i64 t.id) ∧ w'.cell? ⟨w.heap.size, 1, none⟩ = some (.int .i64 t.st) ∧ w'.cell? ⟨w.heap.size, 2, none⟩ = some (.int .i64 t.snap) ∧ w'.cell? ⟨w.heap.size, 3, none⟩ = some (.int .i64 t.cs) ∧ w'.cell? ⟨w.heap.size, 4, none⟩ = some (.slice ra t.rs.length rc)) (by kernel_rfl) ⟨BA1.out.c0, BA1.out.c1, BA1.out.c2, BA1.out.c3, BA1.out.c4⟩ (fun hHeld => ?_)
 (refine ti 0 ?_; simp only [Act.put, tA, tB, tD, tE, tF])
 (refine ti 1 ?_; simp only [Act.put, tA, tB, tC, tD, tE, tF])
 (refine ti 3 ?_; simp only [Act.put, tA, tB, tC, tD, tE, tF])
 (refine ti 4 ?_; simp only [Act.put, tA, tB, tC, tD, tE, tF])
 (refine ti 7 ?_; simp only [Act.put, tA, tB, tC, tD, tE, tF])
 (refine ti 8 ?_; simp only [Act.put, tA, tB, tC, tD, tE, tF])
 (refine ti 11 ?_; simp only [Act.put, tA, tB, tC, tD, tE, tF])
 (refine ti 12 ?_; simp only [Act.put, tA, tB, tC, tD, tE, tF])
 (refine ti 15 ?_; simp only [Act.put, tA, tB, tC, tD, tE, tF])
 (refine ti 16 ?_; simp only [Act.put, tA, tB, tC, tD, tE, tF])
 (refine ti 17 ?_; simp only [Act.put, tA, tB, tC, tD, tE, tF])
 refine wpAnyH_ready (rs := [2]) (by kernel_rfl) (by simp) ?_
 refine AllReadyH.cons rfl (fun K hK => ?_) AllReadyH.nil
 go_simp
 go_wp2_with fail
 refine (CV.out t.id _ HS.out.i0 HS.out.i1).mono ?_
 rintro e v1 ⟨u1, rfl, ⟨hu, hz1⟩, hb⟩
 have HU1 := hide hu
 have hbu := undrew hb
 have BA2 := hide (BA1.out.below hbu)
 have HB2 : Hid (Below w.heap.size w v1) := HB1.out.trans (hbu.mono HB1.out.size)
 clear hu hb hbu
 go_wp2_with fail
 refine hK.out _ _ ⟨BA2.out.c0, BA2.out.c1, BA2.out.c2, BA2.out.c3, BA2.out.c4⟩ (fun hHeld1 => ?_)
 clear hK K BA1 HB1
 refine wpAnyH_ready (rs := [5]) (by kernel_rfl) (by simp) ?_
 refine AllReadyH.cons rfl (fun K hK => ?_) AllReadyH.nil
 go_simp
 go_wp2_with fail
 refine (CV.out t.st _ HS.out.s0 (by have := HS.out.s1; omega)).mono ?_
 rintro e v2 ⟨u2, rfl, ⟨hu, hz2⟩, hb⟩
 have HU2 := hide hu
 have hbu := hb
 have BA3 := hide (BA2.out.below hbu)
 have HB3 : Hid (Below w.heap.size w v2) := HB2.out.trans (hbu.mono HB2.out.size)
 clear hu hb hbu
 go_wp2_with fail
 refine hK.out _ _ ⟨BA3.out.c0, BA3.out.c1, BA3.out.c2, BA3.out.c3, BA3.out.c4⟩ (fun hHeld2 => ?_)
 clear hK K BA2 HB2
 have hs1 : (u1 ++ u2).size ≤ 10 := by rw [ByteArray.size_append]; omega
 (refine tk 6 ?_ rfl (Or.inl ⟨by rfl, ?_⟩) ?_; rotate_left; (focus (intro w hSw; (try dsimp only at hSw); go_simp; (try rw [if_neg (by omega)]); (try with_reducible rfl); done)); simp only [Act.put, tA, tB, tC, tD, tE, tF])
 generalize hse : u1 ++ u2 = s1 at *
 have HS1 : Hid (s1.data.toList = u1.data.toList ++ u2.data.toList) := by show _ = _; rw [← hse, ba_app]
 clear hse
 refine wpAnyH_ready (rs := [9]) (by kernel_rfl) (by simp) ?_
 refine AllReadyH.cons rfl (fun K hK => ?_) AllReadyH.nil
 go_simp
 go_wp2_with fail
 refine (CV.out t.snap _ HS.out.p0 HS.out.p1).mono ?_
 rintro e v3 ⟨u3, rfl, ⟨hu, hz3⟩, hb⟩
 have HU3 := hide hu
 have hbu := hb
 have BA4 := hide (BA3.out.below hbu)
 have HB4 : Hid (Below w.heap.size w v3) := HB3.out.trans (hbu.mono HB3.out.size)
 clear hu hb hbu
 go_wp2_with fail
 refine hK.out _ _ ⟨BA4.out.c0, BA4.out.c1, BA4.out.c2, BA4.out.c3, BA4.out.c4⟩ (fun hHeld3 => ?_)
 clear hK K BA3 HB3
 have hs2 : (s1 ++ u3).size ≤ 15 := by rw [ByteArray.size_append]; omega
 (refine tk 10 ?_ rfl (Or.inl ⟨by rfl, ?_⟩) ?_; rotate_left; (focus (intro w hSw; (try dsimp only at hSw); go_simp; (try rw [if_neg (by omega)]); (try with_reducible rfl); done)); simp only [Act.put, tA, tB, tC, tD, tE, tF])
 generalize hse : s1 ++ u3 = s2 at *
 have HS2 : Hid (s2.data.toList = s1.data.toList ++ u3.data.toList) := by show _ = _; rw [← hse, ba_app]
 clear hse
 refine wpAnyH_ready (rs := [13]) (by kernel_rfl) (by simp) ?_
 refine AllReadyH.cons rfl (fun K hK => ?_) AllReadyH.nil
 go_simp
 go_wp2_with fail
 refine (CV.out t.cs _ HS.out.c0 HS.out.c1).mono ?_
 rintro e v4 ⟨u4, rfl, ⟨hu, hz4⟩, hb⟩
 have HU4 := hide hu
 have hbu := hb
 have BA5 := hide (BA4.out.below hbu)
 have HB5 : Hid (Below w.heap.size w v4) := HB4.out.trans (hbu.mono HB4.out.size)
 clear hu hb hbu
 go_wp2_with fail
 refine hK.out _ _ ⟨BA5.out.c0, BA5.out.c1, BA5.out.c2, BA5.out.c3, BA5.out.c4⟩ (fun hHeld4 => ?_)
 clear hK K BA4 HB4
 have hs3 : (s2 ++ u4).size ≤ 20 := by rw [ByteArray.size_append]; omega
 (refine tk 14 ?_ rfl (Or.inl ⟨by rfl, ?_⟩) ?_; rotate_left; (focus (intro w hSw; (try dsimp only at hSw); go_simp; (try rw [if_neg (by omega)]); (try with_reducible rfl); done)); simp only [Act.put, tA, tB, tC, tD, tE, tF])
 generalize hse : s2 ++ u4 = s3 at *
 have HS3 : Hid (s3.data.toList = s2.data.toList ++ u4.data.toList) := by show _ = _; rw [← hse, ba_app]
 clear hse
 refine wpAnyH_ready (rs := [18]) (by kernel_rfl) (by simp) ?_
 refine AllReadyH.cons rfl (fun K hK => ?_) AllReadyH.nil
 go_simp
 go_wp2_with fail
 refine (CV.out (t.rs.length : Int) _ (by omega) (by omega)).mono ?_
 rintro e v5 ⟨u5, rfl, ⟨hu, hz5⟩, hb⟩
 have HU5 := hide hu
 have hbu := hb
 have BA6 := hide (BA5.out.below hbu)
 have HB6 : Hid (Below w.heap.size w v5) := HB5.out.trans (hbu.mono HB5.out.size)
 clear hu hb hbu
 go_wp2_with fail
 refine hK.out _ _ ⟨BA6.out.c0, BA6.out.c1, BA6.out.c2, BA6.out.c3, BA6.out.c4⟩ (fun hHeld5 => ?_)
 clear hK K BA5 HB5
 have hs4 : (s3 ++ u5).size ≤ 25 := by rw [ByteArray.size_append]; omega
 (refine tk 19 ?_ rfl (Or.inl ⟨by rfl, ?_⟩) ?_; rotate_left; (focus (intro w hSw; (try dsimp only at hSw); go_simp; (try rw [if_neg (by omega)]); (try with_reducible rfl); done)); simp only [Act.put, tA, tB, tC, tD, tE, tF])
 generalize hse : s3 ++ u5 = s4 at *
 have HS4 : Hid (s4.data.toList = s3.data.toList ++ u5.data.toList) := by show _ = _; rw [← hse, ba_app]
 clear hse
 (refine ti 20 ?_; simp only [Act.put, tA, tB, tC, tD, tE, tF])
 refine wpAnyH_done (by kernel_rfl) ?_ _
 obtain ⟨P, hP⟩ : ∃ P : List UInt8, P = s4.data.toList := ⟨_, rfl⟩
 have HPe : Hid (P = WM.varL t.id.toNat ++ (WM.varL t.st.toNat ++ (WM.varL t.snap.toNat ++ (WM.varL t.cs.toNat ++ WM.varL t.rs.length)))) := by
  show _ = _
  rw [hP, HS4.out, HS3.out, HS2.out, HS1.out, HU1.out, HU2.out, HU3.out, HU4.out, HU5.out]
  simp only [List.append_assoc, Int.toNat_natCast]
 have HP0 : Hid (s4.data.toList = P) := hP.symm
 have nP : P.length ≤ 25 := by rw [hP, ba_size]; exact hs4
 clear hP HU1 HU2 HU3 HU4 HU5 HS1 HS2 HS3 HS4 CV
 go_wp2
 go_loopw [4, 5] (fun v i wr => ∃ (k : Nat) (u : ByteArray), k ≤ t.rs.length ∧ i = .int .i64 k ∧ v = .string u ∧ Hid (u.data.toList = P ++ rgL (t.rs.take k)) ∧ Hid (Bx wr w.heap.size [.int .i64 t.id, .int .i64 t.st, .int .i64 t.snap, .int .i64 t.cs, .slice ra t.rs.length rc, .slice wa t.ws.length wc, .bool t.out, .string t.nm]) ∧ Hid (Below w.heap.size w wr)) (fun _ i _ => t.rs.length - (intOf i).toNat)
 case atStart => exact ⟨0, _, Nat.zero_le _, rfl, rfl, (by show _ = _; rw [HP0.out]; simp [rgL]), BA6, HB6⟩
 case round =>
  clear BA6 HB6 HP0
  obtain ⟨k, u, hk, rfl, rfl, HU, BA, HB⟩ := hrel
  have x4 := BA.out.c4
  by_cases hlt : k < t.rs.length
  ·have hlt' : (k : Int) < (t.rs.length : Int) := by omega
   have h0 : (0 : Int) ≤ (k : Int) := by omega
   have hpr := HP.out.r.below HB.out
   obtain ⟨bb, off, rfl, hbl, q⟩ := hpr (by omega)
   have Q := hide (rat q k hlt)
   have HZ := hide (HS.out.rs _ (List.getElem_mem hlt))
   have hlk : (rgL (t.rs.take k)).length ≤ 400000 := by
    have h1 := rg_len (t.rs.take k) (fun x hx => by have := HS.out.rs x (List.mem_of_mem_take hx); omega)
    rw [List.length_take] at h1
    omega
   have huz : u.size ≤ 450000 := by rw [ba_len HU.out, List.length_append]; omega
   have HE : Hid (rgL (t.rs.take (k + 1)) = rgL (t.rs.take k) ++ (shL t.rs[k].1 ++ shL t.rs[k].2)) := rg_take hlt
   clear q hpr hlk
   go_wp2
   refine wp_region_held_drew (S := fun w' => w'.cell? ⟨w.heap.size, 4, none⟩ = some (.slice (some ⟨bb, off, none⟩) t.rs.length rc) ∧ w'.cell? ⟨bb, off + k * 2, none⟩ = some (.string t.rs[k].1) ∧ w'.cell? ⟨bb, off + k * 2 + 1, none⟩ = some (.string t.rs[k].2)) (by kernel_rfl) ⟨BA.out.c4, Q.out.1, Q.out.2⟩ (fun hHeld => ?_)
   (refine ti 0 ?_; simp only [Act.put, tA, tB, tD, tE, tF])
   (refine ti 1 ?_; simp only [Act.put, tA, tB, tC, tD, tE, tF])
   (refine ti 2 ?_; simp only [Act.put, tA, tB, tC, tD, tE, tF])
   (refine ti 3 ?_; simp only [Act.put, tA, tB, tC, tD, tE, tF])
   (refine ti 4 ?_; simp only [Act.put, tA, tB, tC, tD, tE, tF])
   (refine ti 5 ?_; simp only [Act.put, tA, tB, tC, tD, tE, tF])
   (refine ti 6 ?_; simp only [Act.put, tA, tB, tC, tD, tE, tF])
   (refine ti 9 ?_; simp only [Act.put, tA, tB, tC, tD, tE, tF])
   (refine ti 10 ?_; simp only [Act.put, tA, tB, tC, tD, tE, tF])
   (refine ti 11 ?_; simp only [Act.put, tA, tB, tC, tD, tE, tF])
   (refine ti 12 ?_; simp only [Act.put, tA, tB, tC, tD, tE, tF])
   (refine ti 13 ?_; simp only [Act.put, tA, tB, tC, tD, tE, tF])
   (refine ti 14 ?_; simp only [Act.put, tA, tB, tC, tD, tE, tF])
   refine wpAnyH_ready (rs := [7]) (by kernel_rfl) (by simp) ?_
   refine AllReadyH.cons rfl (fun K hK => ?_) AllReadyH.nil
   go_simp
   go_wp2_with fail
   refine (sshort t.rs[k].1 (by have := HZ.out; omega) _).mono ?_
   rintro e y0 ⟨g0, rfl, hg, hb⟩
   have HG0 := hide hg
   have hgz0 : g0.size ≤ 20005 := by rw [ba_len HG0.out]; first | exact sh_len (by have := HZ.out; omega) | (rw [bit_len]; omega)
   have hbu := undrew hb
   have BA1 := hide (BA.out.below hbu)
   have HB1 : Hid (Below w.heap.size w y0) := HB.out.trans (hbu.mono HB.out.size)
   have Q1 : Hid (y0.cell? ⟨bb, off + k * 2, none⟩ = some (.string t.rs[k].1) ∧ y0.cell? ⟨bb, off + k * 2 + 1, none⟩ = some (.string t.rs[k].2)) := ⟨(hbu.cell (p := ⟨bb, off + k * 2, none⟩) hbl).trans Q.out.1, (hbu.cell (p := ⟨bb, off + k * 2 + 1, none⟩) hbl).trans Q.out.2⟩
   have hbl1 : bb < y0.heap.size := Nat.lt_of_lt_of_le hbl hbu.size
   clear hb hbu
   clear hg
   go_wp2_with fail
   refine hK.out _ _ ⟨BA1.out.c4, Q1.out.1, Q1.out.2⟩ (fun hHeldx0 => ?_)
   clear hK K
   have hcz0 : (u ++ g0).size ≤ 470005 := by rw [ByteArray.size_append]; omega
   (refine tk 8 ?_ rfl (Or.inl ⟨by rfl, ?_⟩) ?_; rotate_left; (focus (intro w hSw; (try dsimp only at hSw); go_simp; (try rw [if_neg (by omega)]); (try with_reducible rfl); done)); simp only [Act.put, tA, tB, tC, tD, tE, tF])
   generalize hse : u ++ g0 = c0 at *
   have HC0 : Hid (c0.data.toList = u.data.toList ++ g0.data.toList) := by show _ = _; rw [← hse, ba_app]
   clear hse
   refine wpAnyH_ready (rs := [15]) (by kernel_rfl) (by simp) ?_
   refine AllReadyH.cons rfl (fun K hK => ?_) AllReadyH.nil
   go_simp
   go_wp2_with fail
   refine (sshort t.rs[k].2 (by have := HZ.out; omega) _).mono ?_
   rintro e y1 ⟨g1, rfl, hg, hb⟩
   have HG1 := hide hg
   have hgz1 : g1.size ≤ 20005 := by rw [ba_len HG1.out]; first | exact sh_len (by have := HZ.out; omega) | (rw [bit_len]; omega)
   have hbu := hb
   have BA2 := hide (BA1.out.below hbu)
   have HB2 : Hid (Below w.heap.size w y1) := HB1.out.trans (hbu.mono HB1.out.size)
   have Q2 : Hid (y1.cell? ⟨bb, off + k * 2, none⟩ = some (.string t.rs[k].1) ∧ y1.cell? ⟨bb, off + k * 2 + 1, none⟩ = some (.string t.rs[k].2)) := ⟨(hbu.cell (p := ⟨bb, off + k * 2, none⟩) hbl1).trans Q1.out.1, (hbu.cell (p := ⟨bb, off + k * 2 + 1, none⟩) hbl1).trans Q1.out.2⟩
   clear hb hbu
   clear hg
   go_wp2_with fail
   refine hK.out _ _ ⟨BA2.out.c4, Q2.out.1, Q2.out.2⟩ (fun hHeldx1 => ?_)
   clear hK K
   have hcz1 : (c0 ++ g1).size ≤ 490010 := by rw [ByteArray.size_append]; omega
   (refine tk 16 ?_ rfl (Or.inl ⟨by rfl, ?_⟩) ?_; rotate_left; (focus (intro w hSw; (try dsimp only at hSw); go_simp; (try rw [if_neg (by omega)]); (try with_reducible rfl); done)); simp only [Act.put, tA, tB, tC, tD, tE, tF])
   generalize hse : c0 ++ g1 = c1 at *
   have HC1 : Hid (c1.data.toList = c0.data.toList ++ g1.data.toList) := by show _ = _; rw [← hse, ba_app]
   clear hse
   (refine ti 17 ?_; simp only [Act.put, tA, tB, tC, tD, tE, tF])
   refine wpAnyH_done (by kernel_rfl) ?_ _
   have HUn : Hid (c1.data.toList = P ++ rgL (t.rs.take (k + 1))) := by
    show _ = _
    rw [HC1.out, HC0.out, HU.out, HG0.out, HG1.out, HE.out]
    simp only [List.append_assoc]
   clear HE HC0 HG0 HC1 HG1
   go_wp2
   go_roundw
   case rel => exact ⟨k + 1, _, by omega, by go_num, rfl, HUn, BA2, HB2⟩
   case measure => simp [intOf]; omega
  ·have hlt' : ¬ (k : Int) < (t.rs.length : Int) := by omega
   have hu := HU.out
   rw [List.take_of_length_le (by omega)] at hu
   have HUe := hide hu
   clear hu HU
   have hz0 : u.size ≤ 400025 := by
    rw [ba_len HUe.out, List.length_append]
    have h1 := rg_len t.rs (fun x hx => by have := HS.out.rs x hx; omega)
    omega
   have x5 := BA.out.c5
   go_wp2_with fail
   refine (var28 t.ws.length (by omega) _).mono ?_
   rintro e z1 ⟨rfl, hb⟩
   have BAm := hide (BA.out.below hb)
   have HBm : Hid (Below w.heap.size w z1) := HB.out.trans (hb.mono HB.out.size)
   clear hb x5 x4
   obtain ⟨gm, hgm⟩ : ∃ gm : ByteArray, gm = ⟨(WM.varL t.ws.length).toArray⟩ := ⟨_, rfl⟩
   have HGm : Hid (gm.data.toList = WM.varL t.ws.length) := by show _ = _; rw [hgm]
   have hgmz : gm.size ≤ 5 := by rw [ba_len HGm.out]; exact var_len _ (by omega)
   rw [← hgm]
   clear hgm
   go_wp2
   obtain ⟨P2, hP2⟩ : ∃ P2 : List UInt8, P2 = (u ++ gm).data.toList := ⟨_, rfl⟩
   have HP2e : Hid (P2 = WM.varL t.id.toNat ++ (WM.varL t.st.toNat ++ (WM.varL t.snap.toNat ++ (WM.varL t.cs.toNat ++ (WM.varL t.rs.length ++ (rgL t.rs ++ WM.varL t.ws.length)))))) := by
    show _ = _
    rw [hP2, ba_app, HUe.out, HGm.out, HPe.out]
    simp only [List.append_assoc]
   have HPm : Hid ((u ++ gm).data.toList = P2) := hP2.symm
   have nP2 : P2.length ≤ 400030 := by rw [hP2, ba_size, ByteArray.size_append]; omega
   clear hP2
   generalize u ++ gm = um at *
   clear HUe HGm BA HB HPe
   go_loopw [4, 6] (fun v i wr => ∃ (k : Nat) (u : ByteArray), k ≤ t.ws.length ∧ i = .int .i64 k ∧ v = .string u ∧ Hid (u.data.toList = P2 ++ wrtL (t.ws.take k)) ∧ Hid (Bx wr w.heap.size [.int .i64 t.id, .int .i64 t.st, .int .i64 t.snap, .int .i64 t.cs, .slice ra t.rs.length rc, .slice wa t.ws.length wc, .bool t.out, .string t.nm]) ∧ Hid (Below w.heap.size w wr)) (fun _ i _ => t.ws.length - (intOf i).toNat)
   case atStart => exact ⟨0, _, Nat.zero_le _, rfl, rfl, (by show _ = _; rw [HPm.out]; simp [wrtL]), BAm, HBm⟩
   case round =>
    clear BAm HBm HPm
    obtain ⟨k, u, hk, rfl, rfl, HU, BA, HB⟩ := hrel
    have x5 := BA.out.c5
    by_cases hlt : k < t.ws.length
    ·have hlt' : (k : Int) < (t.ws.length : Int) := by omega
     have h0 : (0 : Int) ≤ (k : Int) := by omega
     have hpr := HP.out.w.below HB.out
     obtain ⟨bb, off, rfl, hbl, q⟩ := hpr (by omega)
     have Q := hide (wat q k hlt)
     have HZ := hide (HS.out.ws _ (List.getElem_mem hlt))
     have hlk : (wrtL (t.ws.take k)).length ≤ 400000 := by
      have h1 := wt_len (t.ws.take k) (fun x hx => by have := HS.out.ws x (List.mem_of_mem_take hx); omega)
      rw [List.length_take] at h1
      omega
     have huz : u.size ≤ 900000 := by rw [ba_len HU.out, List.length_append]; omega
     have HE : Hid (wrtL (t.ws.take (k + 1)) = wrtL (t.ws.take k) ++ (shL t.ws[k].1 ++ (shL t.ws[k].2.1 ++ bitL t.ws[k].2.2))) := wt_take hlt
     clear q hpr hlk
     go_wp2
     refine wp_region_held_drew (S := fun w' => w'.cell? ⟨w.heap.size, 5, none⟩ = some (.slice (some ⟨bb, off, none⟩) t.ws.length wc) ∧ w'.cell? ⟨bb, off + k * 3, none⟩ = some (.string t.ws[k].1) ∧ w'.cell? ⟨bb, off + k * 3 + 1, none⟩ = some (.string t.ws[k].2.1) ∧ w'.cell? ⟨bb, off + k * 3 + 2, none⟩ = some (.bool t.ws[k].2.2)) (by kernel_rfl) ⟨BA.out.c5, Q.out.1, Q.out.2.1, Q.out.2.2⟩ (fun hHeld => ?_)
     (refine ti 0 ?_; simp only [Act.put, tA, tB, tD, tE, tF])
     (refine ti 1 ?_; simp only [Act.put, tA, tB, tC, tD, tE, tF])
     (refine ti 2 ?_; simp only [Act.put, tA, tB, tC, tD, tE, tF])
     (refine ti 3 ?_; simp only [Act.put, tA, tB, tC, tD, tE, tF])
     (refine ti 4 ?_; simp only [Act.put, tA, tB, tC, tD, tE, tF])
     (refine ti 5 ?_; simp only [Act.put, tA, tB, tC, tD, tE, tF])
     (refine ti 6 ?_; simp only [Act.put, tA, tB, tC, tD, tE, tF])
     (refine ti 9 ?_; simp only [Act.put, tA, tB, tC, tD, tE, tF])
     (refine ti 10 ?_; simp only [Act.put, tA, tB, tC, tD, tE, tF])
     (refine ti 11 ?_; simp only [Act.put, tA, tB, tC, tD, tE, tF])
     (refine ti 12 ?_; simp only [Act.put, tA, tB, tC, tD, tE, tF])
     (refine ti 13 ?_; simp only [Act.put, tA, tB, tC, tD, tE, tF])
     (refine ti 14 ?_; simp only [Act.put, tA, tB, tC, tD, tE, tF])
     (refine ti 17 ?_; simp only [Act.put, tA, tB, tC, tD, tE, tF])
     (refine ti 18 ?_; simp only [Act.put, tA, tB, tC, tD, tE, tF])
     (refine ti 19 ?_; simp only [Act.put, tA, tB, tC, tD, tE, tF])
     (refine ti 20 ?_; simp only [Act.put, tA, tB, tC, tD, tE, tF])
     (refine ti 21 ?_; simp only [Act.put, tA, tB, tC, tD, tE, tF])
     (refine ti 22 ?_; simp only [Act.put, tA, tB, tC, tD, tE, tF])
     refine wpAnyH_ready (rs := [7]) (by kernel_rfl) (by simp) ?_
     refine AllReadyH.cons rfl (fun K hK => ?_) AllReadyH.nil
     go_simp
     go_wp2_with fail
     refine (sshort t.ws[k].1 (by have := HZ.out; omega) _).mono ?_
     rintro e y0 ⟨g0, rfl, hg, hb⟩
     have HG0 := hide hg
     have hgz0 : g0.size ≤ 20005 := by rw [ba_len HG0.out]; first | exact sh_len (by have := HZ.out; omega) | (rw [bit_len]; omega)
     have hbu := undrew hb
     have BA1 := hide (BA.out.below hbu)
     have HB1 : Hid (Below w.heap.size w y0) := HB.out.trans (hbu.mono HB.out.size)
     have Q1 : Hid (y0.cell? ⟨bb, off + k * 3, none⟩ = some (.string t.ws[k].1) ∧ y0.cell? ⟨bb, off + k * 3 + 1, none⟩ = some (.string t.ws[k].2.1) ∧ y0.cell? ⟨bb, off + k * 3 + 2, none⟩ = some (.bool t.ws[k].2.2)) := ⟨(hbu.cell (p := ⟨bb, off + k * 3, none⟩) hbl).trans Q.out.1, (hbu.cell (p := ⟨bb, off + k * 3 + 1, none⟩) hbl).trans Q.out.2.1, (hbu.cell (p := ⟨bb, off + k * 3 + 2, none⟩) hbl).trans Q.out.2.2⟩
     have hbl1 : bb < y0.heap.size := Nat.lt_of_lt_of_le hbl hbu.size
     clear hb hbu
     clear hg
     go_wp2_with fail
     refine hK.out _ _ ⟨BA1.out.c5, Q1.out.1, Q1.out.2.1, Q1.out.2.2⟩ (fun hHeldx0 => ?_)
     clear hK K
     have hcz0 : (u ++ g0).size ≤ 920005 := by rw [ByteArray.size_append]; omega
     (refine tk 8 ?_ rfl (Or.inl ⟨by rfl, ?_⟩) ?_; rotate_left; (focus (intro w hSw; (try dsimp only at hSw); go_simp; (try rw [if_neg (by omega)]); (try with_reducible rfl); done)); simp only [Act.put, tA, tB, tC, tD, tE, tF])
     generalize hse : u ++ g0 = c0 at *
     have HC0 : Hid (c0.data.toList = u.data.toList ++ g0.data.toList) := by show _ = _; rw [← hse, ba_app]
     clear hse
     refine wpAnyH_ready (rs := [15]) (by kernel_rfl) (by simp) ?_
     refine AllReadyH.cons rfl (fun K hK => ?_) AllReadyH.nil
     go_simp
     go_wp2_with fail
     refine (sshort t.ws[k].2.1 (by have := HZ.out; omega) _).mono ?_
     rintro e y1 ⟨g1, rfl, hg, hb⟩
     have HG1 := hide hg
     have hgz1 : g1.size ≤ 20005 := by rw [ba_len HG1.out]; first | exact sh_len (by have := HZ.out; omega) | (rw [bit_len]; omega)
     have hbu := hb
     have BA2 := hide (BA1.out.below hbu)
     have HB2 : Hid (Below w.heap.size w y1) := HB1.out.trans (hbu.mono HB1.out.size)
     have Q2 : Hid (y1.cell? ⟨bb, off + k * 3, none⟩ = some (.string t.ws[k].1) ∧ y1.cell? ⟨bb, off + k * 3 + 1, none⟩ = some (.string t.ws[k].2.1) ∧ y1.cell? ⟨bb, off + k * 3 + 2, none⟩ = some (.bool t.ws[k].2.2)) := ⟨(hbu.cell (p := ⟨bb, off + k * 3, none⟩) hbl1).trans Q1.out.1, (hbu.cell (p := ⟨bb, off + k * 3 + 1, none⟩) hbl1).trans Q1.out.2.1, (hbu.cell (p := ⟨bb, off + k * 3 + 2, none⟩) hbl1).trans Q1.out.2.2⟩
     clear hb hbu
     clear hg
     go_wp2_with fail
     refine hK.out _ _ ⟨BA2.out.c5, Q2.out.1, Q2.out.2.1, Q2.out.2.2⟩ (fun hHeldx1 => ?_)
     clear hK K
     have hcz1 : (c0 ++ g1).size ≤ 940010 := by rw [ByteArray.size_append]; omega
     (refine tk 16 ?_ rfl (Or.inl ⟨by rfl, ?_⟩) ?_; rotate_left; (focus (intro w hSw; (try dsimp only at hSw); go_simp; (try rw [if_neg (by omega)]); (try with_reducible rfl); done)); simp only [Act.put, tA, tB, tC, tD, tE, tF])
     generalize hse : c0 ++ g1 = c1 at *
     have HC1 : Hid (c1.data.toList = c0.data.toList ++ g1.data.toList) := by show _ = _; rw [← hse, ba_app]
     clear hse
     refine wpAnyH_ready (rs := [23]) (by kernel_rfl) (by simp) ?_
     refine AllReadyH.cons rfl (fun K hK => ?_) AllReadyH.nil
     go_simp
     go_wp2_with fail
     refine (sbit t.ws[k].2.2 _).mono ?_
     rintro e y2 ⟨g2, rfl, hg, rfl⟩
     have HG2 := hide hg
     have hgz2 : g2.size ≤ 20005 := by rw [ba_len HG2.out]; first | exact sh_len (by have := HZ.out; omega) | (rw [bit_len]; omega)
     have BA3 := BA2
     have HB3 := HB2
     have Q3 := Q2
     clear hg
     go_wp2_with fail
     refine hK.out _ _ ⟨BA3.out.c5, Q3.out.1, Q3.out.2.1, Q3.out.2.2⟩ (fun hHeldx2 => ?_)
     clear hK K
     have hcz2 : (c1 ++ g2).size ≤ 960015 := by rw [ByteArray.size_append]; omega
     (refine tk 24 ?_ rfl (Or.inl ⟨by rfl, ?_⟩) ?_; rotate_left; (focus (intro w hSw; (try dsimp only at hSw); go_simp; (try rw [if_neg (by omega)]); (try with_reducible rfl); done)); simp only [Act.put, tA, tB, tC, tD, tE, tF])
     generalize hse : c1 ++ g2 = c2 at *
     have HC2 : Hid (c2.data.toList = c1.data.toList ++ g2.data.toList) := by show _ = _; rw [← hse, ba_app]
     clear hse
     (refine ti 25 ?_; simp only [Act.put, tA, tB, tC, tD, tE, tF])
     refine wpAnyH_done (by kernel_rfl) ?_ _
     have HUn : Hid (c2.data.toList = P2 ++ wrtL (t.ws.take (k + 1))) := by
      show _ = _
      rw [HC2.out, HC1.out, HC0.out, HU.out, HG0.out, HG1.out, HG2.out, HE.out]
      simp only [List.append_assoc]
     clear HE HC0 HG0 HC1 HG1 HC2 HG2
     go_wp2
     go_roundw
     case rel => exact ⟨k + 1, _, by omega, by go_num, rfl, HUn, BA3, HB3⟩
     case measure => simp [intOf]; omega
    ·have hlt' : ¬ (k : Int) < (t.ws.length : Int) := by omega
     have hu := HU.out
     rw [List.take_of_length_le (by omega)] at hu
     have HUe := hide hu
     clear hu HU
     have huz : u.size ≤ 1000000 := by
      rw [ba_len HUe.out, List.length_append]
      have h1 := wt_len t.ws (fun x hx => by have := HS.out.ws x hx; omega)
      omega
     go_wp2
     refine wp_region_held_drew (S := fun w' => w'.cell? ⟨w.heap.size, 6, none⟩ = some (.bool t.out) ∧ w'.cell? ⟨w.heap.size, 7, none⟩ = some (.string t.nm)) (by kernel_rfl) ⟨BA.out.c6, BA.out.c7⟩ (fun hHeld => ?_)
     (refine ti 0 ?_; simp only [Act.put, tA, tB, tD, tE, tF])
     (refine ti 1 ?_; simp only [Act.put, tA, tB, tC, tD, tE, tF])
     (refine ti 2 ?_; simp only [Act.put, tA, tB, tC, tD, tE, tF])
     (refine ti 5 ?_; simp only [Act.put, tA, tB, tC, tD, tE, tF])
     (refine ti 6 ?_; simp only [Act.put, tA, tB, tC, tD, tE, tF])
     refine wpAnyH_ready (rs := [3]) (by kernel_rfl) (by simp) ?_
     refine AllReadyH.cons rfl (fun K hK => ?_) AllReadyH.nil
     go_simp
     go_wp2_with fail
     refine (sbit t.out _).mono ?_
     rintro e y0 ⟨g0, rfl, hg, rfl⟩
     have HG0 := hide hg
     have hgz0 : g0.size ≤ 20005 := by rw [ba_len HG0.out, bit_len]; omega
     clear hg
     go_wp2_with fail
     refine hK.out _ _ ⟨BA.out.drew.c6, BA.out.drew.c7⟩ (fun hHeldx0 => ?_)
     clear hK K
     have hcz0 : (u ++ g0).size ≤ 3000000 := by rw [ByteArray.size_append]; omega
     (refine tk 4 ?_ rfl (Or.inl ⟨by rfl, ?_⟩) ?_; rotate_left; (focus (intro w hSw; (try dsimp only at hSw); go_simp; (try rw [if_neg (by omega)]); (try with_reducible rfl); done)); simp only [Act.put, tA, tB, tC, tD, tE, tF])
     generalize hse : u ++ g0 = c0 at *
     have HC0 : Hid (c0.data.toList = u.data.toList ++ g0.data.toList) := by show _ = _; rw [← hse, ba_app]
     clear hse
     refine wpAnyH_ready (rs := [7]) (by kernel_rfl) (by simp) ?_
     refine AllReadyH.cons rfl (fun K hK => ?_) AllReadyH.nil
     go_simp
     go_wp2_with fail
     refine (sshort t.nm (by have := HS.out.nm; omega) _).mono ?_
     rintro e y1 ⟨g1, rfl, hg, hb⟩
     have HG1 := hide hg
     have hgz1 : g1.size ≤ 20005 := by rw [ba_len HG1.out]; exact sh_len (by have := HS.out.nm; omega)
     have hbu := undrew hb
     have BA2 := hide (BA.out.below hbu)
     have HB2 : Hid (Below w.heap.size w y1) := HB.out.trans (hbu.mono HB.out.size)
     clear hg hb hbu
     go_wp2_with fail
     refine hK.out _ _ ⟨BA2.out.c6, BA2.out.c7⟩ (fun hHeldx1 => ?_)
     clear hK K
     have hcz1 : (c0 ++ g1).size ≤ 4000000 := by rw [ByteArray.size_append]; omega
     (refine tk 8 ?_ rfl (Or.inl ⟨by rfl, ?_⟩) ?_; rotate_left; (focus (intro w hSw; (try dsimp only at hSw); go_simp; (try rw [if_neg (by omega)]); (try with_reducible rfl); done)); simp only [Act.put, tA, tB, tC, tD, tE, tF])
     generalize hse : c0 ++ g1 = c1 at *
     have HC1 : Hid (c1.data.toList = c0.data.toList ++ g1.data.toList) := by show _ = _; rw [← hse, ba_app]
     clear hse
     (refine ti 9 ?_; simp only [Act.put, tA, tB, tC, tD, tE, tF])
     (refine ti 10 ?_; simp only [Act.put, tA, tB, tC, tD, tE, tF])
     refine wpAnyH_done (by kernel_rfl) ?_ _
     have HF : Hid (c1 = ⟨(txL t).toArray⟩) := by
      refine ba_of ?_
      rw [HC1.out, HC0.out, HUe.out, HG0.out, HG1.out, HP2e.out]
      unfold txL
      simp only [List.append_assoc]
     go_wp2
     go_ret2
     exact ⟨by rw [HV.out, HF.out]; rfl, HB2.out⟩
end Go.Proofs.YtpnnncfbodfnhaaGreatDoor

namespace Go.Proofs.YtpnnncfbodfnhaaGreatDoor
open Go.RowKit
open KM
open VM
attribute [local go_sem ↓] Go.wp_at_zero Go.wp_at_succ

def vrE (x : Vr) : List UInt8 := shL x.1 ++ (shL x.2.1 ++ (bitL x.2.2.1 ++ WM.varL x.2.2.2.toNat))
def vrL (vs : List Vr) : List UInt8 := vs.flatMap vrE
def tsL (ts : List Ta) : List UInt8 := ts.flatMap fun x => txL x.t
def bsL (b : Bb) : List UInt8 := WM.varL b.cs.toNat ++ (WM.varL b.nx.toNat ++ ((WM.varL b.vs.length ++ vrL b.vs) ++ ((WM.varL b.ps.length ++ tsL b.ps) ++ (WM.varL b.qs.length ++ tsL b.qs))))
def VSm (x : Vr) : Prop := x.1.size ≤ 3 ∧ x.2.1.size ≤ 12 ∧ 0 ≤ x.2.2.2 ∧ x.2.2.2 ≤ 9999
theorem ver_small {v : Vr} (h : verB v = true) : VSm v := by
 unfold verB writeB at h
 simp only [Bool.and_eq_true, decide_eq_true_eq] at h
 exact ⟨key_small h.1.1.1.1, h.1.1.1.2, by omega, h.2⟩
theorem sh_small {s : ByteArray} {k : Nat} (h : s.size ≤ k) (hk : k ≤ 20000) : (shL s).length ≤ 5 + k := by
 unfold shL
 rw [List.length_append]
 have := var_len s.size (by omega)
 have e : s.data.toList.length = s.size := Array.length_toList
 omega
theorem vrE_len {x : Vr} (h : VSm x) : (vrE x).length ≤ 31 := by
 have h1 := sh_small h.1 (by omega)
 have h2 := sh_small h.2.1 (by omega)
 have h3 := bit_len x.2.2.1
 have h4 := var_len x.2.2.2.toNat (by have := h.2.2; omega)
 unfold vrE
 simp only [List.length_append]; omega
theorem vr_len : ∀ vs : List Vr, (∀ x ∈ vs, VSm x) → (vrL vs).length ≤ 31 * vs.length
 | [], _ => by simp [vrL]
 | x :: vs, h => by
  have ih := vr_len vs (fun y hy => h y (List.mem_cons_of_mem _ hy))
  have h1 := vrE_len (h x List.mem_cons_self)
  unfold vrL at ih ⊢
  rw [List.flatMap_cons, List.length_append, List.length_cons]; omega
theorem vr_take {vs : List Vr} {k : Nat} (h : k < vs.length) : vrL (vs.take (k + 1)) = vrL (vs.take k) ++ vrE vs[k] := by
 unfold vrL
 rw [List.take_succ_eq_append_getElem h, List.flatMap_append]; simp
theorem rg_small : ∀ rs : List Rg, (∀ r ∈ rs, r.1.size ≤ 3 ∧ r.2.size ≤ 3) → (rgL rs).length ≤ 16 * rs.length
 | [], _ => by simp [rgL]
 | r :: rs, h => by
  have ih := rg_small rs (fun x hx => h x (List.mem_cons_of_mem _ hx))
  have h1 := sh_small (h r List.mem_cons_self).1 (by omega)
  have h2 := sh_small (h r List.mem_cons_self).2 (by omega)
  unfold rgL at ih ⊢
  rw [List.flatMap_cons, List.length_append, List.length_append, List.length_cons]; omega
theorem wt_small : ∀ ws : List Wt, (∀ x ∈ ws, x.1.size ≤ 3 ∧ x.2.1.size ≤ 12) → (wrtL ws).length ≤ 26 * ws.length
 | [], _ => by simp [wrtL]
 | x :: ws, h => by
  have ih := wt_small ws (fun y hy => h y (List.mem_cons_of_mem _ hy))
  have h1 := sh_small (h x List.mem_cons_self).1 (by omega)
  have h2 := sh_small (h x List.mem_cons_self).2 (by omega)
  have h3 := bit_len x.2.2
  unfold wrtL at ih ⊢
  rw [List.flatMap_cons, List.length_append, List.length_append, List.length_append, List.length_cons]; omega
theorem tx_len {t : Tx} (hs : Small t) : (txL t).length ≤ 500 := by
 have h1 := rg_small t.rs hs.rs
 have h2 := wt_small t.ws hs.ws
 have h3 := hs.rl
 have h4 := hs.wl
 have h5 := bit_len t.out
 have h6 := sh_small hs.nm (by omega)
 have a1 := var_len t.id.toNat (by have := hs.i1; omega)
 have a2 := var_len t.st.toNat (by have := hs.s1; omega)
 have a3 := var_len t.snap.toNat (by have := hs.p1; omega)
 have a4 := var_len t.cs.toNat (by have := hs.c1; omega)
 have a5 := var_len t.rs.length (by omega)
 have a6 := var_len t.ws.length (by omega)
 unfold txL
 simp only [List.length_append]; omega
theorem ts_len : ∀ ts : List Ta, (∀ x ∈ ts, Small x.t) → (tsL ts).length ≤ 500 * ts.length
 | [], _ => by simp [tsL]
 | x :: ts, h => by
  have ih := ts_len ts (fun y hy => h y (List.mem_cons_of_mem _ hy))
  have h1 := tx_len (h x List.mem_cons_self)
  unfold tsL at ih ⊢
  rw [List.flatMap_cons, List.length_append, List.length_cons]; omega
theorem ts_take {ts : List Ta} {k : Nat} (h : k < ts.length) : tsL (ts.take (k + 1)) = tsL (ts.take k) ++ txL ts[k].t := by
 unfold tsL
 rw [List.take_succ_eq_append_getElem h, List.flatMap_append]; simp
structure BSm (b : Bb) : Prop where
 c0 : 0 ≤ b.cs
 c1 : b.cs ≤ 9999
 n0 : 0 ≤ b.nx
 n1 : b.nx ≤ 9999
 vl : b.vs.length ≤ 120
 vs : ∀ x ∈ b.vs, VSm x
 pl : b.ps.length ≤ 12
 ps : ∀ x ∈ b.ps, txnB x.t = true
 ql : b.qs.length ≤ 3
 qs : ∀ x ∈ b.qs, txnB x.t = true
theorem base_small {b : Bb} (h : sbB b = true) : BSm b := by
 obtain ⟨h1, h2, h3, h4, h5, h6, h7, h8, h9⟩ : SbP b := of_decide_eq_true h
 unfold versB at h1
 simp only [Bool.and_eq_true, decide_eq_true_eq] at h1
 refine ⟨h4.1, h4.2, by omega, h5.2, h1.1, ?_, h2, ?_, h3, ?_⟩
 ·intro x hx
  obtain ⟨k, hk, rfl⟩ := List.getElem_of_mem hx
  exact ver_small (h1.2 k hk).1
 ·intro x hx
  obtain ⟨k, hk, rfl⟩ := List.getElem_of_mem hx
  exact (h7 k hk).1.1
 ·intro x hx
  obtain ⟨k, hk, rfl⟩ := List.getElem_of_mem hx
  exact (h8 k hk).1.1
structure TLow (B : Nat) (x : Ta) : Prop where
 r : ∀ b' off, x.ra = some ⟨b', off, none⟩ → 0 < x.t.rs.length → b' < B
 w : ∀ b' off, x.wa = some ⟨b', off, none⟩ → 0 < x.t.ws.length → b' < B
theorem TRow.low {w w' : World} {B : Nat} {x : Ta} (h : TRow w x.t x.ra x.wa) (hb : Below B w w') (hl : TLow B x) : TRow w' x.t x.ra x.wa := ⟨grow_low h.r hb hl.r, grow_low h.w hb hl.w⟩

end Go.Proofs.YtpnnncfbodfnhaaGreatDoor

/- What ShowStore of both sides tells. -/
import Derived.Test.YtjieojfcmigcdaaGreatDoorPs01
import Derived.Test.YtjieojfcmigcdaaGreatDoorPs23
import Derived.Test.YtjieojfcmigcdaaGreatDoorPs13
import Derived.Deep.RegionHeld3
import Derived.Test.YtjieojfcmigcdaaGreatDoorPs16
import Derived.Test.YtjieojfcmigcdaaGreatDoorPs07
import Derived.Test.YtjieojfcmigcdaaGreatDoorPs06
namespace Go.Proofs.YtjieojfcmigcdaaGreatDoor
open Go.RowKit
open KM
open VM
attribute [local go_sem ↓] Go.wp_at_zero Go.wp_at_succ

set_option maxHeartbeats 2000000 in
set_option maxRecDepth 100000 in
theorem ishowS (s : St) (hf : StFit s) (hc1 : -9223372036854775808 ≤ s.e.b.cs) (hc2 : s.e.b.cs ≤ 9223372036854775807) (w : World) (hp : GRow encV w s.e.b.va s.e.b.vs) (ht : Tab w) :
  Calls Tryz.prog 8 #[.agg (stV s)] w fun e w' => e = .returned (.string ⟨(stL s).toArray⟩) ∧ Below w.heap.size w w' := by
 have HBW : Hid (Below w.heap.size w ((w.alloc (.cells (stV s) 46)).alloc (.cells #[.pointer none, .slice none 0 0] 76))) := ((belowRefl w).alloc (Nat.le_refl _) _).alloc (by simp) _
 have HC : Hid (Calls Tryz.prog 24 #[.pointer (some ⟨w.heap.size + 1, 0, none⟩), .agg (stV s)] ((w.alloc (.cells (stV s) 46)).alloc (.cells #[.pointer none, .slice none 0 0] 76)) fun e w' => e = .returned (.tuple #[]) ∧ Lib.IsBuilder 76 5 (w.heap.size + 1) (w.heap.size + 1) (bv ([] ++ stL s)) w' ∧ RK (w.heap.size + 1) (w.heap.size + 1) ((w.alloc (.cells (stV s) 46)).alloc (.cells #[.pointer none, .slice none 0 0] 76)) w') := by
  have hF := freshR (w.alloc (.cells (stV s) 46))
  rw [World.size_alloc] at hF
  have hk : ∀ w', RK (w.heap.size + 1) (w.heap.size + 1) ((w.alloc (.cells (stV s) 46)).alloc (.cells #[.pointer none, .slice none 0 0] 76)) w' → Below w.heap.size w w' := fun w' k => HBW.out.trans (k.bel.mono (by omega))
  exact istore (w.heap.size + 1) (w.heap.size + 1) [] s hf hc1 hc2 _ hF (by simp) (by simp) (fun w' k => hp.below (hk w' k)) (fun w' k => ht.below (hk w' k))
 clear hf hc1 hc2 hp ht
 go_enter Tryz.func8, Tryz.ntmps8
 go_wp2_with fail
 refine HC.out.mono ?_
 rintro e w1 ⟨rfl, hi1, hb1⟩
 have HB1 : Hid (Below w.heap.size w w1) := HBW.out.trans (hb1.bel.mono (by omega))
 have HST : Hid (Calls Tryz.prog 25 #[.pointer (some ⟨w.heap.size + 1, 0, none⟩)] w1 fun e w' => e = .returned (.string ⟨(stL s).toArray⟩) ∧ Below (w.heap.size + 1) w1 w') :=
  strR (w.heap.size + 1) (w.heap.size + 1) (stL s) w1 hi1 (Nat.le_trans (by simp) hb1.bel.size)
 clear hi1 hb1 HC
 go_wp2_with fail
 refine HST.out.mono ?_
 rintro e w2 ⟨rfl, hb2⟩
 have HB2 : Hid (Below w.heap.size w w2) := HB1.out.trans (hb2.mono (by omega))
 clear hb2 HST
 go_wp2
 go_ret
 exact ⟨rfl, HB2.out⟩

theorem ret_eqS {x y : ByteArray} (h : x = y) : Ending.returned (.string x) = .returned (.string y) := by rw [h]
theorem st_cat (s : St) : (⟨#[99, 115, 32]⟩ : ByteArray) ++ numT s.e.b.cs ++ ⟨#[32, 111, 112, 101, 110, 32]⟩ ++ numT (s.e.os.length : Int) ++ ⟨#[32, 114, 101, 97, 100, 121, 32]⟩ ++ numT (s.e.b.qs.length : Int) ++ ⟨#[10]⟩ ++ ⟨(pairsL (scanB s.e.b.vs allR s.e.b.cs)).toArray⟩ = ⟨(stL s).toArray⟩ := by
 rw [head_cat]
 apply ByteArray.ext
 unfold stL storeL
 simp

set_option maxHeartbeats 4000000 in
set_option maxRecDepth 100000 in
theorem sshowS (s : St) (hf : StFit s) (hc1 : -9223372036854775808 ≤ s.e.b.cs) (hc2 : s.e.b.cs ≤ 9223372036854775807) (w : World) (hp : GRow encV w s.e.b.va s.e.b.vs) :
  Calls Tryz.prog 6 #[.agg (stV s)] w fun e w' => e = .returned (.string ⟨(stL s).toArray⟩) ∧ Below w.heap.size w w' := by
 have HF := hide hf
 have HV : Hid (∀ w', Below w.heap.size w w' → GRow encV w' s.e.b.va s.e.b.vs) := fun w' k => hp.below k
 have HB0 : Hid (Below w.heap.size w ((w.alloc (.cells (stV s) 46)).alloc (.cells (baV s) 39))) := ((belowRefl w).alloc (Nat.le_refl _) _).alloc (by simp) _
 have HS0 : Hid (((w.alloc (.cells (stV s) 46)).alloc (.cells (baV s) 39)).heap[w.heap.size]? = some (.cells (stV s) 46 (0, 0))) := (Lib.alloc_old (w.alloc (.cells (stV s) 46)) _ w.heap.size (by simp)).trans (heap_alloc_new w _)
 have HQ0 : Hid (((w.alloc (.cells (stV s) 46)).alloc (.cells (baV s) 39)).heap[w.heap.size + 1]? = some (.cells (baV s) 39 (0, 0))) := by
  have h := heap_alloc_new (w.alloc (.cells (stV s) 46)) (.cells (baV s) 39)
  rw [World.size_alloc] at h
  exact h
 have hol : s.e.os.length ≤ 1048576 := hf.e.ol
 have hql : s.e.b.qs.length ≤ 1048576 := hf.e.b.ql
 obtain ⟨n1, e1⟩ : ∃ x, x = numT s.e.b.cs := ⟨_, rfl⟩
 obtain ⟨n2, e2⟩ : ∃ x, x = numT (s.e.os.length : Int) := ⟨_, rfl⟩
 obtain ⟨n3, e3⟩ : ∃ x, x = numT (s.e.b.qs.length : Int) := ⟨_, rfl⟩
 obtain ⟨pl, e4⟩ : ∃ x : ByteArray, x = ⟨(pairsL (scanB s.e.b.vs allR s.e.b.cs)).toArray⟩ := ⟨_, rfl⟩
 have C1 := hide (fun w => snum s.e.b.cs hc1 hc2 w)
 have C2 := hide (fun w => slen s.e.os.length hol w)
 have C3 := hide (fun w => slen s.e.b.qs.length hql w)
 have C5 : Hid (∀ (a : Option Addr) (c : Nat) w, GRow encR w a (scanB s.e.b.vs allR s.e.b.cs) → Calls Tryz.prog 19 #[.slice a (scanB s.e.b.vs allR s.e.b.cs).length c] w fun e w' => e = .returned (.string pl) ∧ Below w.heap.size w w') := fun a c w h => by
  rw [e4]
  exact sshow (scanB s.e.b.vs allR s.e.b.cs) a c _ rfl (Nat.le_trans (scan_len s.e.b.vs allR s.e.b.cs) hf.e.b.vl) (scan_rfit hf.e.b.vf allR s.e.b.cs) w h
 have z1 : n1.size ≤ 21 := by rw [e1]; exact numT_size _ hc2
 have z2 : n2.size ≤ 21 := by rw [e2]; exact numT_size _ (by omega)
 have z3 : n3.size ≤ 21 := by rw [e3]; exact numT_size _ (by omega)
 have z4 : pl.size ≤ 1200000000000 := by
  rw [e4]
  have e : (⟨(pairsL (scanB s.e.b.vs allR s.e.b.cs)).toArray⟩ : ByteArray).size = (pairsL (scanB s.e.b.vs allR s.e.b.cs)).length := List.size_toArray
  rw [e]
  exact pairs_len (scan_rfit hf.e.b.vf allR s.e.b.cs) (Nat.le_trans (scan_len s.e.b.vs allR s.e.b.cs) hf.e.b.vl)
 have HCT : Hid ((⟨#[99, 115, 32]⟩ : ByteArray) ++ n1 ++ ⟨#[32, 111, 112, 101, 110, 32]⟩ ++ n2 ++ ⟨#[32, 114, 101, 97, 100, 121, 32]⟩ ++ n3 ++ ⟨#[10]⟩ ++ pl = ⟨(stL s).toArray⟩) := by
  show _ = _
  rw [e1, e2, e3, e4]
  exact st_cat s
 rw [← e1] at C1
 rw [← e2] at C2
 rw [← e3] at C3
 clear e1 e2 e3 e4 hf hc1 hc2 hp hol hql
 go_enter Tryz.func6, Tryz.ntmps6
 go_wp2
 generalize ((w.alloc (.cells (stV s) 46)).alloc (.cells (baV s) 39)) = w0 at *
 refine wp_region_held_drew (S := fun w' => w'.cell? ⟨w.heap.size + 1, 3, none⟩ = some (.int .i64 s.e.b.cs) ∧ w'.cell? ⟨w.heap.size, 5, none⟩ = some (.slice s.e.oa s.e.os.length s.e.oc) ∧ w'.cell? ⟨w.heap.size + 1, 2, none⟩ = some (.slice s.e.b.qa s.e.b.qs.length s.e.b.qc) ∧ w'.cell? ⟨w.heap.size + 1, 0, none⟩ = some (.slice s.e.b.va s.e.b.vs.length s.e.b.vc)) (by kernel_rfl) (stHeld HS0.out HQ0.out) (fun hHeld => ?_)
 (refine ti 0 ?_; simp only [Act.put, tA, tB, tD, tE, tF])
 (refine ti 1 ?_; simp only [Act.put, tA, tB, tC, tD, tE, tF])
 (refine ti 5 ?_; simp only [Act.put, tA, tB, tC, tD, tE, tF])
 (refine ti 6 ?_; simp only [Act.put, tA, tB, tC, tD, tE, tF])
 (refine ti 7 ?_; simp only [Act.put, tA, tB, tC, tD, tE, tF])
 (refine ti 8 ?_; simp only [Act.put, tA, tB, tC, tD, tE, tF])
 (refine ti 12 ?_; simp only [Act.put, tA, tB, tC, tD, tE, tF])
 (refine ti 13 ?_; simp only [Act.put, tA, tB, tC, tD, tE, tF])
 (refine ti 14 ?_; simp only [Act.put, tA, tB, tC, tD, tE, tF])
 (refine ti 18 ?_; simp only [Act.put, tA, tB, tC, tD, tE, tF])
 (refine ti 19 ?_; simp only [Act.put, tA, tB, tC, tD, tE, tF])
 (refine ti 21 ?_; simp only [Act.put, tA, tB, tC, tD, tE, tF])
 (refine ti 22 ?_; simp only [Act.put, tA, tB, tC, tD, tE, tF])
 refine wpAnyH_ready (rs := [2]) (by kernel_rfl) (by simp) ?_
 refine AllReadyH.cons rfl (fun K hK => ?_) AllReadyH.nil
 go_simp
 go_wp2_with fail
 refine (C1.out w0.drew).mono ?_
 rintro e w1 ⟨rfl, hb⟩
 have hbu := undrew hb
 have HB1 : Hid (Below w.heap.size w w1) := HB0.out.trans (hbu.mono HB0.out.size)
 have HS1 : Hid (w1.heap[w.heap.size]? = some (.cells (stV s) 46 (0, 0))) := hb_keep hbu HS0.out
 have HQ1 : Hid (w1.heap[w.heap.size + 1]? = some (.cells (baV s) 39 (0, 0))) := hb_keep hbu HQ0.out
 clear hb hbu
 go_wp2_with fail
 refine hK.out _ _ (stHeld HS1.out HQ1.out) (fun hHeld1 => ?_)
 clear hK K
 clear hHeld HS0 HQ0
 (refine tk 3 ?_ rfl (Or.inl ⟨by rfl, ?_⟩) ?_; rotate_left; (focus (intro w hSw; (try dsimp only at hSw); go_simp; rw [if_neg (by omega)])); simp only [Act.put, tA, tB, tC, tD, tE, tF])
 (refine tk 4 ?_ rfl (Or.inl ⟨by rfl, ?_⟩) ?_; rotate_left; (focus (intro w hSw; (try dsimp only at hSw); go_simp; rw [if_neg (by omega)])); simp only [Act.put, tA, tB, tC, tD, tE, tF])
 refine wpAnyH_ready (rs := [9]) (by kernel_rfl) (by simp) ?_
 refine AllReadyH.cons rfl (fun K hK => ?_) AllReadyH.nil
 go_simp
 go_wp2_with fail
 refine (C2.out _).mono ?_
 rintro e w2 ⟨rfl, hb⟩
 have hbu := hb
 have HB2 : Hid (Below w.heap.size w w2) := HB1.out.trans (hbu.mono HB1.out.size)
 have HS2 : Hid (w2.heap[w.heap.size]? = some (.cells (stV s) 46 (0, 0))) := hb_keep hbu HS1.out
 have HQ2 : Hid (w2.heap[w.heap.size + 1]? = some (.cells (baV s) 39 (0, 0))) := hb_keep hbu HQ1.out
 clear hb hbu
 go_wp2_with fail
 refine hK.out _ _ (stHeld HS2.out HQ2.out) (fun hHeld2 => ?_)
 clear hK K
 clear hHeld1 HS1 HQ1
 (refine tk 10 ?_ rfl (Or.inl ⟨by rfl, ?_⟩) ?_; rotate_left; (focus (intro w hSw; (try dsimp only at hSw); go_simp; rw [if_neg (by omega)])); simp only [Act.put, tA, tB, tC, tD, tE, tF])
 (refine tk 11 ?_ rfl (Or.inl ⟨by rfl, ?_⟩) ?_; rotate_left; (focus (intro w hSw; (try dsimp only at hSw); go_simp; rw [if_neg (by omega)])); simp only [Act.put, tA, tB, tC, tD, tE, tF])
 refine wpAnyH_ready (rs := [15]) (by kernel_rfl) (by simp) ?_
 refine AllReadyH.cons rfl (fun K hK => ?_) AllReadyH.nil
 go_simp
 go_wp2_with fail
 refine (C3.out _).mono ?_
 rintro e w3 ⟨rfl, hb⟩
 have hbu := hb
 have HB3 : Hid (Below w.heap.size w w3) := HB2.out.trans (hbu.mono HB2.out.size)
 have HS3 : Hid (w3.heap[w.heap.size]? = some (.cells (stV s) 46 (0, 0))) := hb_keep hbu HS2.out
 have HQ3 : Hid (w3.heap[w.heap.size + 1]? = some (.cells (baV s) 39 (0, 0))) := hb_keep hbu HQ2.out
 clear hb hbu
 go_wp2_with fail
 refine hK.out _ _ (stHeld HS3.out HQ3.out) (fun hHeld3 => ?_)
 clear hK K
 clear hHeld2 HS2 HQ2
 (refine tk 16 ?_ rfl (Or.inl ⟨by rfl, ?_⟩) ?_; rotate_left; (focus (intro w hSw; (try dsimp only at hSw); go_simp; rw [if_neg (by omega)])); simp only [Act.put, tA, tB, tC, tD, tE, tF])
 (refine tk 17 ?_ rfl (Or.inl ⟨by rfl, ?_⟩) ?_; rotate_left; (focus (intro w hSw; (try dsimp only at hSw); go_simp; rw [if_neg (by omega)])); simp only [Act.put, tA, tB, tC, tD, tE, tF])
 refine wpAnyH_ready (rs := [20]) (by kernel_rfl) (by simp) ?_
 refine AllReadyH.cons rfl (fun K hK => ?_) AllReadyH.nil
 go_simp
 go_wp2_with fail
 refine (all67 _).mono ?_
 rintro e w4 ⟨rfl, hb⟩
 have hbu := hb
 have HB4 : Hid (Below w.heap.size w w4) := HB3.out.trans (hbu.mono HB3.out.size)
 have HS4 : Hid (w4.heap[w.heap.size]? = some (.cells (stV s) 46 (0, 0))) := hb_keep hbu HS3.out
 have HQ4 : Hid (w4.heap[w.heap.size + 1]? = some (.cells (baV s) 39 (0, 0))) := hb_keep hbu HQ3.out
 clear hb hbu
 go_wp2_with fail
 refine hK.out _ _ (stHeld HS4.out HQ4.out) (fun hHeld4 => ?_)
 clear hK K
 clear hHeld3 HS3 HQ3
 refine wpAnyH_ready (rs := [23]) (by kernel_rfl) (by simp) ?_
 refine AllReadyH.cons rfl (fun K hK => ?_) AllReadyH.nil
 go_simp
 go_wp2_with fail
 refine (sscan s.e.b.vs s.e.b.va s.e.b.vc allR s.e.b.cs (Nat.le_trans HF.out.e.b.vl (by omega)) _ (HV.out _ HB4.out)).mono ?_
 rintro e w5 ⟨a5, c5, rfl, hd, hb⟩
 have hbu := hb
 have HB5 : Hid (Below w.heap.size w w5) := HB4.out.trans (hbu.mono HB4.out.size)
 have HS5 : Hid (w5.heap[w.heap.size]? = some (.cells (stV s) 46 (0, 0))) := hb_keep hbu HS4.out
 have HQ5 : Hid (w5.heap[w.heap.size + 1]? = some (.cells (baV s) 39 (0, 0))) := hb_keep hbu HQ4.out
 have HG5 : Hid (GRow encR w5 a5 (scanB s.e.b.vs allR s.e.b.cs)) := hd.grow
 clear hd
 clear hb hbu
 go_wp2_with fail
 refine hK.out _ _ (stHeld HS5.out HQ5.out) (fun hHeld5 => ?_)
 clear hK K
 clear hHeld4 HS4 HQ4
 refine wpAnyH_ready (rs := [24]) (by kernel_rfl) (by simp) ?_
 refine AllReadyH.cons rfl (fun K hK => ?_) AllReadyH.nil
 go_simp
 go_wp2_with fail
 refine (C5.out a5 c5 _ HG5.out).mono ?_
 rintro e w6 ⟨rfl, hb⟩
 have hbu := hb
 have HB6 : Hid (Below w.heap.size w w6) := HB5.out.trans (hbu.mono HB5.out.size)
 have HS6 : Hid (w6.heap[w.heap.size]? = some (.cells (stV s) 46 (0, 0))) := hb_keep hbu HS5.out
 have HQ6 : Hid (w6.heap[w.heap.size + 1]? = some (.cells (baV s) 39 (0, 0))) := hb_keep hbu HQ5.out
 clear hb hbu
 go_wp2_with fail
 refine hK.out _ _ (stHeld HS6.out HQ6.out) (fun hHeld6 => ?_)
 clear hK K
 clear hHeld5 HS5 HQ5
 (refine tk 25 ?_ rfl (Or.inl ⟨by rfl, ?_⟩) ?_; rotate_left; (focus (intro w hSw; (try dsimp only at hSw); go_simp; rw [if_neg (by omega)])); simp only [Act.put, tA, tB, tC, tD, tE, tF])
 (refine ti 26 ?_; simp only [Act.put, tA, tB, tC, tD, tE, tF])
 refine wpAnyH_done (by kernel_rfl) ?_ _
 go_wp2
 go_ret
 exact ⟨ret_eqS HCT.out, HB6.out⟩
end Go.Proofs.YtjieojfcmigcdaaGreatDoor

namespace Go.Proofs.YtjieojfcmigcdaaGreatDoor
open Go.RowKit
open KM
attribute [local go_sem ↓] Go.wp_at_zero Go.wp_at_succ

end Go.Proofs.YtjieojfcmigcdaaGreatDoor

/- What ShowStore of both sides tells. -/
import Derived.Test.YtjieojfcmigcdaaGreatDoorPw01
import Derived.Test.YtjieojfcmigcdaaGreatDoorPw23
import Derived.Test.YtjieojfcmigcdaaGreatDoorPw13
import Derived.Deep.RegionHeld3
import Derived.Test.YtjieojfcmigcdaaGreatDoorPw29
namespace Go.Proofs.YtjieojfcmigcdaaGreatDoor
open Go.RowKit
open KM
open VM
attribute [local go_sem ↓] Go.wp_at_zero Go.wp_at_succ

theorem ret_eqS {x y : ByteArray} (h : x = y) : Ending.returned (.string x) = .returned (.string y) := by rw [h]
theorem st_cat (s : St) : (⟨#[99, 115, 32]⟩ : ByteArray) ++ numT s.e.b.cs ++ ⟨#[32, 111, 112, 101, 110, 32]⟩ ++ numT (s.e.os.length : Int) ++ ⟨#[32, 114, 101, 97, 100, 121, 32]⟩ ++ numT (s.e.b.qs.length : Int) ++ ⟨#[10]⟩ ++ ⟨(pairsL (scanB s.e.b.vs allR s.e.b.cs)).toArray⟩ = ⟨(stL s).toArray⟩ := by
 rw [head_cat]
 apply ByteArray.ext
 unfold stL storeL
 simp

set_option maxHeartbeats 4000000 in
set_option maxRecDepth 100000 in
theorem sshowS (s : St) (hf : StFit s) (hc1 : -9223372036854775808 ≤ s.e.b.cs) (hc2 : s.e.b.cs ≤ 9223372036854775807) (w : World) (hp : GRow encV w s.e.b.va s.e.b.vs) :
  Calls Tryz.prog 6 #[.agg (stV s)] w fun e w' => e = .returned (.string ⟨(stL s).toArray⟩) ∧ Below w.heap.size w w' := by
 have HF := hide hf
 have HV : Hid (∀ w', Below w.heap.size w w' → GRow encV w' s.e.b.va s.e.b.vs) := fun w' k => hp.below k
 have HB0 : Hid (Below w.heap.size w ((w.alloc (.cells (stV s) 46)).alloc (.cells (baV s) 39))) := ((belowRefl w).alloc (Nat.le_refl _) _).alloc (by simp) _
 have HS0 : Hid (((w.alloc (.cells (stV s) 46)).alloc (.cells (baV s) 39)).heap[w.heap.size]? = some (.cells (stV s) 46 (0, 0))) := (Lib.alloc_old (w.alloc (.cells (stV s) 46)) _ w.heap.size (by simp)).trans (heap_alloc_new w _)
 have HQ0 : Hid (((w.alloc (.cells (stV s) 46)).alloc (.cells (baV s) 39)).heap[w.heap.size + 1]? = some (.cells (baV s) 39 (0, 0))) := by
  have h := heap_alloc_new (w.alloc (.cells (stV s) 46)) (.cells (baV s) 39)
  rw [World.size_alloc] at h
  exact h
 have hol : s.e.os.length ≤ 1048576 := hf.e.ol
 have hql : s.e.b.qs.length ≤ 1048576 := hf.e.b.ql
 obtain ⟨n1, e1⟩ : ∃ x, x = numT s.e.b.cs := ⟨_, rfl⟩
 obtain ⟨n2, e2⟩ : ∃ x, x = numT (s.e.os.length : Int) := ⟨_, rfl⟩
 obtain ⟨n3, e3⟩ : ∃ x, x = numT (s.e.b.qs.length : Int) := ⟨_, rfl⟩
 obtain ⟨pl, e4⟩ : ∃ x : ByteArray, x = ⟨(pairsL (scanB s.e.b.vs allR s.e.b.cs)).toArray⟩ := ⟨_, rfl⟩
 have C1 := hide (fun w => snum s.e.b.cs hc1 hc2 w)
 have C2 := hide (fun w => slen s.e.os.length hol w)
 have C3 := hide (fun w => slen s.e.b.qs.length hql w)
 have C5 : Hid (∀ (a : Option Addr) (c : Nat) w, GRow encR w a (scanB s.e.b.vs allR s.e.b.cs) → Calls Tryz.prog 19 #[.slice a (scanB s.e.b.vs allR s.e.b.cs).length c] w fun e w' => e = .returned (.string pl) ∧ Below w.heap.size w w') := fun a c w h => by
  rw [e4]
  exact sshow (scanB s.e.b.vs allR s.e.b.cs) a c _ rfl (Nat.le_trans (scan_len s.e.b.vs allR s.e.b.cs) hf.e.b.vl) (scan_rfit hf.e.b.vf allR s.e.b.cs) w h
 have z1 : n1.size ≤ 21 := by rw [e1]; exact numT_size _ hc2
 have z2 : n2.size ≤ 21 := by rw [e2]; exact numT_size _ (by omega)
 have z3 : n3.size ≤ 21 := by rw [e3]; exact numT_size _ (by omega)
 have z4 : pl.size ≤ 1200000000000 := by
  rw [e4]
  have e : (⟨(pairsL (scanB s.e.b.vs allR s.e.b.cs)).toArray⟩ : ByteArray).size = (pairsL (scanB s.e.b.vs allR s.e.b.cs)).length := List.size_toArray
  rw [e]
  exact pairs_len (scan_rfit hf.e.b.vf allR s.e.b.cs) (Nat.le_trans (scan_len s.e.b.vs allR s.e.b.cs) hf.e.b.vl)
 have HCT : Hid ((⟨#[99, 115, 32]⟩ : ByteArray) ++ n1 ++ ⟨#[32, 111, 112, 101, 110, 32]⟩ ++ n2 ++ ⟨#[32, 114, 101, 97, 100, 121, 32]⟩ ++ n3 ++ ⟨#[10]⟩ ++ pl = ⟨(stL s).toArray⟩) := by
  show _ = _
  rw [e1, e2, e3, e4]
  exact st_cat s
 rw [← e1] at C1
 rw [← e2] at C2
 rw [← e3] at C3
 clear e1 e2 e3 e4 hf hc1 hc2 hp hol hql
 go_enter Tryz.func6, Tryz.ntmps6
 go_wp2
 generalize ((w.alloc (.cells (stV s) 46)).alloc (.cells (baV s) 39)) = w0 at *
 refine wp_region_held_drew (S := fun w' => w'.cell? ⟨w.heap.size + 1, 3, none⟩ = some (.int .i64 s.e.b.cs) ∧ w'.cell? ⟨w.heap.size, 5, none⟩ = some (.slice s.e.oa s.e.os.length s.e.oc) ∧ w'.cell? ⟨w.heap.size + 1, 2, none⟩ = some (.slice s.e.b.qa s.e.b.qs.length s.e.b.qc) ∧ w'.cell? ⟨w.heap.size + 1, 0, none⟩ = some (.slice s.e.b.va s.e.b.vs.length s.e.b.vc)) (by kernel_rfl) (stHeld HS0.out HQ0.out) (fun hHeld => ?_)
 (refine ti 0 ?_; simp only [Act.put, tA, tB, tD, tE, tF])
 (refine ti 1 ?_; simp only [Act.put, tA, tB, tC, tD, tE, tF])
 (refine ti 5 ?_; simp only [Act.put, tA, tB, tC, tD, tE, tF])
 (refine ti 6 ?_; simp only [Act.put, tA, tB, tC, tD, tE, tF])
 (refine ti 7 ?_; simp only [Act.put, tA, tB, tC, tD, tE, tF])
 (refine ti 8 ?_; simp only [Act.put, tA, tB, tC, tD, tE, tF])
 (refine ti 12 ?_; simp only [Act.put, tA, tB, tC, tD, tE, tF])
 (refine ti 13 ?_; simp only [Act.put, tA, tB, tC, tD, tE, tF])
 (refine ti 14 ?_; simp only [Act.put, tA, tB, tC, tD, tE, tF])
 (refine ti 18 ?_; simp only [Act.put, tA, tB, tC, tD, tE, tF])
 (refine ti 19 ?_; simp only [Act.put, tA, tB, tC, tD, tE, tF])
 (refine ti 21 ?_; simp only [Act.put, tA, tB, tC, tD, tE, tF])
 (refine ti 22 ?_; simp only [Act.put, tA, tB, tC, tD, tE, tF])
 refine wpAnyH_ready (rs := [2]) (by kernel_rfl) (by simp) ?_
 refine AllReadyH.cons rfl (fun K hK => ?_) AllReadyH.nil
 go_simp
 go_wp2_with fail
 refine (C1.out w0.drew).mono ?_
 rintro e w1 ⟨rfl, hb⟩
 have hbu := undrew hb
 have HB1 : Hid (Below w.heap.size w w1) := HB0.out.trans (hbu.mono HB0.out.size)
 have HS1 : Hid (w1.heap[w.heap.size]? = some (.cells (stV s) 46 (0, 0))) := hb_keep hbu HS0.out
 have HQ1 : Hid (w1.heap[w.heap.size + 1]? = some (.cells (baV s) 39 (0, 0))) := hb_keep hbu HQ0.out
 clear hb hbu
 go_wp2_with fail
 refine hK.out _ _ (stHeld HS1.out HQ1.out) (fun hHeld1 => ?_)
 clear hK K
 clear hHeld HS0 HQ0
 (refine tk 3 ?_ rfl (Or.inl ⟨by rfl, ?_⟩) ?_; rotate_left; (focus (intro w hSw; (try dsimp only at hSw); go_simp; rw [if_neg (by omega)])); simp only [Act.put, tA, tB, tC, tD, tE, tF])
 (refine tk 4 ?_ rfl (Or.inl ⟨by rfl, ?_⟩) ?_; rotate_left; (focus (intro w hSw; (try dsimp only at hSw); go_simp; rw [if_neg (by omega)])); simp only [Act.put, tA, tB, tC, tD, tE, tF])
 refine wpAnyH_ready (rs := [9]) (by kernel_rfl) (by simp) ?_
 refine AllReadyH.cons rfl (fun K hK => ?_) AllReadyH.nil
 go_simp
 go_wp2_with fail
 refine (C2.out _).mono ?_
 rintro e w2 ⟨rfl, hb⟩
 have hbu := hb
 have HB2 : Hid (Below w.heap.size w w2) := HB1.out.trans (hbu.mono HB1.out.size)
 have HS2 : Hid (w2.heap[w.heap.size]? = some (.cells (stV s) 46 (0, 0))) := hb_keep hbu HS1.out
 have HQ2 : Hid (w2.heap[w.heap.size + 1]? = some (.cells (baV s) 39 (0, 0))) := hb_keep hbu HQ1.out
 clear hb hbu
 go_wp2_with fail
 refine hK.out _ _ (stHeld HS2.out HQ2.out) (fun hHeld2 => ?_)
 clear hK K
 clear hHeld1 HS1 HQ1
 (refine tk 10 ?_ rfl (Or.inl ⟨by rfl, ?_⟩) ?_; rotate_left; (focus (intro w hSw; (try dsimp only at hSw); go_simp; rw [if_neg (by omega)])); simp only [Act.put, tA, tB, tC, tD, tE, tF])
 (refine tk 11 ?_ rfl (Or.inl ⟨by rfl, ?_⟩) ?_; rotate_left; (focus (intro w hSw; (try dsimp only at hSw); go_simp; rw [if_neg (by omega)])); simp only [Act.put, tA, tB, tC, tD, tE, tF])
 refine wpAnyH_ready (rs := [15]) (by kernel_rfl) (by simp) ?_
 refine AllReadyH.cons rfl (fun K hK => ?_) AllReadyH.nil
 go_simp
 go_wp2_with fail
 refine (C3.out _).mono ?_
 rintro e w3 ⟨rfl, hb⟩
 have hbu := hb
 have HB3 : Hid (Below w.heap.size w w3) := HB2.out.trans (hbu.mono HB2.out.size)
 have HS3 : Hid (w3.heap[w.heap.size]? = some (.cells (stV s) 46 (0, 0))) := hb_keep hbu HS2.out
 have HQ3 : Hid (w3.heap[w.heap.size + 1]? = some (.cells (baV s) 39 (0, 0))) := hb_keep hbu HQ2.out
 clear hb hbu
 go_wp2_with fail
 refine hK.out _ _ (stHeld HS3.out HQ3.out) (fun hHeld3 => ?_)
 clear hK K
 clear hHeld2 HS2 HQ2
 (refine tk 16 ?_ rfl (Or.inl ⟨by rfl, ?_⟩) ?_; rotate_left; (focus (intro w hSw; (try dsimp only at hSw); go_simp; rw [if_neg (by omega)])); simp only [Act.put, tA, tB, tC, tD, tE, tF])
 (refine tk 17 ?_ rfl (Or.inl ⟨by rfl, ?_⟩) ?_; rotate_left; (focus (intro w hSw; (try dsimp only at hSw); go_simp; rw [if_neg (by omega)])); simp only [Act.put, tA, tB, tC, tD, tE, tF])
 refine wpAnyH_ready (rs := [20]) (by kernel_rfl) (by simp) ?_
 refine AllReadyH.cons rfl (fun K hK => ?_) AllReadyH.nil
 go_simp
 go_wp2_with fail
 refine (all67 _).mono ?_
 rintro e w4 ⟨rfl, hb⟩
 have hbu := hb
 have HB4 : Hid (Below w.heap.size w w4) := HB3.out.trans (hbu.mono HB3.out.size)
 have HS4 : Hid (w4.heap[w.heap.size]? = some (.cells (stV s) 46 (0, 0))) := hb_keep hbu HS3.out
 have HQ4 : Hid (w4.heap[w.heap.size + 1]? = some (.cells (baV s) 39 (0, 0))) := hb_keep hbu HQ3.out
 clear hb hbu
 go_wp2_with fail
 refine hK.out _ _ (stHeld HS4.out HQ4.out) (fun hHeld4 => ?_)
 clear hK K
 clear hHeld3 HS3 HQ3
 refine wpAnyH_ready (rs := [23]) (by kernel_rfl) (by simp) ?_
 refine AllReadyH.cons rfl (fun K hK => ?_) AllReadyH.nil
 go_simp
 go_wp2_with fail
 refine (sscan s.e.b.vs s.e.b.va s.e.b.vc allR s.e.b.cs (Nat.le_trans HF.out.e.b.vl (by omega)) _ (HV.out _ HB4.out)).mono ?_
 rintro e w5 ⟨a5, c5, rfl, hd, hb⟩
 have hbu := hb
 have HB5 : Hid (Below w.heap.size w w5) := HB4.out.trans (hbu.mono HB4.out.size)
 have HS5 : Hid (w5.heap[w.heap.size]? = some (.cells (stV s) 46 (0, 0))) := hb_keep hbu HS4.out
 have HQ5 : Hid (w5.heap[w.heap.size + 1]? = some (.cells (baV s) 39 (0, 0))) := hb_keep hbu HQ4.out
 have HG5 : Hid (GRow encR w5 a5 (scanB s.e.b.vs allR s.e.b.cs)) := hd.grow
 clear hd
 clear hb hbu
 go_wp2_with fail
 refine hK.out _ _ (stHeld HS5.out HQ5.out) (fun hHeld5 => ?_)
 clear hK K
 clear hHeld4 HS4 HQ4
 refine wpAnyH_ready (rs := [24]) (by kernel_rfl) (by simp) ?_
 refine AllReadyH.cons rfl (fun K hK => ?_) AllReadyH.nil
 go_simp
 go_wp2_with fail
 refine (C5.out a5 c5 _ HG5.out).mono ?_
 rintro e w6 ⟨rfl, hb⟩
 have hbu := hb
 have HB6 : Hid (Below w.heap.size w w6) := HB5.out.trans (hbu.mono HB5.out.size)
 have HS6 : Hid (w6.heap[w.heap.size]? = some (.cells (stV s) 46 (0, 0))) := hb_keep hbu HS5.out
 have HQ6 : Hid (w6.heap[w.heap.size + 1]? = some (.cells (baV s) 39 (0, 0))) := hb_keep hbu HQ5.out
 clear hb hbu
 go_wp2_with fail
 refine hK.out _ _ (stHeld HS6.out HQ6.out) (fun hHeld6 => ?_)
 clear hK K
 clear hHeld5 HS5 HQ5
 (refine tk 25 ?_ rfl (Or.inl ⟨by rfl, ?_⟩) ?_; rotate_left; (focus (intro w hSw; (try dsimp only at hSw); go_simp; rw [if_neg (by omega)])); simp only [Act.put, tA, tB, tC, tD, tE, tF])
 (refine ti 26 ?_; simp only [Act.put, tA, tB, tC, tD, tE, tF])
 refine wpAnyH_done (by kernel_rfl) ?_ _
 go_wp2
 go_ret
 exact ⟨ret_eqS HCT.out, HB6.out⟩
end Go.Proofs.YtjieojfcmigcdaaGreatDoor

namespace Go.Proofs.YtjieojfcmigcdaaGreatDoor
open Go.RowKit
open KM
open VM
attribute [local go_sem ↓] Go.wp_at_zero Go.wp_at_succ

def WdOk (x : Wd) : Prop := (-9223372036854775808 ≤ x.s.e.b.cs ∧ x.s.e.b.cs ≤ 9223372036854775807) ∧ ∀ n ∈ x.cs, -9223372036854775808 ≤ n ∧ n ≤ 9223372036854775807
theorem wd_ok {x c : Wd} (h : WdSame x c) (k : WdOk x) : WdOk c := by
 unfold WdOk
 rw [h.ws.e.b.cs, h.wc]
 exact k
def wdL (x : Wd) : List UInt8 := hapL x.cs x.ds x.cs.length ++ stL x.s
theorem wd_same {x c : Wd} (h : WdSame x c) : wdL c = wdL x := by
 unfold wdL stL
 rw [h.wc, h.wd, h.ws.e.b.v, h.ws.e.b.cs, h.ws.e.ol, h.ws.e.b.ql]
theorem wdC0 {w' : World} {q : Nat} {x : Wd} (h : w'.heap[q]? = some (.cells (wdV x) 56 (0, 0))) : w'.cell? ⟨q, 0, none⟩ = some (.slice x.s.e.b.va x.s.e.b.vs.length x.s.e.b.vc) := by rw [Lib.cell_of_heap h]; rfl
theorem wdC1 {w' : World} {q : Nat} {x : Wd} (h : w'.heap[q]? = some (.cells (wdV x) 56 (0, 0))) : w'.cell? ⟨q, 1, none⟩ = some (.slice x.s.e.b.pa x.s.e.b.ps.length x.s.e.b.pc) := by rw [Lib.cell_of_heap h]; rfl
theorem wdC2 {w' : World} {q : Nat} {x : Wd} (h : w'.heap[q]? = some (.cells (wdV x) 56 (0, 0))) : w'.cell? ⟨q, 2, none⟩ = some (.slice x.s.e.b.qa x.s.e.b.qs.length x.s.e.b.qc) := by rw [Lib.cell_of_heap h]; rfl
theorem wdC3 {w' : World} {q : Nat} {x : Wd} (h : w'.heap[q]? = some (.cells (wdV x) 56 (0, 0))) : w'.cell? ⟨q, 3, none⟩ = some (.int .i64 x.s.e.b.cs) := by rw [Lib.cell_of_heap h]; rfl
theorem wdC4 {w' : World} {q : Nat} {x : Wd} (h : w'.heap[q]? = some (.cells (wdV x) 56 (0, 0))) : w'.cell? ⟨q, 4, none⟩ = some (.int .i64 x.s.e.b.nx) := by rw [Lib.cell_of_heap h]; rfl
theorem wdC5 {w' : World} {q : Nat} {x : Wd} (h : w'.heap[q]? = some (.cells (wdV x) 56 (0, 0))) : w'.cell? ⟨q, 5, none⟩ = some (.slice x.s.e.oa x.s.e.os.length x.s.e.oc) := by rw [Lib.cell_of_heap h]; rfl
theorem wdC6 {w' : World} {q : Nat} {x : Wd} (h : w'.heap[q]? = some (.cells (wdV x) 56 (0, 0))) : w'.cell? ⟨q, 6, none⟩ = some (.slice x.s.d.sa x.s.d.ss.length x.s.d.sc) := by rw [Lib.cell_of_heap h]; rfl
theorem wdC7 {w' : World} {q : Nat} {x : Wd} (h : w'.heap[q]? = some (.cells (wdV x) 56 (0, 0))) : w'.cell? ⟨q, 7, none⟩ = some (.slice x.s.d.pa x.s.d.ps.length x.s.d.pc) := by rw [Lib.cell_of_heap h]; rfl
theorem cat_hap {cs : List Int} (ds : List ByteArray) {k : Nat} (h : k < cs.length) : (⟨(hapL cs ds k).toArray⟩ : ByteArray) ++ numT cs[k] ++ ⟨#[32]⟩ ++ saidT ds k ++ ⟨#[10]⟩ = ⟨(hapL cs ds (k + 1)).toArray⟩ := by
 have e : (⟨(hapL cs ds (k + 1)).toArray⟩ : ByteArray) = (⟨(hapL cs ds k).toArray⟩ : ByteArray) ++ (⟨(lineL [numT cs[k], saidT ds k]).toArray⟩ : ByteArray) := by
  rw [hap_snoc ds h]
  apply ByteArray.ext
  simp
 rw [e, two_line]
 apply ByteArray.ext
 simp
theorem cat_wd (x : Wd) : (⟨(hapL x.cs x.ds x.cs.length).toArray⟩ : ByteArray) ++ ⟨(stL x.s).toArray⟩ = ⟨(wdL x).toArray⟩ := by
 apply ByteArray.ext
 unfold wdL
 simp

set_option maxHeartbeats 2000000 in
set_option maxRecDepth 100000 in
theorem ishowW (x : Wd) (hf : WdFit x) (hk : WdOk x) (w : World) (hp : WdRows w x) (ht : Tab w) :
  Calls Tryz.prog 13 #[.agg (wdV x)] w fun e w' => e = .returned (.string ⟨(wdL x).toArray⟩) ∧ Below w.heap.size w w' := by
 have HBW : Hid (Below w.heap.size w ((w.alloc (.cells (wdV x) 56)).alloc (.cells #[.pointer none, .slice none 0 0] 76))) := ((belowRefl w).alloc (Nat.le_refl _) _).alloc (by simp) _
 have HK : Hid (∀ w', RK (w.heap.size + 1) (w.heap.size + 1) ((w.alloc (.cells (wdV x) 56)).alloc (.cells #[.pointer none, .slice none 0 0] 76)) w' → Below w.heap.size w w') := fun w' k => HBW.out.trans (k.bel.mono (by omega))
 have HF := hide hf
 have HO := hide hk
 have HP := hide hp
 have HT := hide ht
 have HX0 : Hid (((w.alloc (.cells (wdV x) 56)).alloc (.cells #[.pointer none, .slice none 0 0] 76)).heap[w.heap.size]? = some (.cells (wdV x) 56 (0, 0))) := hb_keep ((belowRefl (w.alloc (.cells (wdV x) 56))).alloc (Nat.le_refl _) _) (heap_alloc_new w _)
 have hdl : x.ds.length ≤ 1048576 := by have := hf.dl; omega
 have HC : Hid (Calls Tryz.prog 34 #[.pointer (some ⟨w.heap.size + 1, 0, none⟩), .agg (wdV x)] ((w.alloc (.cells (wdV x) 56)).alloc (.cells #[.pointer none, .slice none 0 0] 76)) fun e w' => e = .returned (.tuple #[]) ∧ Lib.IsBuilder 76 5 (w.heap.size + 1) (w.heap.size + 1) (bv ([] ++ hapL x.cs x.ds x.cs.length)) w' ∧ RK (w.heap.size + 1) (w.heap.size + 1) ((w.alloc (.cells (wdV x) 56)).alloc (.cells #[.pointer none, .slice none 0 0] 76)) w') := by
  have hF := freshR (w.alloc (.cells (wdV x) 56))
  rw [World.size_alloc] at hF
  exact ihap (w.heap.size + 1) (w.heap.size + 1) [] x hf.c hdl hf.dt hk.2 _ hF (by simp) (by simp) (fun w' k => hp.c.below (HK.out w' k)) (fun w' k => hp.d.below (HK.out w' k)) (fun w' k => ht.below (HK.out w' k))
 have HHL : Hid ((hapL x.cs x.ds x.cs.length).length ≤ 1200000000000) := by
  show _ ≤ _
  have h1 := hap_len hk.2 hf.dt x.cs.length
  have h2 := hf.c
  omega
 clear hf hk hp ht hdl
 go_enter Tryz.func13, Tryz.ntmps13
 go_wp2_with fail
 refine HC.out.mono ?_
 rintro e w1 ⟨rfl, hi1, hb1⟩
 have HR1 := hide hb1
 have HX1 : Hid (w1.heap[w.heap.size]? = some (.cells (wdV x) 56 (0, 0))) := hb1.heap HX0.out (by omega) (by decide)
 have HZ1 : Hid (w.heap.size + 1 ≤ w1.heap.size) := Nat.le_trans (by simp) hb1.bel.size
 have HCS : Hid (Calls Tryz.prog 24 #[.pointer (some ⟨w.heap.size + 1, 0, none⟩), .agg (stV x.s)] w1 fun e w' => e = .returned (.tuple #[]) ∧ Lib.IsBuilder 76 5 (w.heap.size + 1) (w.heap.size + 1) (bv (([] ++ hapL x.cs x.ds x.cs.length) ++ stL x.s)) w' ∧ RK (w.heap.size + 1) (w.heap.size + 1) w1 w') :=
  istore (w.heap.size + 1) (w.heap.size + 1) ([] ++ hapL x.cs x.ds x.cs.length) x.s HF.out.s HO.out.1.1 HO.out.1.2 w1 hi1 HZ1.out (by rw [List.nil_append]; have := HHL.out; omega) (fun w' k => HP.out.s.e.b.v.below (HK.out w' (HR1.out.trans k))) (fun w' k => HT.out.below (HK.out w' (HR1.out.trans k)))
 clear hi1 hb1 HC HX0
 have p0 := wdC0 HX1.out
 have p1 := wdC1 HX1.out
 have p2 := wdC2 HX1.out
 have p3 := wdC3 HX1.out
 have p4 := wdC4 HX1.out
 have p5 := wdC5 HX1.out
 have p6 := wdC6 HX1.out
 have p7 := wdC7 HX1.out
 go_wp2_with fail
 refine HCS.out.mono ?_
 rintro e w2 ⟨rfl, hi2, hb2⟩
 have HB2 : Hid (Below w.heap.size w w2) := HK.out _ (HR1.out.trans hb2)
 have HST : Hid (Calls Tryz.prog 25 #[.pointer (some ⟨w.heap.size + 1, 0, none⟩)] w2 fun e w' => e = .returned (.string ⟨(([] ++ hapL x.cs x.ds x.cs.length) ++ stL x.s).toArray⟩) ∧ Below (w.heap.size + 1) w2 w') :=
  strR (w.heap.size + 1) (w.heap.size + 1) _ w2 hi2 (Nat.le_trans HZ1.out hb2.bel.size)
 have HEQ : Hid ((([] ++ hapL x.cs x.ds x.cs.length) ++ stL x.s) = wdL x) := by show _ = _; rw [List.nil_append]; rfl
 rw [HEQ.out] at HST
 clear hi2 hb2 HCS p0 p1 p2 p3 p4 p5 p6 p7
 go_wp2_with fail
 refine HST.out.mono ?_
 rintro e w3 ⟨rfl, hb3⟩
 have HB3 : Hid (Below w.heap.size w w3) := HB2.out.trans (hb3.mono (by omega))
 clear hb3 HST
 go_wp2
 go_ret
 exact ⟨rfl, HB3.out⟩

set_option maxHeartbeats 4000000 in
set_option maxRecDepth 100000 in
theorem sshowW (x : Wd) (hf : WdFit x) (hk : WdOk x) (w : World) (hp : WdRows w x) :
  Calls Tryz.prog 11 #[.agg (wdV x)] w fun e w' => e = .returned (.string ⟨(wdL x).toArray⟩) ∧ Below w.heap.size w w' := by
 have HF := hide hf
 have HO := hide hk
 have HP := hide hp
 have hcl := hf.c
 have hdl : x.ds.length ≤ 1048576 := by have := hf.dl; omega
 have HHL : Hid (∀ k, (hapL x.cs x.ds k).length ≤ k * 1048600) := fun k => hap_len hk.2 hf.dt k
 have HB0 : Hid (Below w.heap.size w (w.alloc (.cells (wdV x) 56))) := (belowRefl w).alloc (Nat.le_refl _) _
 have HX0 : Hid ((w.alloc (.cells (wdV x) 56)).heap[w.heap.size]? = some (.cells (wdV x) 56 (0, 0))) := heap_alloc_new w _
 clear hf hk hp
 go_enter Tryz.func11, Tryz.ntmps11
 go_wp2
 generalize (w.alloc (.cells (wdV x) 56)) = w0 at *
 go_loopw [3, 4] (fun v t wr => ∃ k : Nat, k ≤ x.cs.length ∧ t = .int .i64 k ∧ v = .string ⟨(hapL x.cs x.ds k).toArray⟩ ∧ Hid (Below w.heap.size w wr) ∧ Hid (wr.heap[w.heap.size]? = some (.cells (wdV x) 56 (0, 0)))) (fun _ t _ => x.cs.length - (intOf t).toNat)
 case atStart => exact ⟨0, Nat.zero_le _, rfl, rfl, HB0, HX0⟩
 case round =>
  clear HB0 HX0
  obtain ⟨k, hk, rfl, rfl, HB, HX⟩ := hrel
  have hps : (⟨(hapL x.cs x.ds k).toArray⟩ : ByteArray).size ≤ 1200000000000 := by
   have h1 := HHL.out k
   have e : (⟨(hapL x.cs x.ds k).toArray⟩ : ByteArray).size = (hapL x.cs x.ds k).length := List.size_toArray
   rw [e]; omega
  by_cases hlt : k < x.cs.length
  ·have hlt' : (k : Int) < (x.cs.length : Int) := by omega
   have hk0 : (0 : Int) ≤ (k : Int) := by omega
   obtain ⟨g, off, hga, hbl, hcc⟩ := (HP.out.c.below HB.out) (by omega)
   have r0 := iat1 hcc k hlt
   clear hcc hbl
   have z9 : wr.cell? ⟨w.heap.size, 9, none⟩ = some (.slice x.ca x.cs.length x.cc) := by rw [Lib.cell_of_heap HX.out]; rfl
   have z10 : wr.cell? ⟨w.heap.size, 10, none⟩ = some (.slice x.da x.ds.length x.dc) := by rw [Lib.cell_of_heap HX.out]; rfl
   rw [hga] at z9
   have HCA : Hid ((⟨(hapL x.cs x.ds k).toArray⟩ : ByteArray) ++ numT x.cs[k] ++ ⟨#[32]⟩ ++ saidT x.ds k ++ ⟨#[10]⟩ = ⟨(hapL x.cs x.ds (k + 1)).toArray⟩) := cat_hap x.ds hlt
   have HN : Hid (-9223372036854775808 ≤ x.cs[k] ∧ x.cs[k] ≤ 9223372036854775807) := HO.out.2 _ (List.getElem_mem hlt)
   obtain ⟨n, hn⟩ : ∃ n, n = x.cs[k] := ⟨_, rfl⟩
   obtain ⟨ps, hpq⟩ : ∃ q : ByteArray, q = ⟨(hapL x.cs x.ds k).toArray⟩ := ⟨_, rfl⟩
   rw [← hn] at r0 HN HCA
   rw [← hpq] at HCA hps
   rw [← hpq]
   clear hn hpq hga
   by_cases hdk : k < x.ds.length
   ·have hdk' : (k : Int) < (x.ds.length : Int) := by omega
    obtain ⟨g2, off2, hga2, hbl2, hcd⟩ := (HP.out.d.below HB.out) (by omega)
    have r1 := hcd k hdk
    clear hcd hbl2
    rw [hga2] at z10
    clear hga2
    by_cases he : x.ds[k] = ⟨#[]⟩
    ·rw [he] at r1
     have HSD : Hid (saidT x.ds k = ⟨#[46]⟩) := said_empty hdk he
     clear he
     go_wp2_with fail
     refine (snum n HN.out.1 HN.out.2 _).mono ?_
     rintro e w2 ⟨rfl, hb2⟩
     have HB2 : Hid (Below w.heap.size w w2) := HB.out.trans (hb2.mono HB.out.size)
     have HX2 : Hid (w2.heap[w.heap.size]? = some (.cells (wdV x) 56 (0, 0))) := hb_keep hb2 HX.out
     clear hb2 z9 z10 r0
     have hns : (numT n).size ≤ 21 := numT_size n HN.out.2
     have HCT : Hid (ps ++ numT n ++ ⟨#[32]⟩ ++ ⟨#[46]⟩ ++ ⟨#[10]⟩ = ⟨(hapL x.cs x.ds (k + 1)).toArray⟩) := by
      show _ = _
      rw [← HCA.out, HSD.out]
     generalize numT n = nt at *
     go_wp2
     go_roundw
     case rel => exact ⟨k + 1, by omega, by go_num, by rw [← HCT.out], HB2, HX2⟩
     case measure => simp [intOf]; omega
    ·have HSD : Hid (saidT x.ds k = x.ds[k]) := said_some hdk he
     have hts : x.ds[k].size ≤ 1048576 := HF.out.dt _ (List.getElem_mem hdk)
     have he2 : x.ds[k].toList.isEmpty = false := ne_isEmpty he
     obtain ⟨t, htt⟩ : ∃ t, t = x.ds[k] := ⟨_, rfl⟩
     rw [← htt] at r1 HSD he he2 hts
     clear htt
     go_wp2_with fail
     refine (snum n HN.out.1 HN.out.2 _).mono ?_
     rintro e w2 ⟨rfl, hb2⟩
     have HB2 : Hid (Below w.heap.size w w2) := HB.out.trans (hb2.mono HB.out.size)
     have HX2 : Hid (w2.heap[w.heap.size]? = some (.cells (wdV x) 56 (0, 0))) := hb_keep hb2 HX.out
     clear hb2 z9 z10 r0
     have hns : (numT n).size ≤ 21 := numT_size n HN.out.2
     have HCT : Hid (ps ++ numT n ++ ⟨#[32]⟩ ++ t ++ ⟨#[10]⟩ = ⟨(hapL x.cs x.ds (k + 1)).toArray⟩) := by
      show _ = _
      rw [← HCA.out, HSD.out]
     generalize numT n = nt at *
     go_wp2
     go_roundw
     case rel => exact ⟨k + 1, by omega, by go_num, by rw [← HCT.out], HB2, HX2⟩
     case measure => simp [intOf]; omega
   ·have hdk' : ¬ (k : Int) < (x.ds.length : Int) := by omega
    have HSD : Hid (saidT x.ds k = ⟨#[46]⟩) := said_none hdk
    go_wp2_with fail
    refine (snum n HN.out.1 HN.out.2 _).mono ?_
    rintro e w2 ⟨rfl, hb2⟩
    have HB2 : Hid (Below w.heap.size w w2) := HB.out.trans (hb2.mono HB.out.size)
    have HX2 : Hid (w2.heap[w.heap.size]? = some (.cells (wdV x) 56 (0, 0))) := hb_keep hb2 HX.out
    clear hb2 z9 z10 r0
    have hns : (numT n).size ≤ 21 := numT_size n HN.out.2
    have HCT : Hid (ps ++ numT n ++ ⟨#[32]⟩ ++ ⟨#[46]⟩ ++ ⟨#[10]⟩ = ⟨(hapL x.cs x.ds (k + 1)).toArray⟩) := by
     show _ = _
     rw [← HCA.out, HSD.out]
    generalize numT n = nt at *
    go_wp2
    go_roundw
    case rel => exact ⟨k + 1, by omega, by go_num, by rw [← HCT.out], HB2, HX2⟩
    case measure => simp [intOf]; omega
  ·have hlt' : ¬ (k : Int) < (x.cs.length : Int) := by omega
   obtain rfl : k = x.cs.length := by omega
   have z9 : wr.cell? ⟨w.heap.size, 9, none⟩ = some (.slice x.ca x.cs.length x.cc) := by rw [Lib.cell_of_heap HX.out]; rfl
   have p0 := wdC0 HX.out
   have p1 := wdC1 HX.out
   have p2 := wdC2 HX.out
   have p3 := wdC3 HX.out
   have p4 := wdC4 HX.out
   have p5 := wdC5 HX.out
   have p6 := wdC6 HX.out
   have p7 := wdC7 HX.out
   have HSL : Hid ((stL x.s).length ≤ 1300000000000) := store_len HF.out.s.e.b.vf HF.out.s.e.b.vl x.s.e.b.cs HO.out.1.2 _ _ HF.out.s.e.ol HF.out.s.e.b.ql
   have hss : (⟨(stL x.s).toArray⟩ : ByteArray).size ≤ 1300000000000 := by
    have e : (⟨(stL x.s).toArray⟩ : ByteArray).size = (stL x.s).length := List.size_toArray
    rw [e]; exact HSL.out
   have HCW := hide (cat_wd x)
   go_wp2_with fail
   refine (sshowS x.s HF.out.s HO.out.1.1 HO.out.1.2 _ (HP.out.s.e.b.v.below HB.out)).mono ?_
   rintro e w2 ⟨rfl, hb2⟩
   have HB2 : Hid (Below w.heap.size w w2) := HB.out.trans (hb2.mono HB.out.size)
   clear hb2 z9 p0 p1 p2 p3 p4 p5 p6 p7
   obtain ⟨a1, ha1⟩ : ∃ q : ByteArray, q = ⟨(stL x.s).toArray⟩ := ⟨_, rfl⟩
   obtain ⟨a2, ha2⟩ : ∃ q : ByteArray, q = ⟨(hapL x.cs x.ds x.cs.length).toArray⟩ := ⟨_, rfl⟩
   rw [← ha1, ← ha2] at HCW
   rw [← ha1] at hss
   rw [← ha2] at hps
   rw [← ha1, ← ha2]
   clear ha1 ha2
   go_wp2
   go_ret
   exact ⟨ret_eqS HCW.out, HB2.out⟩
end Go.Proofs.YtjieojfcmigcdaaGreatDoor

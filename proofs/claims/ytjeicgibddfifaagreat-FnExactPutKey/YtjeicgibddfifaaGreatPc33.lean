/- Whether marks are held: lists of those that look and change. -/
import Derived.Test.YtjeicgibddfifaaGreatPc01
import Derived.Test.YtjeicgibddfifaaGreatPc13
import Derived.Deep.RegionHeld3
import Derived.Deep.Cut
import Derived.Deep.CutRange
import Derived.Test.YtjeicgibddfifaaGreatPc11
import Derived.Test.YtjeicgibddfifaaGreatPc10
import Derived.Test.YtjeicgibddfifaaGreatPc07
import Derived.Test.YtjeicgibddfifaaGreatPc03
import Derived.Test.YtjeicgibddfifaaGreatPc08
import Derived.Test.YtjeicgibddfifaaGreatProg
import Derived.WalkKit
import Derived.WalkSpells
import Derived.WalkLawsBesides
import Derived.Deep.QuietTactic
import Derived.BigQuiet
import Derived.Deep.DrawnRows
import Derived.Deep.AppendLies
import Derived.Test.YtjeicgibddfifaaGreatPc02
import Derived.Test.YtjeicgibddfifaaGreatPc12
import Derived.Test.YtjeicgibddfifaaGreatPc05
import Derived.Test.YtjeicgibddfifaaGreatPc06
import Derived.Sort.OwnSorted
import Derived.Lib.RowBridge
import Derived.Test.YtjeicgibddfifaaGreatPc09
import Derived.Test.YtjeicgibddfifaaGreatPc18
import Derived.Test.YtjeicgibddfifaaGreatPc15
namespace Go.Proofs.YtjeicgibddfifaaGreat
open Go.RowKit
open KM
attribute [local go_sem ↓] Go.wp_at_zero Go.wp_at_succ

theorem mkL_at (ys : List Ta) (k k0 : Nat) (h : k < ys.length) : (mkL ys k0)[k]'(by rw [mkL_len]; exact h) = mkTa ys[k] (k0 + wtL (ys.take k)) := by
 have e : ys = ys.take k ++ ys[k] :: ys.drop (k + 1) := by rw [← List.drop_eq_getElem_cons h, List.take_append_drop]
 have h1 : (mkL ys k0)[k]? = some (mkTa ys[k] (k0 + wtL (ys.take k))) := by
  conv => lhs; rw [e]
  rw [mkL_app, List.getElem?_append_right (by rw [mkL_len, List.length_take]; omega), mkL_len, List.length_take]
  have : k - min k ys.length = 0 := by omega
  rw [this]
  simp [mkL]
 have h2 := List.getElem?_eq_getElem (show k < (mkL ys k0).length by rw [mkL_len]; exact h)
 rw [h2] at h1
 exact Option.some.inj h1

set_option maxRecDepth 100000 in
set_option maxHeartbeats 6000000 in
theorem heldL (ys : List Ta) (a : Option Addr) (c n k0 : Nat) (hn : n = ys.length) (hnn : n ≤ 1048576) (hf : ∀ y ∈ ys, TFit y.t) (hk0 : 0 < k0) (hk1 : k0 ≤ 10000000000000000) (w : World) (h : TRows w a (mkL ys k0)) :
  Calls Tryz.prog 36 #[.slice a n c, .int .i64 k0] w fun e w' => e = .returned (.int .i64 ((k0 + wtL ys : Nat) : Int)) ∧ Below w.heap.size w w' := by
 have HN : Hid (n = ys.length) := hn
 have HF : Hid (∀ y ∈ ys, TFit y.t) := hf
 have HWB : Hid (wtL ys ≤ 5600000000000) := by show _ ≤ _; have h1 := wtL_fit ys hf; have h2 : ys.length * 5242886 ≤ 1048576 * 5242886 := Nat.mul_le_mul_right _ (by omega); omega
 have HP : Hid (TRows w a (mkL ys k0)) := h
 clear h hn hf
 go_enter Tryz.func36, Tryz.ntmps36
 go_wp2
 go_loopw [1, 5] (fun tk t wr => ∃ (k z : Nat), k ≤ n ∧ t = .int .i64 k ∧ tk = .int .i64 z ∧ Hid (z = k0 + wtL (ys.take k)) ∧ Hid (Below w.heap.size w wr)) (fun _ t _ => n - (intOf t).toNat)
 case atStart => exact ⟨0, k0, Nat.zero_le _, rfl, rfl, rfl, belowRefl w⟩
 case round =>
  obtain ⟨k, q0, hk, rfl, rfl, HQ, HB⟩ := hrel
  by_cases hlt : k < n
  ·have hlt' : (k : Int) < (n : Int) := by omega
   have h0 : (0 : Int) ≤ (k : Int) := by omega
   have hky : k < ys.length := by rw [← HN.out]; exact hlt
   have hq0 : 0 < q0 := by have := HQ.out; omega
   have hq1 : q0 ≤ 20000000000000000 := by have := HQ.out; have := wtL_take ys k; have := HWB.out; omega
   have HNX : Hid (q0 + wt ys[k] = k0 + wtL (ys.take (k + 1))) := by show _ = _; rw [HQ.out, wtL_next ys k hky]; omega
   have hfx := HF.out _ (List.getElem_mem hky)
   obtain ⟨b, o, rfl, hbl, hc, hrow⟩ := (HP.out.below HB.out).cls k (by rw [mkL_len]; exact hky)
   rw [mkL_at ys k k0 hky, ← HQ.out] at hc hrow
   obtain ⟨x, hx⟩ : ∃ x, x = ys[k] := ⟨_, rfl⟩
   rw [← hx] at HNX hfx hc hrow
   clear hx
   have hr8 : x.t.rs.length ≤ 1048576 := hfx.1
   have hw8 : x.t.ws.length ≤ 1048576 := hfx.2.2.1
   have RR : Hid (GRow encR wr x.ra (mkR (q0 + 4) x.t.rs.length)) := hrow.r
   have RW : Hid (GRow encW wr x.wa (mkW (q0 + 4 + 2 * x.t.rs.length) x.t.ws.length)) := hrow.w
   have r0 : wr.cell? ⟨b, o + k * 8, none⟩ = some (.int .i64 ((q0 : Int))) := by rw [hc.c0]; congr 2
   have n0 := ne_self_int ((q0 : Int))
   have r1 : wr.cell? ⟨b, o + k * 8 + 1, none⟩ = some (.int .i64 ((q0 : Int) + 1)) := by rw [hc.c1]; congr 2
   have n1 := ne_self_int ((q0 : Int) + 1)
   have r2 : wr.cell? ⟨b, o + k * 8 + 2, none⟩ = some (.int .i64 ((q0 : Int) + 1 + 1)) := by rw [hc.c2]; congr 2
   have n2 := ne_self_int ((q0 : Int) + 1 + 1)
   have r3 : wr.cell? ⟨b, o + k * 8 + 3, none⟩ = some (.int .i64 ((q0 : Int) + 1 + 1 + 1)) := by rw [hc.c3]; congr 2
   have n3 := ne_self_int ((q0 : Int) + 1 + 1 + 1)
   have r4 : wr.cell? ⟨b, o + k * 8 + 4, none⟩ = some (.slice x.ra x.t.rs.length x.rc) := by rw [hc.c4]; congr 2; exact mkR_len _ _
   have C5 : Hid (wr.cell? ⟨b, o + k * 8 + 5, none⟩ = some (.slice x.wa x.t.ws.length x.wc)) := by show _ = _; rw [hc.c5]; congr 2; exact mkW_len _ _
   have C6 : Hid (wr.cell? ⟨b, o + k * 8 + 6, none⟩ = some (.bool (ouQ (q0 + 4 + 2 * x.t.rs.length + 3 * x.t.ws.length)))) := hc.c6
   have C7 : Hid (wr.cell? ⟨b, o + k * 8 + 7, none⟩ = some (.string (mkB (q0 + 4 + 2 * x.t.rs.length + 3 * x.t.ws.length + 1)))) := hc.c7
   have E4 : Hid ((q0 : Int) + 1 + 1 + 1 + 1 = ((q0 + 4 : Nat) : Int)) := by show _ = _; omega
   clear hc hrow hfx
   go_wp2_with fail
   rw [E4.out]
   refine (heldR x.t.rs.length (q0 + 4) x.ra x.rc (by omega) (by omega) (by omega) _ RR.out).mono ?_
   rintro e w1 ⟨rfl, hb⟩
   have HB1 : Hid (Below wr.heap.size wr w1) := hb
   clear hb r0 r1 r2 r3 r4 n0 n1 n2 n3 E4 RR
   obtain ⟨k4, hk4⟩ : ∃ k4, k4 = q0 + 4 + 2 * x.t.rs.length := ⟨_, rfl⟩
   rw [← hk4] at RW C6 C7 ⊢
   have HK4 : Hid (k4 = q0 + 4 + 2 * x.t.rs.length) := hk4
   have hk40 : 0 < k4 := by omega
   have hk41 : k4 ≤ 30000000000000000 := by omega
   have hk4n : ¬ (k4 : Int) < 0 := by omega
   clear hk4
   have r5 := (HB1.out.cell (p := ⟨b, o + k * 8 + 5, none⟩) hbl).trans C5.out
   go_wp2_with fail
   refine (heldW x.t.ws.length k4 x.wa x.wc (by omega) (by omega) (by omega) _ (RW.out.below HB1.out)).mono ?_
   rintro e w2 ⟨rfl, hb⟩
   have HB2 : Hid (Below wr.heap.size wr w2) := HB1.out.trans (hb.mono HB1.out.size)
   clear hb r5 RW C5 HB1
   obtain ⟨k5, hk5⟩ : ∃ k5, k5 = k4 + 3 * x.t.ws.length := ⟨_, rfl⟩
   rw [← hk5] at C6 C7 ⊢
   have HK5 : Hid (k5 = q0 + 4 + 2 * x.t.rs.length + 3 * x.t.ws.length) := by show _ = _; rw [hk5, HK4.out]
   have hk50 : 0 < k5 := by omega
   have hk51 : k5 ≤ 40000000000000000 := by omega
   have hk5n : ¬ (k5 : Int) < 0 := by omega
   clear hk5
   have r6 := (HB2.out.cell (p := ⟨b, o + k * 8 + 6, none⟩) hbl).trans C6.out
   have r7 := (HB2.out.cell (p := ⟨b, o + k * 8 + 7, none⟩) hbl).trans C7.out
   have eg := ouQ_eq k5
   have bg := bne_self' (ouQ k5)
   have E5 : Hid ((k5 : Int) + 1 = ((k5 + 1 : Nat) : Int)) := by show _ = _; omega
   have e5 : IntKind.i64.wrap ((k5 : Int) + 1) = (k5 : Int) + 1 := by rw [IntKind.wrap_i64]; omega
   have tn := bne_text (mkB (k5 + 1))
   go_wp2
   refine wp_region_held_drew (S := fun w' => w'.cell? ⟨b, o + k * 8 + 7, none⟩ = some (.string (mkB (k5 + 1)))) (by kernel_rfl) r7 (fun hHeld => ?_)
   (refine tk 0 ?_ rfl (Or.inl ⟨by rfl, ?_⟩) ?_; rotate_left; (focus (intro w h; (try dsimp only at h); go_simp; (try with_reducible rfl))); simp only [Act.put, tA, tB, tD, tE, tF])
   (refine tk 1 ?_ rfl (Or.inl ⟨by rfl, ?_⟩) ?_; rotate_left; (focus (intro w h; (try dsimp only at h); go_simp; (try with_reducible rfl))); simp only [Act.put, tA, tB, tC, tD, tE, tF])
   (refine tk 2 ?_ rfl (Or.inl ⟨by rfl, ?_⟩) ?_; rotate_left; (focus (intro w h; (try dsimp only at h); go_simp; (try with_reducible rfl))); simp only [Act.put, tA, tB, tC, tD, tE, tF])
   (refine tk 3 ?_ rfl (Or.inl ⟨by rfl, ?_⟩) ?_; rotate_left; (focus (intro w h; (try dsimp only at h); go_simp; (try with_reducible rfl))); simp only [Act.put, tA, tB, tC, tD, tE, tF])
   (refine tk 4 ?_ rfl (Or.inl ⟨by rfl, ?_⟩) ?_; rotate_left; (focus (intro w h; (try dsimp only at h); go_simp; (try with_reducible rfl))); simp only [Act.put, tA, tB, tC, tD, tE, tF])
   (refine tk 5 ?_ rfl (Or.inl ⟨by rfl, ?_⟩) ?_; rotate_left; (focus (intro w h; (try dsimp only at h); go_simp; (try with_reducible rfl))); simp only [Act.put, tA, tB, tC, tD, tE, tF])
   refine wpAnyH_ready (rs := [6]) (by kernel_rfl) (by simp) ?_
   refine AllReadyH.cons rfl (fun K hK => ?_) AllReadyH.nil
   go_simp
   go_wp2_with fail
   rw [E5.out]
   refine (mark87 (k5 + 1) (by omega) (by omega) _).mono ?_
   rintro e w3 ⟨rfl, hbm⟩
   have HB3 : Hid (Below wr.heap.size wr w3) := HB2.out.trans ((undrew hbm).mono HB2.out.size)
   clear hbm
   have s7 := (HB3.out.cell (p := ⟨b, o + k * 8 + 7, none⟩) hbl).trans C7.out
   go_wp2_with fail
   refine hK.out _ _ s7 (fun hHeld2 => ?_)
   clear hK K
   (refine tk 7 ?_ rfl (Or.inl ⟨by rfl, ?_⟩) ?_; rotate_left; (focus (intro w h; (try dsimp only at h); go_simp; (try with_reducible rfl))); simp only [Act.put, tA, tB, tC, tD, tE, tF])
   refine wpAnyH_done (by kernel_rfl) ?_ _
   have HZ2 : Hid (k5 + 2 = k0 + wtL (ys.take (k + 1))) := by show _ = _; rw [← HNX.out, HK5.out]; unfold wt; omega
   have en : (k5 : Int) + 1 + 1 = ((k5 + 2 : Nat) : Int) := by omega
   have HBn : Hid (Below w.heap.size w w3) := HB.out.trans (HB3.out.mono HB.out.size)
   clear r6 r7 s7 C6 C7
   go_wp2
   go_roundw
   case rel => exact ⟨k + 1, k5 + 2, by omega, by go_num, by go_num, HZ2, HBn⟩
   case measure => simp [intOf]; omega
  ·have hd : ¬ (k : Int) < (n : Int) := by omega
   have eT : ys.take k = ys := List.take_of_length_le (by rw [← HN.out]; omega)
   rw [eT] at HQ
   have HE : Hid (q0 = k0 + wtL ys) := HQ.out
   clear HQ eT
   go_wp2
   go_ret
   exact ⟨ret_int (by have := HE.out; omega), HB.out⟩

end Go.Proofs.YtjeicgibddfifaaGreat

namespace Go.Proofs.YtjeicgibddfifaaGreat
open Go.RowKit
open KM
attribute [local go_sem ↓] Go.wp_at_zero Go.wp_at_succ

set_option maxRecDepth 100000 in
set_option maxHeartbeats 4000000 in
theorem heldV (n k0 : Nat) (a : Option Addr) (c : Nat) (hn : n ≤ 100000000) (hk0 : 0 < k0) (hk1 : k0 ≤ 100000000000000000) (w : World) (h : GRow encV w a (mkV k0 n)) :
  Calls Tryz.prog 78 #[.slice a n c, .int .i64 k0] w fun e w' => e = .returned (.int .i64 ((k0 + 4 * n : Nat) : Int)) ∧ Below w.heap.size w w' := by
 have H : Hid (GRow encV w a (mkV k0 n)) := h
 clear h
 go_enter Tryz.func78, Tryz.ntmps78
 go_wp2
 go_loopw [1, 5] (fun tk t wr => ∃ k : Nat, k ≤ n ∧ t = .int .i64 k ∧ tk = .int .i64 ((k0 + 4 * k : Nat) : Int) ∧ Hid (Below w.heap.size w wr)) (fun _ t _ => n - (intOf t).toNat)
 case atStart => exact ⟨0, Nat.zero_le _, rfl, rfl, Below.refl _ _⟩
 case round =>
  obtain ⟨k, hk, rfl, rfl, HB⟩ := hrel
  by_cases hlt : k < n
  ·have hlt' : (k : Int) < (n : Int) := by omega
   have h0 : (0 : Int) ≤ (k : Int) := by omega
   obtain ⟨b, off, rfl, hgl, hc⟩ := (H.out.below HB.out) (by rw [mkV_len]; omega)
   have HC := hide (vat hc k (by rw [mkV_len]; exact hlt))
   rw [mkV_at k0 n k hlt] at HC
   clear hc
   obtain ⟨q, hq⟩ : ∃ q, q = k0 + 4 * k := ⟨_, rfl⟩
   have HQ : Hid (q = k0 + 4 * k) := hq
   rw [← hq] at HC ⊢
   have hq0 : 0 < q := by omega
   have hq1 : q ≤ 900000000000000000 := by omega
   clear hq
   have HN2 : Hid (((q + 4 : Nat) : Int) = ((k0 + 4 * (k + 1) : Nat) : Int)) := by show _ = _; have := HQ.out; omega
   have eq0 : IntKind.i64.wrap (q : Int) = (q : Int) := by rw [IntKind.wrap_i64]; omega
   go_wp2
   have r0 := HC.out.1
   have tn0 := bne_text (mkB q)
   refine wp_region_held_drew (S := fun w' => w'.cell? ⟨b, off + k * 4, none⟩ = some (.string (mkB q))) (by kernel_rfl) r0 (fun hHeld => ?_)
   (refine tk 0 ?_ rfl (Or.inl ⟨by rfl, ?_⟩) ?_; rotate_left; (focus (intro w h; (try dsimp only at h); go_simp; (try with_reducible rfl))); simp only [Act.put, tA, tB, tD, tE, tF])
   (refine tk 1 ?_ rfl (Or.inl ⟨by rfl, ?_⟩) ?_; rotate_left; (focus (intro w h; (try dsimp only at h); go_simp; (try with_reducible rfl))); simp only [Act.put, tA, tB, tC, tD, tE, tF])
   (refine tk 2 ?_ rfl (Or.inl ⟨by rfl, ?_⟩) ?_; rotate_left; (focus (intro w h; (try dsimp only at h); go_simp; (try with_reducible rfl))); simp only [Act.put, tA, tB, tC, tD, tE, tF])
   (refine tk 3 ?_ rfl (Or.inl ⟨by rfl, ?_⟩) ?_; rotate_left; (focus (intro w h; (try dsimp only at h); go_simp; (try with_reducible rfl))); simp only [Act.put, tA, tB, tC, tD, tE, tF])
   (refine tk 4 ?_ rfl (Or.inl ⟨by rfl, ?_⟩) ?_; rotate_left; (focus (intro w h; (try dsimp only at h); go_simp; (try with_reducible rfl))); simp only [Act.put, tA, tB, tC, tD, tE, tF])
   (refine tk 5 ?_ rfl (Or.inl ⟨by rfl, ?_⟩) ?_; rotate_left; (focus (intro w h; (try dsimp only at h); go_simp; (try with_reducible rfl))); simp only [Act.put, tA, tB, tC, tD, tE, tF])
   refine wpAnyH_ready (rs := [6]) (by kernel_rfl) (by simp) ?_
   refine AllReadyH.cons rfl (fun K hK => ?_) AllReadyH.nil
   go_simp
   go_wp2_with fail
   refine (mark87 q (by omega) (by omega) _).mono ?_
   rintro e w1 ⟨rfl, hbm⟩
   have hbA1 : Below wr.heap.size wr w1 := undrew hbm
   clear hbm
   have s0 := (hbA1.cell (p := ⟨b, off + k * 4, none⟩) hgl).trans HC.out.1
   go_wp2_with fail
   refine hK.out _ _ s0 (fun hHeld2 => ?_)
   clear hK K
   (refine tk 7 ?_ rfl (Or.inl ⟨by rfl, ?_⟩) ?_; rotate_left; (focus (intro w h; (try dsimp only at h); go_simp; (try with_reducible rfl))); simp only [Act.put, tA, tB, tC, tD, tE, tF])
   refine wpAnyH_done (by kernel_rfl) ?_ _
   go_wp2
   have r1 := (hbA1.cell (p := ⟨b, off + k * 4 + 1, none⟩) hgl).trans HC.out.2.1
   have E1 : Hid ((q : Int) + 1 = ((q + 1 : Nat) : Int)) := by show _ = _; omega
   have e1 : IntKind.i64.wrap ((q : Int) + 1) = (q : Int) + 1 := by rw [IntKind.wrap_i64]; omega
   have tn1 := bne_text (mkB (q + 1))
   refine wp_region_held_drew (S := fun w' => w'.cell? ⟨b, off + k * 4 + 1, none⟩ = some (.string (mkB (q + 1)))) (by kernel_rfl) r1 (fun hHeld => ?_)
   (refine tk 0 ?_ rfl (Or.inl ⟨by rfl, ?_⟩) ?_; rotate_left; (focus (intro w h; (try dsimp only at h); go_simp; (try with_reducible rfl))); simp only [Act.put, tA, tB, tD, tE, tF])
   (refine tk 1 ?_ rfl (Or.inl ⟨by rfl, ?_⟩) ?_; rotate_left; (focus (intro w h; (try dsimp only at h); go_simp; (try with_reducible rfl))); simp only [Act.put, tA, tB, tC, tD, tE, tF])
   (refine tk 2 ?_ rfl (Or.inl ⟨by rfl, ?_⟩) ?_; rotate_left; (focus (intro w h; (try dsimp only at h); go_simp; (try with_reducible rfl))); simp only [Act.put, tA, tB, tC, tD, tE, tF])
   (refine tk 3 ?_ rfl (Or.inl ⟨by rfl, ?_⟩) ?_; rotate_left; (focus (intro w h; (try dsimp only at h); go_simp; (try with_reducible rfl))); simp only [Act.put, tA, tB, tC, tD, tE, tF])
   (refine tk 4 ?_ rfl (Or.inl ⟨by rfl, ?_⟩) ?_; rotate_left; (focus (intro w h; (try dsimp only at h); go_simp; (try with_reducible rfl))); simp only [Act.put, tA, tB, tC, tD, tE, tF])
   (refine tk 5 ?_ rfl (Or.inl ⟨by rfl, ?_⟩) ?_; rotate_left; (focus (intro w h; (try dsimp only at h); go_simp; (try with_reducible rfl))); simp only [Act.put, tA, tB, tC, tD, tE, tF])
   refine wpAnyH_ready (rs := [6]) (by kernel_rfl) (by simp) ?_
   refine AllReadyH.cons rfl (fun K hK => ?_) AllReadyH.nil
   go_simp
   go_wp2_with fail
   rw [E1.out]
   refine (mark87 (q + 1) (by omega) (by omega) _).mono ?_
   rintro e w2 ⟨rfl, hbm⟩
   have hbA2 : Below wr.heap.size wr w2 := hbA1.trans ((undrew hbm).mono hbA1.size)
   clear hbm
   have s1 := (hbA2.cell (p := ⟨b, off + k * 4 + 1, none⟩) hgl).trans HC.out.2.1
   go_wp2_with fail
   refine hK.out _ _ s1 (fun hHeld2 => ?_)
   clear hK K
   (refine tk 7 ?_ rfl (Or.inl ⟨by rfl, ?_⟩) ?_; rotate_left; (focus (intro w h; (try dsimp only at h); go_simp; (try with_reducible rfl))); simp only [Act.put, tA, tB, tC, tD, tE, tF])
   refine wpAnyH_done (by kernel_rfl) ?_ _
   have r2 := (hbA2.cell (p := ⟨b, off + k * 4 + 2, none⟩) hgl).trans HC.out.2.2.1
   have r3 := (hbA2.cell (p := ⟨b, off + k * 4 + 3, none⟩) hgl).trans HC.out.2.2.2
   have eg := goneQ_eq q
   have ebn := bne_self' (goneQ q)
   have ebi : (((q : Int) + 1 + 1 + 1) != ((q : Int) + 1 + 1 + 1)) = false := by simp
   go_wp2
   go_roundw
   case rel => exact ⟨k + 1, by omega, by go_num, by rw [← HN2.out]; go_num, HB.out.trans (hbA2.mono HB.out.size)⟩
   case measure => simp [intOf]; omega
  ·have hd : ¬ (k : Int) < (n : Int) := by omega
   go_wp2
   go_ret
   refine ⟨?_, HB.out⟩
   rw [show k = n by omega]
   rfl
end Go.Proofs.YtjeicgibddfifaaGreat

namespace Go.Proofs.YtjeicgibddfifaaGreat
open Go.RowKit
open KM
attribute [local go_sem ↓] Go.wp_at_zero Go.wp_at_succ

set_option maxRecDepth 100000 in
set_option maxHeartbeats 2000000 in
theorem heldB (b : Bb) (hf : BFit b) (q1 q2 q3 : Nat) (h1 : q1 = 1 + 4 * b.vs.length) (h2 : q2 = q1 + wtL b.ps) (h3 : q3 = q2 + wtL b.qs) (w : World) (hr : BRows w ⟨mkV 1 b.vs.length, mkL b.ps q1, mkL b.qs q2, b.cs, b.nx, b.va, b.vc, b.pa, b.pc, b.qa, b.qc⟩) :
  Calls Tryz.prog 35 #[.agg #[.slice b.va b.vs.length b.vc, .slice b.pa b.ps.length b.pc, .slice b.qa b.qs.length b.qc, .int .i64 b.cs, .int .i64 b.nx], .int .i64 1] w fun e w' => e = .returned (.int .i64 (q3 : Int)) ∧ Below w.heap.size w w' := by
 have HR : Hid (BRows w ⟨mkV 1 b.vs.length, mkL b.ps q1, mkL b.qs q2, b.cs, b.nx, b.va, b.vc, b.pa, b.pc, b.qa, b.qc⟩) := hr
 clear hr
 have HFp : Hid (∀ y ∈ b.ps, TFit y.t) := fun y hy => hf.p.2 _ (List.mem_map.2 ⟨y, hy, rfl⟩)
 have HFq : Hid (∀ y ∈ b.qs, TFit y.t) := fun y hy => hf.q.2 _ (List.mem_map.2 ⟨y, hy, rfl⟩)
 have HWp : Hid (wtL b.ps ≤ 5600000000000) := by
  show _ ≤ _
  have h1 := wtL_fit b.ps HFp.out
  have h2 : b.ps.length * 5242886 ≤ 1048576 * 5242886 := Nat.mul_le_mul_right _ hf.pl
  omega
 have HWq : Hid (wtL b.qs ≤ 5600000000000) := by
  show _ ≤ _
  have h1 := wtL_fit b.qs HFq.out
  have h2 : b.qs.length * 5242886 ≤ 1048576 * 5242886 := Nat.mul_le_mul_right _ hf.ql
  omega
 have hnv : b.vs.length ≤ 1048576 := hf.vl
 have hnp : b.ps.length ≤ 1048576 := hf.pl
 have hnq : b.qs.length ≤ 1048576 := hf.ql
 clear hf
 have hwp := HWp.out
 have hwq := HWq.out
 have BX0 : Hid (Bx (w.alloc (.cells #[.slice b.va b.vs.length b.vc, .slice b.pa b.ps.length b.pc, .slice b.qa b.qs.length b.qc, .int .i64 b.cs, .int .i64 b.nx] 33)) w.heap.size [.slice b.va b.vs.length b.vc, .slice b.pa b.ps.length b.pc, .slice b.qa b.qs.length b.qc, .int .i64 b.cs, .int .i64 b.nx]) := Bx.new w [.slice b.va b.vs.length b.vc, .slice b.pa b.ps.length b.pc, .slice b.qa b.qs.length b.qc, .int .i64 b.cs, .int .i64 b.nx] 33
 have HB0 : Hid (Below w.heap.size w (w.alloc (.cells #[.slice b.va b.vs.length b.vc, .slice b.pa b.ps.length b.pc, .slice b.qa b.qs.length b.qc, .int .i64 b.cs, .int .i64 b.nx] 33))) := (belowRefl w).alloc (Nat.le_refl _) _
 have l1 : ¬ ((q1 : Int) < 0) := by omega
 have l2 : ¬ ((q2 : Int) < 0) := by omega
 have l3 : ¬ ((q3 : Int) < 0) := by omega
 have b1 : 0 < q1 ∧ q1 ≤ 10000000000000000 := by omega
 have b2 : 0 < q2 ∧ q2 ≤ 10000000000000000 := by omega
 have E1 : Hid (1 + 4 * b.vs.length = q1) := h1.symm
 have E2 : Hid (q1 + wtL b.ps = q2) := h2.symm
 have E3 : Hid (q2 + wtL b.qs = q3) := h3.symm
 clear h1 h2 h3 hwp hwq
 go_enter Tryz.func35, Tryz.ntmps35
 go_upto_region 1 with fail
 generalize (w.alloc (.cells #[.slice b.va b.vs.length b.vc, .slice b.pa b.ps.length b.pc, .slice b.qa b.qs.length b.qc, .int .i64 b.cs, .int .i64 b.nx] 33)) = w0 at *
 have x0 := BX0.out.c0
 go_wp2_with fail
 refine (heldV b.vs.length 1 b.va b.vc (by omega) (by omega) (by omega) _ (HR.out.v.below HB0.out)).mono ?_
 rintro e w1 ⟨rfl, hb⟩
 rw [E1.out]
 have HB1 : Hid (Below w.heap.size w w1) := HB0.out.trans (hb.mono HB0.out.size)
 have BX1 : Hid (Bx w1 w.heap.size [.slice b.va b.vs.length b.vc, .slice b.pa b.ps.length b.pc, .slice b.qa b.qs.length b.qc, .int .i64 b.cs, .int .i64 b.nx]) := BX0.out.below hb
 clear hb x0 BX0
 have x1 := BX1.out.c1
 go_wp2_with fail
 refine (heldL b.ps b.pa b.pc b.ps.length q1 rfl hnp HFp.out b1.1 b1.2 _ (HR.out.p.below HB1.out)).mono ?_
 rintro e w2 ⟨rfl, hb⟩
 rw [E2.out]
 have HB2 : Hid (Below w.heap.size w w2) := HB1.out.trans (hb.mono HB1.out.size)
 have BX2 : Hid (Bx w2 w.heap.size [.slice b.va b.vs.length b.vc, .slice b.pa b.ps.length b.pc, .slice b.qa b.qs.length b.qc, .int .i64 b.cs, .int .i64 b.nx]) := BX1.out.below hb
 clear hb x1 BX1
 have x2 := BX2.out.c2
 go_wp2_with fail
 refine (heldL b.qs b.qa b.qc b.qs.length q2 rfl hnq HFq.out b2.1 b2.2 _ (HR.out.q.below HB2.out)).mono ?_
 rintro e w3 ⟨rfl, hb⟩
 rw [E3.out]
 have HB3 : Hid (Below w.heap.size w w3) := HB2.out.trans (hb.mono HB2.out.size)
 clear hb x2 BX2
 go_wp2
 go_ret
 exact ⟨rfl, HB3.out⟩

end Go.Proofs.YtjeicgibddfifaaGreat

namespace Go.Proofs.YtjeicgibddfifaaGreat
open Go.RowKit
open KM
attribute [local go_sem ↓] Go.wp_at_zero Go.wp_at_succ

set_option maxRecDepth 100000 in
set_option maxHeartbeats 2000000 in
theorem markB2 (b : Bb) (lo hi : Nat) (hf : BFit b) (w : World) (hz : hi ≤ w.heap.size) (h : BLie w lo hi b) :
  Calls Tryz.prog 33 #[.agg #[.slice b.va b.vs.length b.vc, .slice b.pa b.ps.length b.pc, .slice b.qa b.qs.length b.qc, .int .i64 b.cs, .int .i64 b.nx], .int .i64 1] w fun e w' => ∃ (q : Nat) (m : Bb), e = .returned (.int .i64 (q : Int)) ∧ (0 < q ∧ q ≤ 10000000000000000) ∧ BLie w' lo hi m ∧ Zn lo hi w w' ∧ (∀ W : World, BRows W m → Calls Tryz.prog 35 #[.agg #[.slice b.va b.vs.length b.vc, .slice b.pa b.ps.length b.pc, .slice b.qa b.qs.length b.qc, .int .i64 b.cs, .int .i64 b.nx], .int .i64 1] W fun e w' => e = .returned (.int .i64 (q : Int)) ∧ Below W.heap.size W w') := by
 have HF : Hid (BFit b) := hf
 obtain ⟨m1, m2, k1, k2, k3, hv, hp, hq⟩ := h.ex
 have hba : Below w.heap.size w (w.alloc (.cells #[.slice b.va b.vs.length b.vc, .slice b.pa b.ps.length b.pc, .slice b.qa b.qs.length b.qc, .int .i64 b.cs, .int .i64 b.nx] 33)) := (belowRefl w).alloc (Nat.le_refl _) _
 have BX0 : Hid (Bx (w.alloc (.cells #[.slice b.va b.vs.length b.vc, .slice b.pa b.ps.length b.pc, .slice b.qa b.qs.length b.qc, .int .i64 b.cs, .int .i64 b.nx] 33)) w.heap.size [.slice b.va b.vs.length b.vc, .slice b.pa b.ps.length b.pc, .slice b.qa b.qs.length b.qc, .int .i64 b.cs, .int .i64 b.nx]) := Bx.new w [.slice b.va b.vs.length b.vc, .slice b.pa b.ps.length b.pc, .slice b.qa b.qs.length b.qc, .int .i64 b.cs, .int .i64 b.nx] 33
 have HV0 : Hid (Lies encV 85 (w.alloc (.cells #[.slice b.va b.vs.length b.vc, .slice b.pa b.ps.length b.pc, .slice b.qa b.qs.length b.qc, .int .i64 b.cs, .int .i64 b.nx] 33)) lo m1 (.slice b.va b.vs.length b.vc) b.vs) := hv.below hba
 have HP0 : Hid (LLie (w.alloc (.cells #[.slice b.va b.vs.length b.vc, .slice b.pa b.ps.length b.pc, .slice b.qa b.qs.length b.qc, .int .i64 b.cs, .int .i64 b.nx] 33)) m1 m2 (.slice b.pa b.ps.length b.pc) b.ps) := hp.below hba
 have HQ0 : Hid (LLie (w.alloc (.cells #[.slice b.va b.vs.length b.vc, .slice b.pa b.ps.length b.pc, .slice b.qa b.qs.length b.qc, .int .i64 b.cs, .int .i64 b.nx] 33)) m2 hi (.slice b.qa b.qs.length b.qc) b.qs) := hq.below hba
 have HZ0 : Hid (Zn lo hi w (w.alloc (.cells #[.slice b.va b.vs.length b.vc, .slice b.pa b.ps.length b.pc, .slice b.qa b.qs.length b.qc, .int .i64 b.cs, .int .i64 b.nx] 33))) := Zn.ofBelow lo hi hba
 clear h hv hp hq hba
 have HFp : Hid (∀ y ∈ b.ps, TFit y.t) := fun y hy => hf.p.2 _ (List.mem_map.2 ⟨y, hy, rfl⟩)
 have HFq : Hid (∀ y ∈ b.qs, TFit y.t) := fun y hy => hf.q.2 _ (List.mem_map.2 ⟨y, hy, rfl⟩)
 have HWp : Hid (wtL b.ps ≤ 5600000000000) := by
  show _ ≤ _
  have h1 := wtL_fit b.ps HFp.out
  have h2 : b.ps.length * 5242886 ≤ 1048576 * 5242886 := Nat.mul_le_mul_right _ hf.pl
  omega
 have HWq : Hid (wtL b.qs ≤ 5600000000000) := by
  show _ ≤ _
  have h1 := wtL_fit b.qs HFq.out
  have h2 : b.qs.length * 5242886 ≤ 1048576 * 5242886 := Nat.mul_le_mul_right _ hf.ql
  omega
 have hnv : b.vs.length ≤ 1048576 := hf.vl
 have hnp : b.ps.length ≤ 1048576 := hf.pl
 have hnq : b.qs.length ≤ 1048576 := hf.ql
 clear hf
 have hwp := HWp.out
 have hwq := HWq.out
 obtain ⟨q1, h1⟩ : ∃ q1, q1 = 1 + 4 * b.vs.length := ⟨_, rfl⟩
 obtain ⟨q2, h2⟩ : ∃ q2, q2 = q1 + wtL b.ps := ⟨_, rfl⟩
 obtain ⟨q3, h3⟩ : ∃ q3, q3 = q2 + wtL b.qs := ⟨_, rfl⟩
 have b1 : 0 < q1 ∧ q1 ≤ 10000000000000000 := by omega
 have b2 : 0 < q2 ∧ q2 ≤ 10000000000000000 := by omega
 have b3 : 0 < q3 ∧ q3 ≤ 10000000000000000 := by omega
 have E1 : Hid (1 + 4 * b.vs.length = q1) := h1.symm
 have E2 : Hid (q1 + wtL b.ps = q2) := h2.symm
 have E3 : Hid (q2 + wtL b.qs = q3) := h3.symm
 have HH : Hid (∀ W : World, BRows W ⟨mkV 1 b.vs.length, mkL b.ps q1, mkL b.qs q2, b.cs, b.nx, b.va, b.vc, b.pa, b.pc, b.qa, b.qc⟩ → Calls Tryz.prog 35 #[.agg #[.slice b.va b.vs.length b.vc, .slice b.pa b.ps.length b.pc, .slice b.qa b.qs.length b.qc, .int .i64 b.cs, .int .i64 b.nx], .int .i64 1] W fun e w' => e = .returned (.int .i64 (q3 : Int)) ∧ Below W.heap.size W w') := fun W hW => heldB b HF.out q1 q2 q3 h1 h2 h3 W hW
 clear h1 h2 h3 hwp hwq HF
 go_enter Tryz.func33, Tryz.ntmps33
 go_upto_region 1 with fail
 generalize (w.alloc (.cells #[.slice b.va b.vs.length b.vc, .slice b.pa b.ps.length b.pc, .slice b.qa b.qs.length b.qc, .int .i64 b.cs, .int .i64 b.nx] 33)) = w0 at *
 have x0 := BX0.out.c0
 go_wp2_with fail
 refine (markV b.vs.length 1 b.va b.vc lo _ (by omega) (by omega) (by omega) _ HV0.out.own).mono ?_
 rintro e w1 ⟨rfl, ho, hg⟩
 rw [E1.out]
 have hz1 : Zn lo m1 w0 w1 := Zn.ofGrown hg (fun g h => HV0.out.lo g h)
 have HV1 : Hid (Lies encV 85 w1 lo m1 (.slice b.va b.vs.length b.vc) (mkV 1 b.vs.length)) := ⟨ho, HV0.out.up⟩
 have HP1 : Hid (LLie w1 m1 m2 (.slice b.pa b.ps.length b.pc) b.ps) := HP0.out.zn hz1 (by omega)
 have HQ1 : Hid (LLie w1 m2 hi (.slice b.qa b.qs.length b.qc) b.qs) := HQ0.out.zn hz1 (by omega)
 have HZ1 : Hid (Zn lo hi w w1) := HZ0.out.trans (hz1.mono (by omega) (by omega))
 have BX1 : Hid (Bx w1 w.heap.size [.slice b.va b.vs.length b.vc, .slice b.pa b.ps.length b.pc, .slice b.qa b.qs.length b.qc, .int .i64 b.cs, .int .i64 b.nx]) := BX0.out.zn hz1 (by omega)
 clear ho hg hz1 x0 BX0 HV0 HP0 HQ0 HZ0
 have x1 := BX1.out.c1
 go_wp2_with fail
 refine (markL b.ps b.pa b.pc b.ps.length m1 m2 q1 rfl hnp HFp.out b1.1 b1.2 _ HP1.out).mono ?_
 rintro e w2 ⟨rfl, ho, hz2⟩
 rw [E2.out]
 have HP2 : Hid (LLie w2 m1 m2 (.slice b.pa b.ps.length b.pc) (mkL b.ps q1)) := ho
 have HV2 : Hid (Lies encV 85 w2 lo m1 (.slice b.va b.vs.length b.vc) (mkV 1 b.vs.length)) := HV1.out.zn hz2 (by omega)
 have HQ2 : Hid (LLie w2 m2 hi (.slice b.qa b.qs.length b.qc) b.qs) := HQ1.out.zn hz2 (by omega)
 have HZ2 : Hid (Zn lo hi w w2) := HZ1.out.trans (hz2.mono (by omega) (by omega))
 have BX2 : Hid (Bx w2 w.heap.size [.slice b.va b.vs.length b.vc, .slice b.pa b.ps.length b.pc, .slice b.qa b.qs.length b.qc, .int .i64 b.cs, .int .i64 b.nx]) := BX1.out.zn hz2 (by omega)
 clear ho hz2 x1 BX1 HV1 HP1 HQ1 HZ1
 have x2 := BX2.out.c2
 go_wp2_with fail
 refine (markL b.qs b.qa b.qc b.qs.length m2 hi q2 rfl hnq HFq.out b2.1 b2.2 _ HQ2.out).mono ?_
 rintro e w3 ⟨rfl, ho, hz3⟩
 rw [E3.out]
 have HQ3 : Hid (LLie w3 m2 hi (.slice b.qa b.qs.length b.qc) (mkL b.qs q2)) := ho
 have HV3 : Hid (Lies encV 85 w3 lo m1 (.slice b.va b.vs.length b.vc) (mkV 1 b.vs.length)) := HV2.out.zn hz3 (by omega)
 have HP3 : Hid (LLie w3 m1 m2 (.slice b.pa b.ps.length b.pc) (mkL b.ps q1)) := HP2.out.zn hz3 (by omega)
 have HZ3 : Hid (Zn lo hi w w3) := HZ2.out.trans (hz3.mono (by omega) (by omega))
 clear ho hz3 x2 BX2 HV2 HP2 HQ2 HZ2
 go_wp2
 go_ret
 refine ⟨q3, ⟨mkV 1 b.vs.length, mkL b.ps q1, mkL b.qs q2, b.cs, b.nx, b.va, b.vc, b.pa, b.pc, b.qa, b.qc⟩, rfl, b3, ⟨m1, m2, k1, k2, k3, ?_, ?_, ?_⟩, HZ3.out, HH.out⟩
 ·show Lies encV 85 w3 lo m1 (.slice b.va (mkV 1 b.vs.length).length b.vc) (mkV 1 b.vs.length)
  rw [mkV_len]
  exact HV3.out
 ·show LLie w3 m1 m2 (.slice b.pa (mkL b.ps q1).length b.pc) (mkL b.ps q1)
  rw [mkL_len]
  exact HP3.out
 ·show LLie w3 m2 hi (.slice b.qa (mkL b.qs q2).length b.qc) (mkL b.qs q2)
  rw [mkL_len]
  exact HQ3.out

set_option maxRecDepth 100000 in
set_option maxHeartbeats 2000000 in
theorem heldE (e : En) (hf : EnFit e) (mb : Bb) (q1 q : Nat) (hq1 : 0 < q1 ∧ q1 ≤ 10000000000000000) (hq : q = q1 + wtL e.os) (hh : ∀ W : World, BRows W mb → Calls Tryz.prog 35 #[.agg #[.slice e.b.va e.b.vs.length e.b.vc, .slice e.b.pa e.b.ps.length e.b.pc, .slice e.b.qa e.b.qs.length e.b.qc, .int .i64 e.b.cs, .int .i64 e.b.nx], .int .i64 1] W fun ex w' => ex = .returned (.int .i64 (q1 : Int)) ∧ Below W.heap.size W w') (w : World) (hp : EnRows w ⟨mb, mkL e.os q1, e.oa, e.oc⟩) :
  Calls Tryz.prog 14 #[.agg #[.slice e.b.va e.b.vs.length e.b.vc, .slice e.b.pa e.b.ps.length e.b.pc, .slice e.b.qa e.b.qs.length e.b.qc, .int .i64 e.b.cs, .int .i64 e.b.nx, .slice e.oa e.os.length e.oc], .int .i64 1] w fun ex w' => ex = .returned (.int .i64 (q : Int)) ∧ Below w.heap.size w w' := by
 have BA0 : Hid (Bx (w.alloc (.cells #[.slice e.b.va e.b.vs.length e.b.vc, .slice e.b.pa e.b.ps.length e.b.pc, .slice e.b.qa e.b.qs.length e.b.qc, .int .i64 e.b.cs, .int .i64 e.b.nx, .slice e.oa e.os.length e.oc] 35)) w.heap.size [.slice e.b.va e.b.vs.length e.b.vc, .slice e.b.pa e.b.ps.length e.b.pc, .slice e.b.qa e.b.qs.length e.b.qc, .int .i64 e.b.cs, .int .i64 e.b.nx, .slice e.oa e.os.length e.oc]) := Bx.new w [.slice e.b.va e.b.vs.length e.b.vc, .slice e.b.pa e.b.ps.length e.b.pc, .slice e.b.qa e.b.qs.length e.b.qc, .int .i64 e.b.cs, .int .i64 e.b.nx, .slice e.oa e.os.length e.oc] 35
 have HB0 : Hid (Below w.heap.size w (w.alloc (.cells #[.slice e.b.va e.b.vs.length e.b.vc, .slice e.b.pa e.b.ps.length e.b.pc, .slice e.b.qa e.b.qs.length e.b.qc, .int .i64 e.b.cs, .int .i64 e.b.nx, .slice e.oa e.os.length e.oc] 35))) := (belowRefl w).alloc (Nat.le_refl _) _
 have HP : Hid (EnRows w ⟨mb, mkL e.os q1, e.oa, e.oc⟩) := hp
 have C1 : Hid (∀ W : World, Below w.heap.size w W → Calls Tryz.prog 35 #[.agg #[.slice e.b.va e.b.vs.length e.b.vc, .slice e.b.pa e.b.ps.length e.b.pc, .slice e.b.qa e.b.qs.length e.b.qc, .int .i64 e.b.cs, .int .i64 e.b.nx], .int .i64 1] W fun ex w' => ex = .returned (.int .i64 (q1 : Int)) ∧ Below W.heap.size W w') := fun W h => hh W (HP.out.below h).b
 have C2 : Hid (∀ W : World, Below w.heap.size w W → Calls Tryz.prog 36 #[.slice e.oa e.os.length e.oc, .int .i64 (q1 : Int)] W fun ex w' => ex = .returned (.int .i64 (q : Int)) ∧ Below W.heap.size W w') := fun W h => by
  have k := heldL e.os e.oa e.oc e.os.length q1 rfl hf.ol (fun y hy => hf.o.2 _ (List.mem_map.2 ⟨y, hy, rfl⟩)) hq1.1 hq1.2 W (HP.out.below h).o
  rw [← hq] at k
  exact k
 have hn1 : ¬ (q1 : Int) < 0 := by omega
 have hn2 : ¬ (q : Int) < 0 := by omega
 clear hp hf hh hq HP hq1
 go_enter Tryz.func14, Tryz.ntmps14
 have x0 := BA0.out.c0
 have x1 := BA0.out.c1
 have x2 := BA0.out.c2
 have x3 := BA0.out.c3
 have x4 := BA0.out.c4
 go_wp2_with fail
 refine (C1.out _ HB0.out).mono ?_
 rintro ex w1 ⟨rfl, hb⟩
 have HB1 : Hid (Below w.heap.size w w1) := HB0.out.trans (hb.mono HB0.out.size)
 have BA1 : Hid (Bx w1 w.heap.size [.slice e.b.va e.b.vs.length e.b.vc, .slice e.b.pa e.b.ps.length e.b.pc, .slice e.b.qa e.b.qs.length e.b.qc, .int .i64 e.b.cs, .int .i64 e.b.nx, .slice e.oa e.os.length e.oc]) := BA0.out.below hb
 clear hb HB0 BA0
 clear x0 x1 x2 x3 x4
 have x5 := BA1.out.c5
 go_wp2_with fail
 refine (C2.out _ HB1.out).mono ?_
 rintro ex w2 ⟨rfl, hb⟩
 have HB2 : Hid (Below w.heap.size w w2) := HB1.out.trans (hb.mono HB1.out.size)
 clear hb HB1 BA1 x5
 go_wp2
 go_ret
 exact ⟨rfl, HB2.out⟩

set_option maxRecDepth 100000 in
set_option maxHeartbeats 2000000 in
theorem markE (e : En) (lo hi : Nat) (hf : EnFit e) (w : World) (hz : hi ≤ w.heap.size) (h : EnLie w lo hi e) :
  Calls Tryz.prog 13 #[.agg #[.slice e.b.va e.b.vs.length e.b.vc, .slice e.b.pa e.b.ps.length e.b.pc, .slice e.b.qa e.b.qs.length e.b.qc, .int .i64 e.b.cs, .int .i64 e.b.nx, .slice e.oa e.os.length e.oc], .int .i64 1] w fun ex w' => ∃ (q : Nat) (m : En), ex = .returned (.int .i64 (q : Int)) ∧ EnLie w' lo hi m ∧ Zn lo hi w w' ∧ (∀ W : World, EnRows W m → Calls Tryz.prog 14 #[.agg #[.slice e.b.va e.b.vs.length e.b.vc, .slice e.b.pa e.b.ps.length e.b.pc, .slice e.b.qa e.b.qs.length e.b.qc, .int .i64 e.b.cs, .int .i64 e.b.nx, .slice e.oa e.os.length e.oc], .int .i64 1] W fun ex w' => ex = .returned (.int .i64 (q : Int)) ∧ Below W.heap.size W w') := by
 have BA0 : Hid (Bx (w.alloc (.cells #[.slice e.b.va e.b.vs.length e.b.vc, .slice e.b.pa e.b.ps.length e.b.pc, .slice e.b.qa e.b.qs.length e.b.qc, .int .i64 e.b.cs, .int .i64 e.b.nx, .slice e.oa e.os.length e.oc] 35)) w.heap.size [.slice e.b.va e.b.vs.length e.b.vc, .slice e.b.pa e.b.ps.length e.b.pc, .slice e.b.qa e.b.qs.length e.b.qc, .int .i64 e.b.cs, .int .i64 e.b.nx, .slice e.oa e.os.length e.oc]) := Bx.new w [.slice e.b.va e.b.vs.length e.b.vc, .slice e.b.pa e.b.ps.length e.b.pc, .slice e.b.qa e.b.qs.length e.b.qc, .int .i64 e.b.cs, .int .i64 e.b.nx, .slice e.oa e.os.length e.oc] 35
 have hb0 : Below w.heap.size w (w.alloc (.cells #[.slice e.b.va e.b.vs.length e.b.vc, .slice e.b.pa e.b.ps.length e.b.pc, .slice e.b.qa e.b.qs.length e.b.qc, .int .i64 e.b.cs, .int .i64 e.b.nx, .slice e.oa e.os.length e.oc] 35)) := (belowRefl w).alloc (Nat.le_refl _) _
 have ZW0 : Hid (Zn lo hi w (w.alloc (.cells #[.slice e.b.va e.b.vs.length e.b.vc, .slice e.b.pa e.b.ps.length e.b.pc, .slice e.b.qa e.b.qs.length e.b.qc, .int .i64 e.b.cs, .int .i64 e.b.nx, .slice e.oa e.os.length e.oc] 35))) := Zn.ofBelow lo hi hb0
 obtain ⟨m, k1, k2, hB, hO⟩ := h.ex
 have RB0 : Hid (BLie (w.alloc (.cells #[.slice e.b.va e.b.vs.length e.b.vc, .slice e.b.pa e.b.ps.length e.b.pc, .slice e.b.qa e.b.qs.length e.b.qc, .int .i64 e.b.cs, .int .i64 e.b.nx, .slice e.oa e.os.length e.oc] 35)) lo m e.b) := hB.below hb0
 have RO0 : Hid (LLie (w.alloc (.cells #[.slice e.b.va e.b.vs.length e.b.vc, .slice e.b.pa e.b.ps.length e.b.pc, .slice e.b.qa e.b.qs.length e.b.qc, .int .i64 e.b.cs, .int .i64 e.b.nx, .slice e.oa e.os.length e.oc] 35)) m hi (.slice e.oa e.os.length e.oc) e.os) := hO.below hb0
 have S0 : Hid (hi ≤ (w.alloc (.cells #[.slice e.b.va e.b.vs.length e.b.vc, .slice e.b.pa e.b.ps.length e.b.pc, .slice e.b.qa e.b.qs.length e.b.qc, .int .i64 e.b.cs, .int .i64 e.b.nx, .slice e.oa e.os.length e.oc] 35)).heap.size) := Nat.le_trans hz hb0.size
 have HF : Hid (EnFit e) := hf
 clear h hB hO hb0 hf
 go_enter Tryz.func13, Tryz.ntmps13
 go_upto_region 1 with fail
 generalize (w.alloc (.cells #[.slice e.b.va e.b.vs.length e.b.vc, .slice e.b.pa e.b.ps.length e.b.pc, .slice e.b.qa e.b.qs.length e.b.qc, .int .i64 e.b.cs, .int .i64 e.b.nx, .slice e.oa e.os.length e.oc] 35)) = w0 at *
 have x0 := BA0.out.c0
 have x1 := BA0.out.c1
 have x2 := BA0.out.c2
 have x3 := BA0.out.c3
 have x4 := BA0.out.c4
 go_wp2_with fail
 refine (markB2 e.b lo m HF.out.b _ (Nat.le_trans k2 S0.out) RB0.out).mono ?_
 rintro ex w1 ⟨q1, mb, rfl, hq1, hmb, hz1, hh⟩
 have BA1 : Hid (Bx w1 w.heap.size [.slice e.b.va e.b.vs.length e.b.vc, .slice e.b.pa e.b.ps.length e.b.pc, .slice e.b.qa e.b.qs.length e.b.qc, .int .i64 e.b.cs, .int .i64 e.b.nx, .slice e.oa e.os.length e.oc]) := BA0.out.zn hz1 (by omega)
 have RB1 : Hid (BLie w1 lo m mb) := hmb
 have RO1 : Hid (LLie w1 m hi (.slice e.oa e.os.length e.oc) e.os) := RO0.out.zn hz1 (by omega)
 have ZW1 : Hid (Zn lo hi w w1) := ZW0.out.trans (hz1.mono (Nat.le_refl _) k2)
 have HH := hide hh
 have HQ1 := hide hq1
 clear hmb hz1 hh hq1 BA0 RB0 RO0 ZW0
 clear x0 x1 x2 x3 x4
 have x5 := BA1.out.c5
 obtain ⟨q, hq⟩ : ∃ q, q = q1 + wtL e.os := ⟨_, rfl⟩
 have CL : Hid (Calls Tryz.prog 34 #[.slice e.oa e.os.length e.oc, .int .i64 (q1 : Int)] w1 fun ex w' => ex = .returned (.int .i64 (q : Int)) ∧ LLie w' m hi (.slice e.oa e.os.length e.oc) (mkL e.os q1) ∧ Zn m hi w1 w') := by
  have k := markL e.os e.oa e.oc e.os.length m hi q1 rfl HF.out.ol (fun y hy => HF.out.o.2 _ (List.mem_map.2 ⟨y, hy, rfl⟩)) HQ1.out.1 HQ1.out.2 w1 RO1.out
  rw [← hq] at k
  exact k
 have HQ := hide hq
 clear hq
 go_wp2_with fail
 refine CL.out.mono ?_
 rintro ex w2 ⟨rfl, hml, hz2⟩
 have RB2 : Hid (BLie w2 lo m mb) := RB1.out.zn hz2 (by omega)
 have ZW2 : Hid (Zn lo hi w w2) := ZW1.out.trans (hz2.mono k1 (Nat.le_refl _))
 have RO2 : Hid (LLie w2 m hi (.slice e.oa e.os.length e.oc) (mkL e.os q1)) := hml
 clear hml hz2 BA1 RB1 RO1 ZW1 x5 CL
 go_wp2
 go_ret
 refine ⟨q, ⟨mb, mkL e.os q1, e.oa, e.oc⟩, rfl, ⟨m, k1, k2, RB2.out, ?_⟩, ZW2.out, fun W hW => heldE e HF.out mb q1 q HQ1.out HQ.out HH.out W hW⟩
 show LLie w2 m hi (.slice e.oa (mkL e.os q1).length e.oc) (mkL e.os q1)
 rw [mkL_len]
 exact RO2.out

end Go.Proofs.YtjeicgibddfifaaGreat

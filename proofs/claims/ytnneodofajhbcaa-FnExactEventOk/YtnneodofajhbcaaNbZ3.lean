/- Whether marks are held: lists of those that look and change. -/
import Derived.Test.YtnneodofajhbcaaNbZ2
import Derived.Deep.RegionHeld3
import Derived.Deep.Cut
import Derived.Deep.CutRange
namespace Go.Proofs.Ytnneodofajhbcaa
open Go.RowKit
open KM
attribute [local go_sem ↓] Go.wp_at_zero Go.wp_at_succ

theorem mkL_at (ys : List Ta) (k k0 : Nat) (h : k < ys.length) : (mkL ys k0)[k]'(by rw [mkL_len]; exact h) = mkTa ys[k] (k0 + wtL (ys.take k)) := by
  have e : ys = ys.take k ++ ys[k] :: ys.drop (k + 1) := by rw [← List.drop_eq_getElem_cons h, List.take_append_drop]
  have h1 : (mkL ys k0)[k]? = some (mkTa ys[k] (k0 + wtL (ys.take k))) := by
    conv => lhs; rw [e]
    rw [mkL_app, List.getElem?_append_right (by rw [mkL_len, List.length_take]; omega), mkL_len, List.length_take]
    have : k - min k ys.length = 0 := by omega
    rw [this]
    simp [mkL]
  have h2 := List.getElem?_eq_getElem (show k < (mkL ys k0).length by rw [mkL_len]; exact h)
  rw [h2] at h1
  exact Option.some.inj h1

set_option maxRecDepth 100000 in
set_option maxHeartbeats 6000000 in
theorem heldL (ys : List Ta) (a : Option Addr) (c n k0 : Nat) (hn : n = ys.length) (hnn : n ≤ 1048576) (hf : ∀ y ∈ ys, TFit y.t) (hk0 : 0 < k0) (hk1 : k0 ≤ 10000000000000000) (w : World) (h : TRows w a (mkL ys k0)) :
    Calls Try.prog 29 #[.slice a n c, .int .i64 k0] w fun e w' => e = .returned (.int .i64 ((k0 + wtL ys : Nat) : Int)) ∧ Below w.heap.size w w' := by
  have HN : Hid (n = ys.length) := hn
  have HF : Hid (∀ y ∈ ys, TFit y.t) := hf
  have HWB : Hid (wtL ys ≤ 5600000000000) := by show _ ≤ _; have h1 := wtL_fit ys hf; have h2 : ys.length * 5242886 ≤ 1048576 * 5242886 := Nat.mul_le_mul_right _ (by omega); omega
  have HP : Hid (TRows w a (mkL ys k0)) := h
  clear h hn hf
  go_enter Try.func29, Try.ntmps29
  go_wp2
  go_loopw [1, 5] (fun tk t wr => ∃ (k z : Nat), k ≤ n ∧ t = .int .i64 k ∧ tk = .int .i64 z ∧ Hid (z = k0 + wtL (ys.take k)) ∧ Hid (Below w.heap.size w wr)) (fun _ t _ => n - (intOf t).toNat)
  case atStart => exact ⟨0, k0, Nat.zero_le _, rfl, rfl, rfl, belowRefl w⟩
  case round =>
    obtain ⟨k, q0, hk, rfl, rfl, HQ, HB⟩ := hrel
    by_cases hlt : k < n
    · have hlt' : (k : Int) < (n : Int) := by omega
      have h0 : (0 : Int) ≤ (k : Int) := by omega
      have hky : k < ys.length := by rw [← HN.out]; exact hlt
      have hq0 : 0 < q0 := by have := HQ.out; omega
      have hq1 : q0 ≤ 20000000000000000 := by have := HQ.out; have := wtL_take ys k; have := HWB.out; omega
      have HNX : Hid (q0 + wt ys[k] = k0 + wtL (ys.take (k + 1))) := by show _ = _; rw [HQ.out, wtL_next ys k hky]; omega
      have hfx := HF.out _ (List.getElem_mem hky)
      obtain ⟨b, o, rfl, hbl, hc, hrow⟩ := (HP.out.below HB.out).cls k (by rw [mkL_len]; exact hky)
      rw [mkL_at ys k k0 hky, ← HQ.out] at hc hrow
      obtain ⟨x, hx⟩ : ∃ x, x = ys[k] := ⟨_, rfl⟩
      rw [← hx] at HNX hfx hc hrow
      clear hx
      have hr8 : x.t.rs.length ≤ 1048576 := hfx.1
      have hw8 : x.t.ws.length ≤ 1048576 := hfx.2.2.1
      have RR : Hid (GRow encR wr x.ra (mkR (q0 + 4) x.t.rs.length)) := hrow.r
      have RW : Hid (GRow encW wr x.wa (mkW (q0 + 4 + 2 * x.t.rs.length) x.t.ws.length)) := hrow.w
      have r0 : wr.cell? ⟨b, o + k * 8, none⟩ = some (.int .i64 ((q0 : Int))) := by rw [hc.c0]; congr 2
      have n0 := ne_self_int ((q0 : Int))
      have r1 : wr.cell? ⟨b, o + k * 8 + 1, none⟩ = some (.int .i64 ((q0 : Int) + 1)) := by rw [hc.c1]; congr 2
      have n1 := ne_self_int ((q0 : Int) + 1)
      have r2 : wr.cell? ⟨b, o + k * 8 + 2, none⟩ = some (.int .i64 ((q0 : Int) + 1 + 1)) := by rw [hc.c2]; congr 2
      have n2 := ne_self_int ((q0 : Int) + 1 + 1)
      have r3 : wr.cell? ⟨b, o + k * 8 + 3, none⟩ = some (.int .i64 ((q0 : Int) + 1 + 1 + 1)) := by rw [hc.c3]; congr 2
      have n3 := ne_self_int ((q0 : Int) + 1 + 1 + 1)
      have r4 : wr.cell? ⟨b, o + k * 8 + 4, none⟩ = some (.slice x.ra x.t.rs.length x.rc) := by rw [hc.c4]; congr 2; exact mkR_len _ _
      have C5 : Hid (wr.cell? ⟨b, o + k * 8 + 5, none⟩ = some (.slice x.wa x.t.ws.length x.wc)) := by show _ = _; rw [hc.c5]; congr 2; exact mkW_len _ _
      have C6 : Hid (wr.cell? ⟨b, o + k * 8 + 6, none⟩ = some (.bool (ouQ (q0 + 4 + 2 * x.t.rs.length + 3 * x.t.ws.length)))) := hc.c6
      have C7 : Hid (wr.cell? ⟨b, o + k * 8 + 7, none⟩ = some (.string (mkB (q0 + 4 + 2 * x.t.rs.length + 3 * x.t.ws.length + 1)))) := hc.c7
      have E4 : Hid ((q0 : Int) + 1 + 1 + 1 + 1 = ((q0 + 4 : Nat) : Int)) := by show _ = _; omega
      clear hc hrow hfx
      go_wp2_with fail
      rw [E4.out]
      refine (heldR x.t.rs.length (q0 + 4) x.ra x.rc (by omega) (by omega) (by omega) _ RR.out).mono ?_
      rintro e w1 ⟨rfl, hb⟩
      have HB1 : Hid (Below wr.heap.size wr w1) := hb
      clear hb r0 r1 r2 r3 r4 n0 n1 n2 n3 E4 RR
      obtain ⟨k4, hk4⟩ : ∃ k4, k4 = q0 + 4 + 2 * x.t.rs.length := ⟨_, rfl⟩
      rw [← hk4] at RW C6 C7 ⊢
      have HK4 : Hid (k4 = q0 + 4 + 2 * x.t.rs.length) := hk4
      have hk40 : 0 < k4 := by omega
      have hk41 : k4 ≤ 30000000000000000 := by omega
      have hk4n : ¬ (k4 : Int) < 0 := by omega
      clear hk4
      have r5 := (HB1.out.cell (p := ⟨b, o + k * 8 + 5, none⟩) hbl).trans C5.out
      go_wp2_with fail
      refine (heldW x.t.ws.length k4 x.wa x.wc (by omega) (by omega) (by omega) _ (RW.out.below HB1.out)).mono ?_
      rintro e w2 ⟨rfl, hb⟩
      have HB2 : Hid (Below wr.heap.size wr w2) := HB1.out.trans (hb.mono HB1.out.size)
      clear hb r5 RW C5 HB1
      obtain ⟨k5, hk5⟩ : ∃ k5, k5 = k4 + 3 * x.t.ws.length := ⟨_, rfl⟩
      rw [← hk5] at C6 C7 ⊢
      have HK5 : Hid (k5 = q0 + 4 + 2 * x.t.rs.length + 3 * x.t.ws.length) := by show _ = _; rw [hk5, HK4.out]
      have hk50 : 0 < k5 := by omega
      have hk51 : k5 ≤ 40000000000000000 := by omega
      have hk5n : ¬ (k5 : Int) < 0 := by omega
      clear hk5
      have r6 := (HB2.out.cell (p := ⟨b, o + k * 8 + 6, none⟩) hbl).trans C6.out
      have r7 := (HB2.out.cell (p := ⟨b, o + k * 8 + 7, none⟩) hbl).trans C7.out
      have eg := ouQ_eq k5
      have bg := bne_self' (ouQ k5)
      have E5 : Hid ((k5 : Int) + 1 = ((k5 + 1 : Nat) : Int)) := by show _ = _; omega
      have e5 : IntKind.i64.wrap ((k5 : Int) + 1) = (k5 : Int) + 1 := by rw [IntKind.wrap_i64]; omega
      have tn := bne_text (mkB (k5 + 1))
      go_wp2
      refine wp_region_held_drew (S := fun w' => w'.cell? ⟨b, o + k * 8 + 7, none⟩ = some (.string (mkB (k5 + 1)))) (by kernel_rfl) r7 (fun hHeld => ?_)
      (refine wpAnyH_take (i := 0) (v := ?_) rfl (by kernel_rfl) (by kernel_rfl) (by kernel_rfl) (fun _ _ _ h => h) (Or.inl ⟨by rfl, ?_⟩) (by assumption) ?_; rotate_left; (focus (intro w hSw; (try dsimp only at hSw); go_simp; (try with_reducible rfl); done)); simp only [Act.put, List.getElem_toArray, List.getElem_cons_zero, List.setIfInBounds_toArray, List.set_cons_zero, List.set_cons_succ])
      (refine wpAnyH_take (i := 1) (v := ?_) rfl (by kernel_rfl) (by kernel_rfl) (by kernel_rfl) (fun _ _ _ h => h) (Or.inl ⟨by rfl, ?_⟩) (by assumption) ?_; rotate_left; (focus (intro w hSw; (try dsimp only at hSw); go_simp; (try with_reducible rfl); done)); simp only [Act.put, List.getElem_toArray, List.getElem_cons_zero, List.getElem_cons_succ, List.setIfInBounds_toArray, List.set_cons_zero, List.set_cons_succ])
      (refine wpAnyH_take (i := 2) (v := ?_) rfl (by kernel_rfl) (by kernel_rfl) (by kernel_rfl) (fun _ _ _ h => h) (Or.inl ⟨by rfl, ?_⟩) (by assumption) ?_; rotate_left; (focus (intro w hSw; (try dsimp only at hSw); go_simp; (try with_reducible rfl); done)); simp only [Act.put, List.getElem_toArray, List.getElem_cons_zero, List.getElem_cons_succ, List.setIfInBounds_toArray, List.set_cons_zero, List.set_cons_succ])
      (refine wpAnyH_take (i := 3) (v := ?_) rfl (by kernel_rfl) (by kernel_rfl) (by kernel_rfl) (fun _ _ _ h => h) (Or.inl ⟨by rfl, ?_⟩) (by assumption) ?_; rotate_left; (focus (intro w hSw; (try dsimp only at hSw); go_simp; (try with_reducible rfl); done)); simp only [Act.put, List.getElem_toArray, List.getElem_cons_zero, List.getElem_cons_succ, List.setIfInBounds_toArray, List.set_cons_zero, List.set_cons_succ])
      (refine wpAnyH_take (i := 4) (v := ?_) rfl (by kernel_rfl) (by kernel_rfl) (by kernel_rfl) (fun _ _ _ h => h) (Or.inl ⟨by rfl, ?_⟩) (by assumption) ?_; rotate_left; (focus (intro w hSw; (try dsimp only at hSw); go_simp; (try with_reducible rfl); done)); simp only [Act.put, List.getElem_toArray, List.getElem_cons_zero, List.getElem_cons_succ, List.setIfInBounds_toArray, List.set_cons_zero, List.set_cons_succ])
      (refine wpAnyH_take (i := 5) (v := ?_) rfl (by kernel_rfl) (by kernel_rfl) (by kernel_rfl) (fun _ _ _ h => h) (Or.inl ⟨by rfl, ?_⟩) (by assumption) ?_; rotate_left; (focus (intro w hSw; (try dsimp only at hSw); go_simp; (try with_reducible rfl); done)); simp only [Act.put, List.getElem_toArray, List.getElem_cons_zero, List.getElem_cons_succ, List.setIfInBounds_toArray, List.set_cons_zero, List.set_cons_succ])
      refine wpAnyH_ready (rs := [6]) (by kernel_rfl) (by simp) ?_
      refine AllReadyH.cons rfl (fun K hK => ?_) AllReadyH.nil
      go_simp
      go_wp2_with fail
      rw [E5.out]
      refine (mark87 (k5 + 1) (by omega) (by omega) _).mono ?_
      rintro e w3 ⟨rfl, hbm⟩
      have HB3 : Hid (Below wr.heap.size wr w3) := HB2.out.trans ((undrew hbm).mono HB2.out.size)
      clear hbm
      have s7 := (HB3.out.cell (p := ⟨b, o + k * 8 + 7, none⟩) hbl).trans C7.out
      go_wp2_with fail
      refine hK.out _ _ s7 (fun hHeld2 => ?_)
      clear hK K
      (refine wpAnyH_take (i := 7) (v := ?_) rfl (by kernel_rfl) (by kernel_rfl) (by kernel_rfl) (fun _ _ _ h => h) (Or.inl ⟨by rfl, ?_⟩) (by assumption) ?_; rotate_left; (focus (intro w hSw; (try dsimp only at hSw); go_simp; (try with_reducible rfl); done)); simp only [Act.put, List.getElem_toArray, List.getElem_cons_zero, List.getElem_cons_succ, List.setIfInBounds_toArray, List.set_cons_zero, List.set_cons_succ])
      refine wpAnyH_done (by kernel_rfl) ?_ _
      have HZ2 : Hid (k5 + 2 = k0 + wtL (ys.take (k + 1))) := by show _ = _; rw [← HNX.out, HK5.out]; unfold wt; omega
      have en : (k5 : Int) + 1 + 1 = ((k5 + 2 : Nat) : Int) := by omega
      have HBn : Hid (Below w.heap.size w w3) := HB.out.trans (HB3.out.mono HB.out.size)
      clear r6 r7 s7 C6 C7
      go_wp2
      go_roundw
      case rel => exact ⟨k + 1, k5 + 2, by omega, by go_num, by go_num, HZ2, HBn⟩
      case measure => simp [intOf]; omega
    · have hd : ¬ (k : Int) < (n : Int) := by omega
      have eT : ys.take k = ys := List.take_of_length_le (by rw [← HN.out]; omega)
      rw [eT] at HQ
      have HE : Hid (q0 = k0 + wtL ys) := HQ.out
      clear HQ eT
      go_wp2
      go_ret
      exact ⟨ret_int (by have := HE.out; omega), HB.out⟩


end Go.Proofs.Ytnneodofajhbcaa

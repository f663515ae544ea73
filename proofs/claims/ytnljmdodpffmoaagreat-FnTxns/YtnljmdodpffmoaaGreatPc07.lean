/- What spec.WritesOk returns. -/
import Derived.Test.YtnljmdodpffmoaaGreatPc01
import Derived.Test.YtnljmdodpffmoaaGreatPc06
namespace Go.Proofs.YtnljmdodpffmoaaGreat
open Go.RowKit
open KM
attribute [local go_sem ↓] Go.wp_at_zero Go.wp_at_succ

set_option maxRecDepth 100000 in
set_option maxHeartbeats 4000000 in
theorem swrites (xs : List Wt) (a : Option Addr) (c : Nat) (hn : xs.length ≤ 100000000) (hf : WFit xs) (w : World) (hp : GRow encW w a xs) :
  Calls Tryz.prog 51 #[.slice a xs.length c] w fun e w' => e = .returned (.bool (writesB xs)) ∧ Below w.heap.size w w' := by
 have HP : Hid (GRow encW w a xs) := hp
 clear hp
 have HF : Hid (WFit xs) := hf
 clear hf
 go_enter Tryz.func51, Tryz.ntmps51
 go_wp2
 go_loopw [3] (fun t wr => ∃ k : Nat, k ≤ xs.length ∧ t = .int .i64 k ∧ Hid (Good xs k) ∧ Hid (Below w.heap.size w wr)) (fun t _ => xs.length - (intOf t).toNat)
 case atStart => exact ⟨0, Nat.zero_le _, rfl, fun j hj h => by omega, belowRefl w⟩
 case round =>
  obtain ⟨k, hk, rfl, HG, HB⟩ := hrel
  by_cases hlt : k < xs.length
  ·have hlt' : (k : Int) < (xs.length : Int) := by omega
   have hk0 : (0 : Int) ≤ (k : Int) := by omega
   have HR : Hid (GRow encW wr a xs) := HP.out.below HB.out
   obtain ⟨b, off, rfl, hbl, hc⟩ := HR.out (by omega)
   have c0 := (wat hc k hlt).1
   have c1 := (wat hc k hlt).2.1
   have c2 := (wat hc k hlt).2.2
   have HC : Hid (∀ j (hj : j < xs.length), wr.cell? ⟨b, off + j * 3, none⟩ = some (.string xs[j].1)) := fun j hj => (wat hc j hj).1
   clear hc
   have HB1 : Hid (Below w.heap.size w wr) := HB.out
   have HZ : Hid (xs[k].1.size ≤ 1048576) := (HF.out _ (List.getElem_mem hlt)).1
   cases hw : writeB xs[k]
   ·have C1 : Hid (∀ w, Calls Tryz.prog 49 #[.agg #[.string xs[k].1, .string xs[k].2.1, .bool xs[k].2.2]] w fun e w' => e = .returned (.bool false) ∧ Below w.heap.size w w') := fun w => hw ▸ swrite xs[k].1 xs[k].2.1 xs[k].2.2 HZ.out w
    have HN : Hid (writesB xs = false) := good_no k hlt (fun h => by rw [hw] at h; cases h.1)
    clear hw
    go_wp2
    refine wp_region_held_drew (S := fun w' => w'.cell? ⟨b, off + k * 3, none⟩ = some (.string xs[k].1) ∧ w'.cell? ⟨b, off + k * 3 + 1, none⟩ = some (.string xs[k].2.1) ∧ w'.cell? ⟨b, off + k * 3 + 2, none⟩ = some (.bool xs[k].2.2)) (by kernel_rfl) ⟨c0, c1, c2⟩ (fun hHeld => ?_)
    (refine tk 0 ?_ rfl (Or.inl ⟨by rfl, ?_⟩) ?_; rotate_left; (focus (intro w h; (try dsimp only at h); go_simp; (try with_reducible rfl))); simp only [Act.put, tA, tB, tD, tE, tF])
    (refine tk 1 ?_ rfl (Or.inl ⟨by rfl, ?_⟩) ?_; rotate_left; (focus (intro w h; (try dsimp only at h); go_simp; (try with_reducible rfl))); simp only [Act.put, tA, tB, tC, tD, tE, tF])
    (refine tk 2 ?_ rfl (Or.inl ⟨by rfl, ?_⟩) ?_; rotate_left; (focus (intro w h; (try dsimp only at h); go_simp; (try with_reducible rfl))); simp only [Act.put, tA, tB, tC, tD, tE, tF])
    (refine tk 3 ?_ rfl (Or.inl ⟨by rfl, ?_⟩) ?_; rotate_left; (focus (intro w h; (try dsimp only at h); go_simp; (try with_reducible rfl))); simp only [Act.put, tA, tB, tC, tD, tE, tF])
    refine wpAnyH_ready (rs := [4]) (by kernel_rfl) (by simp) ?_
    refine AllReadyH.cons rfl (fun K hK => ?_) AllReadyH.nil
    go_simp
    go_wp2_with (go_at_call 49; refine (C1.out _).mono ?_; rintro e w2 ⟨rfl, hb2⟩; have q0 := ((undrew hb2).cell (p := ⟨b, off + k * 3, none⟩) hbl).trans c0; have q1 := ((undrew hb2).cell (p := ⟨b, off + k * 3 + 1, none⟩) hbl).trans c1; have q2 := ((undrew hb2).cell (p := ⟨b, off + k * 3 + 2, none⟩) hbl).trans c2)
    refine hK.out _ _ ⟨q0, q1, q2⟩ (fun hHeld2 => ?_)
    clear hK K
    (refine tk 5 ?_ rfl (Or.inl ⟨by rfl, ?_⟩) ?_; rotate_left; (focus (intro w h; (try dsimp only at h); go_simp; (try with_reducible rfl))); simp only [Act.put, tA, tB, tC, tD, tE, tF])
    (refine tk 6 ?_ rfl (Or.inl ⟨by rfl, ?_⟩) ?_; rotate_left; (focus (intro w h; (try dsimp only at h); go_simp; (try with_reducible rfl))); simp only [Act.put, tA, tB, tC, tD, tE, tF])
    (refine tk 7 undef rfl (Or.inr ⟨by rfl, rfl⟩) ?_; simp only [Act.put, tA, tB, tC, tD, tE, tF])
    (refine tk 8 undef rfl (Or.inr ⟨by rfl, rfl⟩) ?_; simp only [Act.put, tA, tB, tC, tD, tE, tF])
    (refine tk 9 undef rfl (Or.inr ⟨by rfl, rfl⟩) ?_; simp only [Act.put, tA, tB, tC, tD, tE, tF])
    (refine tk 10 undef rfl (Or.inr ⟨by rfl, rfl⟩) ?_; simp only [Act.put, tA, tB, tC, tD, tE, tF])
    (refine tk 11 undef rfl (Or.inr ⟨by rfl, rfl⟩) ?_; simp only [Act.put, tA, tB, tC, tD, tE, tF])
    (refine tk 12 undef rfl (Or.inr ⟨by rfl, rfl⟩) ?_; simp only [Act.put, tA, tB, tC, tD, tE, tF])
    (refine tk 13 undef rfl (Or.inr ⟨by rfl, rfl⟩) ?_; simp only [Act.put, tA, tB, tC, tD, tE, tF])
    (refine tk 14 undef rfl (Or.inr ⟨by rfl, rfl⟩) ?_; simp only [Act.put, tA, tB, tC, tD, tE, tF])
    (refine tk 15 undef rfl (Or.inr ⟨by rfl, rfl⟩) ?_; simp only [Act.put, tA, tB, tC, tD, tE, tF])
    (refine tk 16 undef rfl (Or.inr ⟨by rfl, rfl⟩) ?_; simp only [Act.put, tA, tB, tC, tD, tE, tF])
    (refine tk 17 undef rfl (Or.inr ⟨by rfl, rfl⟩) ?_; simp only [Act.put, tA, tB, tC, tD, tE, tF])
    (refine tk 18 undef rfl (Or.inr ⟨by rfl, rfl⟩) ?_; simp only [Act.put, tA, tB, tC, tD, tE, tF])
    (refine tk 19 undef rfl (Or.inr ⟨by rfl, rfl⟩) ?_; simp only [Act.put, tA, tB, tC, tD, tE, tF])
    (refine tk 20 undef rfl (Or.inr ⟨by rfl, rfl⟩) ?_; simp only [Act.put, tA, tB, tC, tD, tE, tF])
    (refine tk 21 undef rfl (Or.inr ⟨by rfl, rfl⟩) ?_; simp only [Act.put, tA, tB, tC, tD, tE, tF])
    (refine tk 22 undef rfl (Or.inr ⟨by rfl, rfl⟩) ?_; simp only [Act.put, tA, tB, tC, tD, tE, tF])
    (refine tk 23 ?_ rfl (Or.inl ⟨by rfl, ?_⟩) ?_; rotate_left; (focus (intro w h; (try dsimp only at h); go_simp; (try with_reducible rfl))); simp only [Act.put, tA, tB, tC, tD, tE, tF])
    refine wpAnyH_done (by kernel_rfl) ?_ _
    go_wp2
    go_ret
    exact ⟨ret_bool HN.out.symm, HB1.out.trans ((undrew hb2).mono HB1.out.size)⟩
   ·have C1 : Hid (∀ w, Calls Tryz.prog 49 #[.agg #[.string xs[k].1, .string xs[k].2.1, .bool xs[k].2.2]] w fun e w' => e = .returned (.bool true) ∧ Below w.heap.size w w') := fun w => hw ▸ swrite xs[k].1 xs[k].2.1 xs[k].2.2 HZ.out w
    by_cases hz : k = 0
    ·have hz' : ¬ (0 : Int) < (k : Int) := by omega
     have HG2 : Hid (Good xs (k + 1)) := good_more HG.out hlt ⟨hw, fun h => by omega⟩
     clear hw hz
     go_wp2
     have hzd : decide (0 < k) = false := by simp; omega
     refine wp_region_held_drew (S := fun w' => w'.cell? ⟨b, off + k * 3, none⟩ = some (.string xs[k].1) ∧ w'.cell? ⟨b, off + k * 3 + 1, none⟩ = some (.string xs[k].2.1) ∧ w'.cell? ⟨b, off + k * 3 + 2, none⟩ = some (.bool xs[k].2.2)) (by kernel_rfl) ⟨c0, c1, c2⟩ (fun hHeld => ?_)
     (refine tk 0 ?_ rfl (Or.inl ⟨by rfl, ?_⟩) ?_; rotate_left; (focus (intro w h; (try dsimp only at h); go_simp; (try with_reducible rfl))); simp only [Act.put, tA, tB, tD, tE, tF])
     (refine tk 1 ?_ rfl (Or.inl ⟨by rfl, ?_⟩) ?_; rotate_left; (focus (intro w h; (try dsimp only at h); go_simp; (try with_reducible rfl))); simp only [Act.put, tA, tB, tC, tD, tE, tF])
     (refine tk 2 ?_ rfl (Or.inl ⟨by rfl, ?_⟩) ?_; rotate_left; (focus (intro w h; (try dsimp only at h); go_simp; (try with_reducible rfl))); simp only [Act.put, tA, tB, tC, tD, tE, tF])
     (refine tk 3 ?_ rfl (Or.inl ⟨by rfl, ?_⟩) ?_; rotate_left; (focus (intro w h; (try dsimp only at h); go_simp; (try with_reducible rfl))); simp only [Act.put, tA, tB, tC, tD, tE, tF])
     refine wpAnyH_ready (rs := [4]) (by kernel_rfl) (by simp) ?_
     refine AllReadyH.cons rfl (fun K hK => ?_) AllReadyH.nil
     go_simp
     go_wp2_with (go_at_call 49; refine (C1.out _).mono ?_; rintro e w2 ⟨rfl, hb2⟩; have q0 := ((undrew hb2).cell (p := ⟨b, off + k * 3, none⟩) hbl).trans c0; have q1 := ((undrew hb2).cell (p := ⟨b, off + k * 3 + 1, none⟩) hbl).trans c1; have q2 := ((undrew hb2).cell (p := ⟨b, off + k * 3 + 2, none⟩) hbl).trans c2)
     refine hK.out _ _ ⟨q0, q1, q2⟩ (fun hHeld2 => ?_)
     clear hK K
     (refine tk 5 ?_ rfl (Or.inl ⟨by rfl, ?_⟩) ?_; rotate_left; (focus (intro w h; (try dsimp only at h); go_simp; (try with_reducible rfl))); simp only [Act.put, tA, tB, tC, tD, tE, tF])
     (refine tk 6 ?_ rfl (Or.inl ⟨by rfl, ?_⟩) ?_; rotate_left; (focus (intro w h; (try dsimp only at h); go_simp; (try with_reducible rfl))); simp only [Act.put, tA, tB, tC, tD, tE, tF])
     (refine tk 7 ?_ rfl (Or.inl ⟨by rfl, ?_⟩) ?_; rotate_left; (focus (intro w h; (try dsimp only at h); go_simp; (try with_reducible rfl))); simp only [Act.put, tA, tB, tC, tD, tE, tF])
     (refine tk 8 ?_ rfl (Or.inl ⟨by rfl, ?_⟩) ?_; rotate_left; (focus (intro w h; (try dsimp only at h); go_simp; (try with_reducible rfl))); simp only [Act.put, tA, tB, tC, tD, tE, tF])
     (refine tk 9 ?_ rfl (Or.inl ⟨by rfl, ?_⟩) ?_; rotate_left; (focus (intro w h; (try dsimp only at h); go_simp; (try with_reducible rfl))); simp only [Act.put, tA, tB, tC, tD, tE, tF])
     (refine tk 10 undef rfl (Or.inr ⟨by rfl, rfl⟩) ?_; simp only [Act.put, tA, tB, tC, tD, tE, tF])
     (refine tk 11 undef rfl (Or.inr ⟨by rfl, rfl⟩) ?_; simp only [Act.put, tA, tB, tC, tD, tE, tF])
     (refine tk 12 undef rfl (Or.inr ⟨by rfl, rfl⟩) ?_; simp only [Act.put, tA, tB, tC, tD, tE, tF])
     (refine tk 13 undef rfl (Or.inr ⟨by rfl, rfl⟩) ?_; simp only [Act.put, tA, tB, tC, tD, tE, tF])
     (refine tk 14 undef rfl (Or.inr ⟨by rfl, rfl⟩) ?_; simp only [Act.put, tA, tB, tC, tD, tE, tF])
     (refine tk 15 undef rfl (Or.inr ⟨by rfl, rfl⟩) ?_; simp only [Act.put, tA, tB, tC, tD, tE, tF])
     (refine tk 16 undef rfl (Or.inr ⟨by rfl, rfl⟩) ?_; simp only [Act.put, tA, tB, tC, tD, tE, tF])
     (refine tk 17 undef rfl (Or.inr ⟨by rfl, rfl⟩) ?_; simp only [Act.put, tA, tB, tC, tD, tE, tF])
     (refine tk 18 undef rfl (Or.inr ⟨by rfl, rfl⟩) ?_; simp only [Act.put, tA, tB, tC, tD, tE, tF])
     (refine tk 19 undef rfl (Or.inr ⟨by rfl, rfl⟩) ?_; simp only [Act.put, tA, tB, tC, tD, tE, tF])
     (refine tk 20 undef rfl (Or.inr ⟨by rfl, rfl⟩) ?_; simp only [Act.put, tA, tB, tC, tD, tE, tF])
     (refine tk 21 undef rfl (Or.inr ⟨by rfl, rfl⟩) ?_; simp only [Act.put, tA, tB, tC, tD, tE, tF])
     (refine tk 22 ?_ rfl (Or.inl ⟨by rfl, ?_⟩) ?_; rotate_left; (focus (intro w h; (try dsimp only at h); go_simp; (try with_reducible rfl))); simp only [Act.put, tA, tB, tC, tD, tE, tF])
     (refine tk 23 ?_ rfl (Or.inl ⟨by rfl, ?_⟩) ?_; rotate_left; (focus (intro w h; (try dsimp only at h); go_simp; (try with_reducible rfl))); simp only [Act.put, tA, tB, tC, tD, tE, tF])
     refine wpAnyH_done (by kernel_rfl) ?_ _
     go_wp2
     go_roundw
     case rel => exact ⟨k + 1, by omega, by go_num, HG2, HB1.out.trans ((undrew hb2).mono HB1.out.size)⟩
     case measure => simp [intOf]; omega
    ·obtain ⟨m, hm⟩ : ∃ m, m + 1 = k := ⟨k - 1, by omega⟩
     have HM : Hid (m + 1 = k) := hm
     have hml : m < xs.length := by omega
     have hz' : (0 : Int) < (k : Int) := by omega
     have e9 : IntKind.i64.wrap ((k : Int) - 1) = (m : Int) := by rw [IntKind.wrap_i64]; omega
     have e10 : (k : Int) - 1 = (m : Int) := by omega
     have hm0 : (0 : Int) ≤ (m : Int) := by omega
     have hml' : (m : Int) < (xs.length : Int) := by omega
     have EM : Hid (xs[k - 1]'(Nat.lt_of_le_of_lt (Nat.sub_le _ _) hlt) = xs[m]) := by show _ = _; congr 1; omega
     have p0 := HC.out m hml
     cases hl : lt xs[m].1 xs[k].1
     ·have hl' : (!Op.bytesLess xs[m].1.toList xs[k].1.toList) = true := by show (!lt xs[m].1 xs[k].1) = true; rw [hl]; rfl
      have HN : Hid (writesB xs = false) := good_no k hlt (fun h => by have := h.2 (by omega); rw [EM.out, hl] at this; cases this)
      clear hw hz hm hl
      go_wp2
      have hzd : decide (0 < k) = true := by have := HM.out; simp; omega
      have e11 : IntKind.i64.wrap (m : Int) = (m : Int) := by rw [IntKind.wrap_i64]; omega
      refine wp_region_held_drew (S := fun w' => w'.cell? ⟨b, off + k * 3, none⟩ = some (.string xs[k].1) ∧ w'.cell? ⟨b, off + k * 3 + 1, none⟩ = some (.string xs[k].2.1) ∧ w'.cell? ⟨b, off + k * 3 + 2, none⟩ = some (.bool xs[k].2.2) ∧ w'.cell? ⟨b, off + m * 3, none⟩ = some (.string xs[m].1)) (by kernel_rfl) ⟨c0, c1, c2, p0⟩ (fun hHeld => ?_)
      (refine tk 0 ?_ rfl (Or.inl ⟨by rfl, ?_⟩) ?_; rotate_left; (focus (intro w h; (try dsimp only at h); go_simp; (try with_reducible rfl))); simp only [Act.put, tA, tB, tD, tE, tF])
      (refine tk 1 ?_ rfl (Or.inl ⟨by rfl, ?_⟩) ?_; rotate_left; (focus (intro w h; (try dsimp only at h); go_simp; (try with_reducible rfl))); simp only [Act.put, tA, tB, tC, tD, tE, tF])
      (refine tk 2 ?_ rfl (Or.inl ⟨by rfl, ?_⟩) ?_; rotate_left; (focus (intro w h; (try dsimp only at h); go_simp; (try with_reducible rfl))); simp only [Act.put, tA, tB, tC, tD, tE, tF])
      (refine tk 3 ?_ rfl (Or.inl ⟨by rfl, ?_⟩) ?_; rotate_left; (focus (intro w h; (try dsimp only at h); go_simp; (try with_reducible rfl))); simp only [Act.put, tA, tB, tC, tD, tE, tF])
      refine wpAnyH_ready (rs := [4]) (by kernel_rfl) (by simp) ?_
      refine AllReadyH.cons rfl (fun K hK => ?_) AllReadyH.nil
      go_simp
      go_wp2_with (go_at_call 49; refine (C1.out _).mono ?_; rintro e w2 ⟨rfl, hb2⟩; have q0 := ((undrew hb2).cell (p := ⟨b, off + k * 3, none⟩) hbl).trans c0; have q1 := ((undrew hb2).cell (p := ⟨b, off + k * 3 + 1, none⟩) hbl).trans c1; have q2 := ((undrew hb2).cell (p := ⟨b, off + k * 3 + 2, none⟩) hbl).trans c2; have q3 := ((undrew hb2).cell (p := ⟨b, off + m * 3, none⟩) hbl).trans p0)
      refine hK.out _ _ ⟨q0, q1, q2, q3⟩ (fun hHeld2 => ?_)
      clear hK K
      (refine tk 5 ?_ rfl (Or.inl ⟨by rfl, ?_⟩) ?_; rotate_left; (focus (intro w h; (try dsimp only at h); go_simp; (try with_reducible rfl))); simp only [Act.put, tA, tB, tC, tD, tE, tF])
      (refine tk 6 ?_ rfl (Or.inl ⟨by rfl, ?_⟩) ?_; rotate_left; (focus (intro w h; (try dsimp only at h); go_simp; (try with_reducible rfl))); simp only [Act.put, tA, tB, tC, tD, tE, tF])
      (refine tk 7 ?_ rfl (Or.inl ⟨by rfl, ?_⟩) ?_; rotate_left; (focus (intro w h; (try dsimp only at h); go_simp; (try with_reducible rfl))); simp only [Act.put, tA, tB, tC, tD, tE, tF])
      (refine tk 8 ?_ rfl (Or.inl ⟨by rfl, ?_⟩) ?_; rotate_left; (focus (intro w h; (try dsimp only at h); go_simp; (try with_reducible rfl))); simp only [Act.put, tA, tB, tC, tD, tE, tF])
      (refine tk 9 ?_ rfl (Or.inl ⟨by rfl, ?_⟩) ?_; rotate_left; (focus (intro w h; (try dsimp only at h); go_simp; (try with_reducible rfl))); simp only [Act.put, tA, tB, tC, tD, tE, tF])
      (refine tk 10 ?_ rfl (Or.inl ⟨by rfl, ?_⟩) ?_; rotate_left; (focus (intro w h; (try dsimp only at h); go_simp; (try with_reducible rfl))); simp only [Act.put, tA, tB, tC, tD, tE, tF])
      (refine tk 11 ?_ rfl (Or.inl ⟨by rfl, ?_⟩) ?_; rotate_left; (focus (intro w h; (try dsimp only at h); go_simp; (try with_reducible rfl))); simp only [Act.put, tA, tB, tC, tD, tE, tF])
      (refine tk 12 ?_ rfl (Or.inl ⟨by rfl, ?_⟩) ?_; rotate_left; (focus (intro w h; (try dsimp only at h); go_simp; (try with_reducible rfl))); simp only [Act.put, tA, tB, tC, tD, tE, tF])
      (refine tk 13 ?_ rfl (Or.inl ⟨by rfl, ?_⟩) ?_; rotate_left; (focus (intro w h; (try dsimp only at h); go_simp; (try with_reducible rfl))); simp only [Act.put, tA, tB, tC, tD, tE, tF])
      (refine tk 14 ?_ rfl (Or.inl ⟨by rfl, ?_⟩) ?_; rotate_left; (focus (intro w h; (try dsimp only at h); go_simp; (try with_reducible rfl))); simp only [Act.put, tA, tB, tC, tD, tE, tF])
      (refine tk 15 ?_ rfl (Or.inl ⟨by rfl, ?_⟩) ?_; rotate_left; (focus (intro w h; (try dsimp only at h); go_simp; (try with_reducible rfl))); simp only [Act.put, tA, tB, tC, tD, tE, tF])
      (refine tk 16 ?_ rfl (Or.inl ⟨by rfl, ?_⟩) ?_; rotate_left; (focus (intro w h; (try dsimp only at h); go_simp; (try with_reducible rfl))); simp only [Act.put, tA, tB, tC, tD, tE, tF])
      (refine tk 17 ?_ rfl (Or.inl ⟨by rfl, ?_⟩) ?_; rotate_left; (focus (intro w h; (try dsimp only at h); go_simp; (try with_reducible rfl))); simp only [Act.put, tA, tB, tC, tD, tE, tF])
      (refine tk 18 ?_ rfl (Or.inl ⟨by rfl, ?_⟩) ?_; rotate_left; (focus (intro w h; (try dsimp only at h); go_simp; (try with_reducible rfl))); simp only [Act.put, tA, tB, tC, tD, tE, tF])
      (refine tk 19 ?_ rfl (Or.inl ⟨by rfl, ?_⟩) ?_; rotate_left; (focus (intro w h; (try dsimp only at h); go_simp; (try with_reducible rfl))); simp only [Act.put, tA, tB, tC, tD, tE, tF])
      (refine tk 20 ?_ rfl (Or.inl ⟨by rfl, ?_⟩) ?_; rotate_left; (focus (intro w h; (try dsimp only at h); go_simp; (try with_reducible rfl))); simp only [Act.put, tA, tB, tC, tD, tE, tF])
      (refine tk 21 ?_ rfl (Or.inl ⟨by rfl, ?_⟩) ?_; rotate_left; (focus (intro w h; (try dsimp only at h); go_simp; (try with_reducible rfl))); simp only [Act.put, tA, tB, tC, tD, tE, tF])
      (refine tk 22 ?_ rfl (Or.inl ⟨by rfl, ?_⟩) ?_; rotate_left; (focus (intro w h; (try dsimp only at h); go_simp; (try with_reducible rfl))); simp only [Act.put, tA, tB, tC, tD, tE, tF])
      (refine tk 23 ?_ rfl (Or.inl ⟨by rfl, ?_⟩) ?_; rotate_left; (focus (intro w h; (try dsimp only at h); go_simp; (try with_reducible rfl))); simp only [Act.put, tA, tB, tC, tD, tE, tF])
      refine wpAnyH_done (by kernel_rfl) ?_ _
      go_wp2
      go_ret
      exact ⟨ret_bool HN.out.symm, HB1.out.trans ((undrew hb2).mono HB1.out.size)⟩
     ·have hl' : (!Op.bytesLess xs[m].1.toList xs[k].1.toList) = false := by show (!lt xs[m].1 xs[k].1) = false; rw [hl]; rfl
      have HG2 : Hid (Good xs (k + 1)) := good_more HG.out hlt ⟨hw, fun h => by rw [EM.out]; exact hl⟩
      clear hw hz hm hl
      go_wp2
      have hzd : decide (0 < k) = true := by have := HM.out; simp; omega
      have e11 : IntKind.i64.wrap (m : Int) = (m : Int) := by rw [IntKind.wrap_i64]; omega
      refine wp_region_held_drew (S := fun w' => w'.cell? ⟨b, off + k * 3, none⟩ = some (.string xs[k].1) ∧ w'.cell? ⟨b, off + k * 3 + 1, none⟩ = some (.string xs[k].2.1) ∧ w'.cell? ⟨b, off + k * 3 + 2, none⟩ = some (.bool xs[k].2.2) ∧ w'.cell? ⟨b, off + m * 3, none⟩ = some (.string xs[m].1)) (by kernel_rfl) ⟨c0, c1, c2, p0⟩ (fun hHeld => ?_)
      (refine tk 0 ?_ rfl (Or.inl ⟨by rfl, ?_⟩) ?_; rotate_left; (focus (intro w h; (try dsimp only at h); go_simp; (try with_reducible rfl))); simp only [Act.put, tA, tB, tD, tE, tF])
      (refine tk 1 ?_ rfl (Or.inl ⟨by rfl, ?_⟩) ?_; rotate_left; (focus (intro w h; (try dsimp only at h); go_simp; (try with_reducible rfl))); simp only [Act.put, tA, tB, tC, tD, tE, tF])
      (refine tk 2 ?_ rfl (Or.inl ⟨by rfl, ?_⟩) ?_; rotate_left; (focus (intro w h; (try dsimp only at h); go_simp; (try with_reducible rfl))); simp only [Act.put, tA, tB, tC, tD, tE, tF])
      (refine tk 3 ?_ rfl (Or.inl ⟨by rfl, ?_⟩) ?_; rotate_left; (focus (intro w h; (try dsimp only at h); go_simp; (try with_reducible rfl))); simp only [Act.put, tA, tB, tC, tD, tE, tF])
      refine wpAnyH_ready (rs := [4]) (by kernel_rfl) (by simp) ?_
      refine AllReadyH.cons rfl (fun K hK => ?_) AllReadyH.nil
      go_simp
      go_wp2_with (go_at_call 49; refine (C1.out _).mono ?_; rintro e w2 ⟨rfl, hb2⟩; have q0 := ((undrew hb2).cell (p := ⟨b, off + k * 3, none⟩) hbl).trans c0; have q1 := ((undrew hb2).cell (p := ⟨b, off + k * 3 + 1, none⟩) hbl).trans c1; have q2 := ((undrew hb2).cell (p := ⟨b, off + k * 3 + 2, none⟩) hbl).trans c2; have q3 := ((undrew hb2).cell (p := ⟨b, off + m * 3, none⟩) hbl).trans p0)
      refine hK.out _ _ ⟨q0, q1, q2, q3⟩ (fun hHeld2 => ?_)
      clear hK K
      (refine tk 5 ?_ rfl (Or.inl ⟨by rfl, ?_⟩) ?_; rotate_left; (focus (intro w h; (try dsimp only at h); go_simp; (try with_reducible rfl))); simp only [Act.put, tA, tB, tC, tD, tE, tF])
      (refine tk 6 ?_ rfl (Or.inl ⟨by rfl, ?_⟩) ?_; rotate_left; (focus (intro w h; (try dsimp only at h); go_simp; (try with_reducible rfl))); simp only [Act.put, tA, tB, tC, tD, tE, tF])
      (refine tk 7 ?_ rfl (Or.inl ⟨by rfl, ?_⟩) ?_; rotate_left; (focus (intro w h; (try dsimp only at h); go_simp; (try with_reducible rfl))); simp only [Act.put, tA, tB, tC, tD, tE, tF])
      (refine tk 8 ?_ rfl (Or.inl ⟨by rfl, ?_⟩) ?_; rotate_left; (focus (intro w h; (try dsimp only at h); go_simp; (try with_reducible rfl))); simp only [Act.put, tA, tB, tC, tD, tE, tF])
      (refine tk 9 ?_ rfl (Or.inl ⟨by rfl, ?_⟩) ?_; rotate_left; (focus (intro w h; (try dsimp only at h); go_simp; (try with_reducible rfl))); simp only [Act.put, tA, tB, tC, tD, tE, tF])
      (refine tk 10 ?_ rfl (Or.inl ⟨by rfl, ?_⟩) ?_; rotate_left; (focus (intro w h; (try dsimp only at h); go_simp; (try with_reducible rfl))); simp only [Act.put, tA, tB, tC, tD, tE, tF])
      (refine tk 11 ?_ rfl (Or.inl ⟨by rfl, ?_⟩) ?_; rotate_left; (focus (intro w h; (try dsimp only at h); go_simp; (try with_reducible rfl))); simp only [Act.put, tA, tB, tC, tD, tE, tF])
      (refine tk 12 ?_ rfl (Or.inl ⟨by rfl, ?_⟩) ?_; rotate_left; (focus (intro w h; (try dsimp only at h); go_simp; (try with_reducible rfl))); simp only [Act.put, tA, tB, tC, tD, tE, tF])
      (refine tk 13 ?_ rfl (Or.inl ⟨by rfl, ?_⟩) ?_; rotate_left; (focus (intro w h; (try dsimp only at h); go_simp; (try with_reducible rfl))); simp only [Act.put, tA, tB, tC, tD, tE, tF])
      (refine tk 14 ?_ rfl (Or.inl ⟨by rfl, ?_⟩) ?_; rotate_left; (focus (intro w h; (try dsimp only at h); go_simp; (try with_reducible rfl))); simp only [Act.put, tA, tB, tC, tD, tE, tF])
      (refine tk 15 ?_ rfl (Or.inl ⟨by rfl, ?_⟩) ?_; rotate_left; (focus (intro w h; (try dsimp only at h); go_simp; (try with_reducible rfl))); simp only [Act.put, tA, tB, tC, tD, tE, tF])
      (refine tk 16 ?_ rfl (Or.inl ⟨by rfl, ?_⟩) ?_; rotate_left; (focus (intro w h; (try dsimp only at h); go_simp; (try with_reducible rfl))); simp only [Act.put, tA, tB, tC, tD, tE, tF])
      (refine tk 17 ?_ rfl (Or.inl ⟨by rfl, ?_⟩) ?_; rotate_left; (focus (intro w h; (try dsimp only at h); go_simp; (try with_reducible rfl))); simp only [Act.put, tA, tB, tC, tD, tE, tF])
      (refine tk 18 ?_ rfl (Or.inl ⟨by rfl, ?_⟩) ?_; rotate_left; (focus (intro w h; (try dsimp only at h); go_simp; (try with_reducible rfl))); simp only [Act.put, tA, tB, tC, tD, tE, tF])
      (refine tk 19 ?_ rfl (Or.inl ⟨by rfl, ?_⟩) ?_; rotate_left; (focus (intro w h; (try dsimp only at h); go_simp; (try with_reducible rfl))); simp only [Act.put, tA, tB, tC, tD, tE, tF])
      (refine tk 20 ?_ rfl (Or.inl ⟨by rfl, ?_⟩) ?_; rotate_left; (focus (intro w h; (try dsimp only at h); go_simp; (try with_reducible rfl))); simp only [Act.put, tA, tB, tC, tD, tE, tF])
      (refine tk 21 ?_ rfl (Or.inl ⟨by rfl, ?_⟩) ?_; rotate_left; (focus (intro w h; (try dsimp only at h); go_simp; (try with_reducible rfl))); simp only [Act.put, tA, tB, tC, tD, tE, tF])
      (refine tk 22 ?_ rfl (Or.inl ⟨by rfl, ?_⟩) ?_; rotate_left; (focus (intro w h; (try dsimp only at h); go_simp; (try with_reducible rfl))); simp only [Act.put, tA, tB, tC, tD, tE, tF])
      (refine tk 23 ?_ rfl (Or.inl ⟨by rfl, ?_⟩) ?_; rotate_left; (focus (intro w h; (try dsimp only at h); go_simp; (try with_reducible rfl))); simp only [Act.put, tA, tB, tC, tD, tE, tF])
      refine wpAnyH_done (by kernel_rfl) ?_ _
      go_wp2
      go_roundw
      case rel => exact ⟨k + 1, by omega, by go_num, HG2, HB1.out.trans ((undrew hb2).mono HB1.out.size)⟩
      case measure => simp [intOf]; omega
  ·have hlt' : ¬ (k : Int) < (xs.length : Int) := by omega
   have HT : Hid (decide ((xs.length : Int) ≤ 8) = writesB xs) := by
    show _ = _
    rw [← good_whole HG.out (by omega), decide_eq_decide]; omega
   go_wp2
   go_ret
   exact ⟨ret_bool HT.out, HB.out⟩
end Go.Proofs.YtnljmdodpffmoaaGreat

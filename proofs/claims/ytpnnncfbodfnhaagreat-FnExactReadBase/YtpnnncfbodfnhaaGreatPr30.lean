/- The marks of rows of versions. -/
import Derived.Test.YtpnnncfbodfnhaaGreatPr13
import Derived.Test.YtpnnncfbodfnhaaGreatPr11
import Derived.Deep.RegionHeld3
import Derived.Test.YtpnnncfbodfnhaaGreatPr02
import Derived.Test.YtpnnncfbodfnhaaGreatPr04
import Derived.Test.YtpnnncfbodfnhaaGreatPr01
import Derived.Deep.AppendLies
import Derived.Test.YtpnnncfbodfnhaaGreatPr14
import Derived.Test.YtpnnncfbodfnhaaGreatPr07
import Derived.WalkSpells
import Derived.WalkLawsBesides
import Derived.Deep.QuietTactic
import Derived.BigQuiet
import Derived.Deep.DrawnRows
import Derived.Test.YtpnnncfbodfnhaaGreatPr08
import Derived.Test.YtpnnncfbodfnhaaGreatPr10
import Derived.Sort.OwnSorted
import Derived.Lib.RowBridge
import Derived.Deep.Cut
import Derived.Deep.CutRange
import Derived.Test.YtpnnncfbodfnhaaGreatPr29
import Derived.Test.YtpnnncfbodfnhaaGreatPr17
import Derived.Test.YtpnnncfbodfnhaaGreatPr28
import Derived.Laws.EntriesVeiled
import Derived.Lib.SmallJoins
import Derived.Deep.Strs
import Derived.ProofKit
import Derived.OpenShut
import Derived.ShutString
import Derived.ChangeOld
namespace Go.Proofs.YtpnnncfbodfnhaaGreat
open Go.RowKit
open KM
attribute [local go_sem ↓] Go.wp_at_zero Go.wp_at_succ

set_option maxRecDepth 100000 in
set_option maxHeartbeats 4000000 in
theorem heldV (n k0 : Nat) (a : Option Addr) (c : Nat) (hn : n ≤ 100000000) (hk0 : 0 < k0) (hk1 : k0 ≤ 100000000000000000) (w : World) (h : GRow encV w a (mkV k0 n)) :
  Calls Tryz.prog 56 #[.slice a n c, .int .i64 k0] w fun e w' => e = .returned (.int .i64 ((k0 + 4 * n : Nat) : Int)) ∧ Below w.heap.size w w' := by
 have H : Hid (GRow encV w a (mkV k0 n)) := h
 clear h
 go_enter Tryz.func56, Tryz.ntmps56
 go_wp2
 go_loopw [1, 5] (fun tk t wr => ∃ k : Nat, k ≤ n ∧ t = .int .i64 k ∧ tk = .int .i64 ((k0 + 4 * k : Nat) : Int) ∧ Hid (Below w.heap.size w wr)) (fun _ t _ => n - (intOf t).toNat)
 case atStart => exact ⟨0, Nat.zero_le _, rfl, rfl, Below.refl _ _⟩
 case round =>
  obtain ⟨k, hk, rfl, rfl, HB⟩ := hrel
  by_cases hlt : k < n
  ·have hlt' : (k : Int) < (n : Int) := by omega
   have h0 : (0 : Int) ≤ (k : Int) := by omega
   obtain ⟨b, off, rfl, hgl, hc⟩ := (H.out.below HB.out) (by rw [mkV_len]; omega)
   have HC := hide (vat hc k (by rw [mkV_len]; exact hlt))
   rw [mkV_at k0 n k hlt] at HC
   clear hc
   obtain ⟨q, hq⟩ : ∃ q, q = k0 + 4 * k := ⟨_, rfl⟩
   have HQ : Hid (q = k0 + 4 * k) := hq
   rw [← hq] at HC ⊢
   have hq0 : 0 < q := by omega
   have hq1 : q ≤ 900000000000000000 := by omega
   clear hq
   have HN2 : Hid (((q + 4 : Nat) : Int) = ((k0 + 4 * (k + 1) : Nat) : Int)) := by show _ = _; have := HQ.out; omega
   have eq0 : IntKind.i64.wrap (q : Int) = (q : Int) := by rw [IntKind.wrap_i64]; omega
   go_wp2
   have r0 := HC.out.1
   have tn0 := bne_text (mkB q)
   refine wp_region_held_drew (S := fun w' => w'.cell? ⟨b, off + k * 4, none⟩ = some (.string (mkB q))) (by kernel_rfl) r0 (fun hHeld => ?_)
   (refine wpAnyH_take (i := 0) (v := ?_) rfl (by kernel_rfl) (by kernel_rfl) (by kernel_rfl) (fun _ _ _ h => h) (Or.inl ⟨by rfl, ?_⟩) (by assumption) ?_; rotate_left; (focus (intro w hSw; (try dsimp only at hSw); go_simp; (try with_reducible rfl); done)); simp only [Act.put, List.getElem_toArray, List.getElem_cons_zero, List.setIfInBounds_toArray, List.set_cons_zero, List.set_cons_succ])
   (refine wpAnyH_take (i := 1) (v := ?_) rfl (by kernel_rfl) (by kernel_rfl) (by kernel_rfl) (fun _ _ _ h => h) (Or.inl ⟨by rfl, ?_⟩) (by assumption) ?_; rotate_left; (focus (intro w hSw; (try dsimp only at hSw); go_simp; (try with_reducible rfl); done)); simp only [Act.put, List.getElem_toArray, List.getElem_cons_zero, List.getElem_cons_succ, List.setIfInBounds_toArray, List.set_cons_zero, List.set_cons_succ])
   (refine wpAnyH_take (i := 2) (v := ?_) rfl (by kernel_rfl) (by kernel_rfl) (by kernel_rfl) (fun _ _ _ h => h) (Or.inl ⟨by rfl, ?_⟩) (by assumption) ?_; rotate_left; (focus (intro w hSw; (try dsimp only at hSw); go_simp; (try with_reducible rfl); done)); simp only [Act.put, List.getElem_toArray, List.getElem_cons_zero, List.getElem_cons_succ, List.setIfInBounds_toArray, List.set_cons_zero, List.set_cons_succ])
   (refine wpAnyH_take (i := 3) (v := ?_) rfl (by kernel_rfl) (by kernel_rfl) (by kernel_rfl) (fun _ _ _ h => h) (Or.inl ⟨by rfl, ?_⟩) (by assumption) ?_; rotate_left; (focus (intro w hSw; (try dsimp only at hSw); go_simp; (try with_reducible rfl); done)); simp only [Act.put, List.getElem_toArray, List.getElem_cons_zero, List.getElem_cons_succ, List.setIfInBounds_toArray, List.set_cons_zero, List.set_cons_succ])
   (refine wpAnyH_take (i := 4) (v := ?_) rfl (by kernel_rfl) (by kernel_rfl) (by kernel_rfl) (fun _ _ _ h => h) (Or.inl ⟨by rfl, ?_⟩) (by assumption) ?_; rotate_left; (focus (intro w hSw; (try dsimp only at hSw); go_simp; (try with_reducible rfl); done)); simp only [Act.put, List.getElem_toArray, List.getElem_cons_zero, List.getElem_cons_succ, List.setIfInBounds_toArray, List.set_cons_zero, List.set_cons_succ])
   (refine wpAnyH_take (i := 5) (v := ?_) rfl (by kernel_rfl) (by kernel_rfl) (by kernel_rfl) (fun _ _ _ h => h) (Or.inl ⟨by rfl, ?_⟩) (by assumption) ?_; rotate_left; (focus (intro w hSw; (try dsimp only at hSw); go_simp; (try with_reducible rfl); done)); simp only [Act.put, List.getElem_toArray, List.getElem_cons_zero, List.getElem_cons_succ, List.setIfInBounds_toArray, List.set_cons_zero, List.set_cons_succ])
   refine wpAnyH_ready (rs := [6]) (by kernel_rfl) (by simp) ?_
   refine AllReadyH.cons rfl (fun K hK => ?_) AllReadyH.nil
   go_simp
   go_wp2_with fail
   refine (mark87 q (by omega) (by omega) _).mono ?_
   rintro e w1 ⟨rfl, hbm⟩
   have hbA1 : Below wr.heap.size wr w1 := undrew hbm
   clear hbm
   have s0 := (hbA1.cell (p := ⟨b, off + k * 4, none⟩) hgl).trans HC.out.1
   go_wp2_with fail
   refine hK.out _ _ s0 (fun hHeld2 => ?_)
   clear hK K
   (refine wpAnyH_take (i := 7) (v := ?_) rfl (by kernel_rfl) (by kernel_rfl) (by kernel_rfl) (fun _ _ _ h => h) (Or.inl ⟨by rfl, ?_⟩) (by assumption) ?_; rotate_left; (focus (intro w hSw; (try dsimp only at hSw); go_simp; (try with_reducible rfl); done)); simp only [Act.put, List.getElem_toArray, List.getElem_cons_zero, List.getElem_cons_succ, List.setIfInBounds_toArray, List.set_cons_zero, List.set_cons_succ])
   refine wpAnyH_done (by kernel_rfl) ?_ _
   go_wp2
   have r1 := (hbA1.cell (p := ⟨b, off + k * 4 + 1, none⟩) hgl).trans HC.out.2.1
   have E1 : Hid ((q : Int) + 1 = ((q + 1 : Nat) : Int)) := by show _ = _; omega
   have e1 : IntKind.i64.wrap ((q : Int) + 1) = (q : Int) + 1 := by rw [IntKind.wrap_i64]; omega
   have tn1 := bne_text (mkB (q + 1))
   refine wp_region_held_drew (S := fun w' => w'.cell? ⟨b, off + k * 4 + 1, none⟩ = some (.string (mkB (q + 1)))) (by kernel_rfl) r1 (fun hHeld => ?_)
   (refine wpAnyH_take (i := 0) (v := ?_) rfl (by kernel_rfl) (by kernel_rfl) (by kernel_rfl) (fun _ _ _ h => h) (Or.inl ⟨by rfl, ?_⟩) (by assumption) ?_; rotate_left; (focus (intro w hSw; (try dsimp only at hSw); go_simp; (try with_reducible rfl); done)); simp only [Act.put, List.getElem_toArray, List.getElem_cons_zero, List.setIfInBounds_toArray, List.set_cons_zero, List.set_cons_succ])
   (refine wpAnyH_take (i := 1) (v := ?_) rfl (by kernel_rfl) (by kernel_rfl) (by kernel_rfl) (fun _ _ _ h => h) (Or.inl ⟨by rfl, ?_⟩) (by assumption) ?_; rotate_left; (focus (intro w hSw; (try dsimp only at hSw); go_simp; (try with_reducible rfl); done)); simp only [Act.put, List.getElem_toArray, List.getElem_cons_zero, List.getElem_cons_succ, List.setIfInBounds_toArray, List.set_cons_zero, List.set_cons_succ])
   (refine wpAnyH_take (i := 2) (v := ?_) rfl (by kernel_rfl) (by kernel_rfl) (by kernel_rfl) (fun _ _ _ h => h) (Or.inl ⟨by rfl, ?_⟩) (by assumption) ?_; rotate_left; (focus (intro w hSw; (try dsimp only at hSw); go_simp; (try with_reducible rfl); done)); simp only [Act.put, List.getElem_toArray, List.getElem_cons_zero, List.getElem_cons_succ, List.setIfInBounds_toArray, List.set_cons_zero, List.set_cons_succ])
   (refine wpAnyH_take (i := 3) (v := ?_) rfl (by kernel_rfl) (by kernel_rfl) (by kernel_rfl) (fun _ _ _ h => h) (Or.inl ⟨by rfl, ?_⟩) (by assumption) ?_; rotate_left; (focus (intro w hSw; (try dsimp only at hSw); go_simp; (try with_reducible rfl); done)); simp only [Act.put, List.getElem_toArray, List.getElem_cons_zero, List.getElem_cons_succ, List.setIfInBounds_toArray, List.set_cons_zero, List.set_cons_succ])
   (refine wpAnyH_take (i := 4) (v := ?_) rfl (by kernel_rfl) (by kernel_rfl) (by kernel_rfl) (fun _ _ _ h => h) (Or.inl ⟨by rfl, ?_⟩) (by assumption) ?_; rotate_left; (focus (intro w hSw; (try dsimp only at hSw); go_simp; (try with_reducible rfl); done)); simp only [Act.put, List.getElem_toArray, List.getElem_cons_zero, List.getElem_cons_succ, List.setIfInBounds_toArray, List.set_cons_zero, List.set_cons_succ])
   (refine wpAnyH_take (i := 5) (v := ?_) rfl (by kernel_rfl) (by kernel_rfl) (by kernel_rfl) (fun _ _ _ h => h) (Or.inl ⟨by rfl, ?_⟩) (by assumption) ?_; rotate_left; (focus (intro w hSw; (try dsimp only at hSw); go_simp; (try with_reducible rfl); done)); simp only [Act.put, List.getElem_toArray, List.getElem_cons_zero, List.getElem_cons_succ, List.setIfInBounds_toArray, List.set_cons_zero, List.set_cons_succ])
   refine wpAnyH_ready (rs := [6]) (by kernel_rfl) (by simp) ?_
   refine AllReadyH.cons rfl (fun K hK => ?_) AllReadyH.nil
   go_simp
   go_wp2_with fail
   rw [E1.out]
   refine (mark87 (q + 1) (by omega) (by omega) _).mono ?_
   rintro e w2 ⟨rfl, hbm⟩
   have hbA2 : Below wr.heap.size wr w2 := hbA1.trans ((undrew hbm).mono hbA1.size)
   clear hbm
   have s1 := (hbA2.cell (p := ⟨b, off + k * 4 + 1, none⟩) hgl).trans HC.out.2.1
   go_wp2_with fail
   refine hK.out _ _ s1 (fun hHeld2 => ?_)
   clear hK K
   (refine wpAnyH_take (i := 7) (v := ?_) rfl (by kernel_rfl) (by kernel_rfl) (by kernel_rfl) (fun _ _ _ h => h) (Or.inl ⟨by rfl, ?_⟩) (by assumption) ?_; rotate_left; (focus (intro w hSw; (try dsimp only at hSw); go_simp; (try with_reducible rfl); done)); simp only [Act.put, List.getElem_toArray, List.getElem_cons_zero, List.getElem_cons_succ, List.setIfInBounds_toArray, List.set_cons_zero, List.set_cons_succ])
   refine wpAnyH_done (by kernel_rfl) ?_ _
   have r2 := (hbA2.cell (p := ⟨b, off + k * 4 + 2, none⟩) hgl).trans HC.out.2.2.1
   have r3 := (hbA2.cell (p := ⟨b, off + k * 4 + 3, none⟩) hgl).trans HC.out.2.2.2
   have eg := goneQ_eq q
   have ebn := bne_self' (goneQ q)
   have ebi : (((q : Int) + 1 + 1 + 1) != ((q : Int) + 1 + 1 + 1)) = false := by simp
   go_wp2
   go_roundw
   case rel => exact ⟨k + 1, by omega, by go_num, by rw [← HN2.out]; go_num, HB.out.trans (hbA2.mono HB.out.size)⟩
   case measure => simp [intOf]; omega
  ·have hd : ¬ (k : Int) < (n : Int) := by omega
   go_wp2
   go_ret
   refine ⟨?_, HB.out⟩
   rw [show k = n by omega]
   rfl
end Go.Proofs.YtpnnncfbodfnhaaGreat

namespace Go.Proofs.YtpnnncfbodfnhaaGreat
open Go.RowKit
open KM
attribute [local go_sem ↓] Go.wp_at_zero Go.wp_at_succ

set_option maxRecDepth 100000 in
set_option maxHeartbeats 2000000 in
theorem heldB (b : Bb) (hf : BFit b) (q1 q2 q3 : Nat) (h1 : q1 = 1 + 4 * b.vs.length) (h2 : q2 = q1 + wtL b.ps) (h3 : q3 = q2 + wtL b.qs) (w : World) (hr : BRows w ⟨mkV 1 b.vs.length, mkL b.ps q1, mkL b.qs q2, b.cs, b.nx, b.va, b.vc, b.pa, b.pc, b.qa, b.qc⟩) :
  Calls Tryz.prog 20 #[.agg #[.slice b.va b.vs.length b.vc, .slice b.pa b.ps.length b.pc, .slice b.qa b.qs.length b.qc, .int .i64 b.cs, .int .i64 b.nx], .int .i64 1] w fun e w' => e = .returned (.int .i64 (q3 : Int)) ∧ Below w.heap.size w w' := by
 have HR : Hid (BRows w ⟨mkV 1 b.vs.length, mkL b.ps q1, mkL b.qs q2, b.cs, b.nx, b.va, b.vc, b.pa, b.pc, b.qa, b.qc⟩) := hr
 clear hr
 have HFp : Hid (∀ y ∈ b.ps, TFit y.t) := fun y hy => hf.p.2 _ (List.mem_map.2 ⟨y, hy, rfl⟩)
 have HFq : Hid (∀ y ∈ b.qs, TFit y.t) := fun y hy => hf.q.2 _ (List.mem_map.2 ⟨y, hy, rfl⟩)
 have HWp : Hid (wtL b.ps ≤ 5600000000000) := by
  show _ ≤ _
  have h1 := wtL_fit b.ps HFp.out
  have h2 : b.ps.length * 5242886 ≤ 1048576 * 5242886 := Nat.mul_le_mul_right _ hf.pl
  omega
 have HWq : Hid (wtL b.qs ≤ 5600000000000) := by
  show _ ≤ _
  have h1 := wtL_fit b.qs HFq.out
  have h2 : b.qs.length * 5242886 ≤ 1048576 * 5242886 := Nat.mul_le_mul_right _ hf.ql
  omega
 have hnv : b.vs.length ≤ 1048576 := hf.vl
 have hnp : b.ps.length ≤ 1048576 := hf.pl
 have hnq : b.qs.length ≤ 1048576 := hf.ql
 clear hf
 have hwp := HWp.out
 have hwq := HWq.out
 have BX0 : Hid (Bx (w.alloc (.cells #[.slice b.va b.vs.length b.vc, .slice b.pa b.ps.length b.pc, .slice b.qa b.qs.length b.qc, .int .i64 b.cs, .int .i64 b.nx] 41)) w.heap.size [.slice b.va b.vs.length b.vc, .slice b.pa b.ps.length b.pc, .slice b.qa b.qs.length b.qc, .int .i64 b.cs, .int .i64 b.nx]) := Bx.new w [.slice b.va b.vs.length b.vc, .slice b.pa b.ps.length b.pc, .slice b.qa b.qs.length b.qc, .int .i64 b.cs, .int .i64 b.nx] 41
 have HB0 : Hid (Below w.heap.size w (w.alloc (.cells #[.slice b.va b.vs.length b.vc, .slice b.pa b.ps.length b.pc, .slice b.qa b.qs.length b.qc, .int .i64 b.cs, .int .i64 b.nx] 41))) := (belowRefl w).alloc (Nat.le_refl _) _
 have l1 : ¬ ((q1 : Int) < 0) := by omega
 have l2 : ¬ ((q2 : Int) < 0) := by omega
 have l3 : ¬ ((q3 : Int) < 0) := by omega
 have b1 : 0 < q1 ∧ q1 ≤ 10000000000000000 := by omega
 have b2 : 0 < q2 ∧ q2 ≤ 10000000000000000 := by omega
 have E1 : Hid (1 + 4 * b.vs.length = q1) := h1.symm
 have E2 : Hid (q1 + wtL b.ps = q2) := h2.symm
 have E3 : Hid (q2 + wtL b.qs = q3) := h3.symm
 clear h1 h2 h3 hwp hwq
 go_enter Tryz.func20, Tryz.ntmps20
 go_upto_region 1 with fail
 generalize (w.alloc (.cells #[.slice b.va b.vs.length b.vc, .slice b.pa b.ps.length b.pc, .slice b.qa b.qs.length b.qc, .int .i64 b.cs, .int .i64 b.nx] 41)) = w0 at *
 have x0 := BX0.out.c0
 go_wp2_with fail
 refine (heldV b.vs.length 1 b.va b.vc (by omega) (by omega) (by omega) _ (HR.out.v.below HB0.out)).mono ?_
 rintro e w1 ⟨rfl, hb⟩
 rw [E1.out]
 have HB1 : Hid (Below w.heap.size w w1) := HB0.out.trans (hb.mono HB0.out.size)
 have BX1 : Hid (Bx w1 w.heap.size [.slice b.va b.vs.length b.vc, .slice b.pa b.ps.length b.pc, .slice b.qa b.qs.length b.qc, .int .i64 b.cs, .int .i64 b.nx]) := BX0.out.below hb
 clear hb x0 BX0
 have x1 := BX1.out.c1
 go_wp2_with fail
 refine (heldL b.ps b.pa b.pc b.ps.length q1 rfl hnp HFp.out b1.1 b1.2 _ (HR.out.p.below HB1.out)).mono ?_
 rintro e w2 ⟨rfl, hb⟩
 rw [E2.out]
 have HB2 : Hid (Below w.heap.size w w2) := HB1.out.trans (hb.mono HB1.out.size)
 have BX2 : Hid (Bx w2 w.heap.size [.slice b.va b.vs.length b.vc, .slice b.pa b.ps.length b.pc, .slice b.qa b.qs.length b.qc, .int .i64 b.cs, .int .i64 b.nx]) := BX1.out.below hb
 clear hb x1 BX1
 have x2 := BX2.out.c2
 go_wp2_with fail
 refine (heldL b.qs b.qa b.qc b.qs.length q2 rfl hnq HFq.out b2.1 b2.2 _ (HR.out.q.below HB2.out)).mono ?_
 rintro e w3 ⟨rfl, hb⟩
 rw [E3.out]
 have HB3 : Hid (Below w.heap.size w w3) := HB2.out.trans (hb.mono HB2.out.size)
 clear hb x2 BX2
 go_wp2
 go_ret
 exact ⟨rfl, HB3.out⟩

set_option maxRecDepth 100000 in
set_option maxHeartbeats 2000000 in
theorem markB (b : Bb) (lo hi : Nat) (hf : BFit b) (w : World) (hz : hi ≤ w.heap.size) (h : BLie w lo hi b) :
  Calls Tryz.prog 19 #[.agg #[.slice b.va b.vs.length b.vc, .slice b.pa b.ps.length b.pc, .slice b.qa b.qs.length b.qc, .int .i64 b.cs, .int .i64 b.nx], .int .i64 1] w fun e w' => ∃ (q : Nat) (m : Bb), e = .returned (.int .i64 (q : Int)) ∧ BLie w' lo hi m ∧ Zn lo hi w w' ∧ (∀ W : World, BRows W m → Calls Tryz.prog 20 #[.agg #[.slice b.va b.vs.length b.vc, .slice b.pa b.ps.length b.pc, .slice b.qa b.qs.length b.qc, .int .i64 b.cs, .int .i64 b.nx], .int .i64 1] W fun e w' => e = .returned (.int .i64 (q : Int)) ∧ Below W.heap.size W w') := by
 have HF : Hid (BFit b) := hf
 obtain ⟨m1, m2, k1, k2, k3, hv, hp, hq⟩ := h.ex
 have hba : Below w.heap.size w (w.alloc (.cells #[.slice b.va b.vs.length b.vc, .slice b.pa b.ps.length b.pc, .slice b.qa b.qs.length b.qc, .int .i64 b.cs, .int .i64 b.nx] 41)) := (belowRefl w).alloc (Nat.le_refl _) _
 have BX0 : Hid (Bx (w.alloc (.cells #[.slice b.va b.vs.length b.vc, .slice b.pa b.ps.length b.pc, .slice b.qa b.qs.length b.qc, .int .i64 b.cs, .int .i64 b.nx] 41)) w.heap.size [.slice b.va b.vs.length b.vc, .slice b.pa b.ps.length b.pc, .slice b.qa b.qs.length b.qc, .int .i64 b.cs, .int .i64 b.nx]) := Bx.new w [.slice b.va b.vs.length b.vc, .slice b.pa b.ps.length b.pc, .slice b.qa b.qs.length b.qc, .int .i64 b.cs, .int .i64 b.nx] 41
 have HV0 : Hid (Lies encV 76 (w.alloc (.cells #[.slice b.va b.vs.length b.vc, .slice b.pa b.ps.length b.pc, .slice b.qa b.qs.length b.qc, .int .i64 b.cs, .int .i64 b.nx] 41)) lo m1 (.slice b.va b.vs.length b.vc) b.vs) := hv.below hba
 have HP0 : Hid (LLie (w.alloc (.cells #[.slice b.va b.vs.length b.vc, .slice b.pa b.ps.length b.pc, .slice b.qa b.qs.length b.qc, .int .i64 b.cs, .int .i64 b.nx] 41)) m1 m2 (.slice b.pa b.ps.length b.pc) b.ps) := hp.below hba
 have HQ0 : Hid (LLie (w.alloc (.cells #[.slice b.va b.vs.length b.vc, .slice b.pa b.ps.length b.pc, .slice b.qa b.qs.length b.qc, .int .i64 b.cs, .int .i64 b.nx] 41)) m2 hi (.slice b.qa b.qs.length b.qc) b.qs) := hq.below hba
 have HZ0 : Hid (Zn lo hi w (w.alloc (.cells #[.slice b.va b.vs.length b.vc, .slice b.pa b.ps.length b.pc, .slice b.qa b.qs.length b.qc, .int .i64 b.cs, .int .i64 b.nx] 41))) := Zn.ofBelow lo hi hba
 clear h hv hp hq hba
 have HFp : Hid (∀ y ∈ b.ps, TFit y.t) := fun y hy => hf.p.2 _ (List.mem_map.2 ⟨y, hy, rfl⟩)
 have HFq : Hid (∀ y ∈ b.qs, TFit y.t) := fun y hy => hf.q.2 _ (List.mem_map.2 ⟨y, hy, rfl⟩)
 have HWp : Hid (wtL b.ps ≤ 5600000000000) := by
  show _ ≤ _
  have h1 := wtL_fit b.ps HFp.out
  have h2 : b.ps.length * 5242886 ≤ 1048576 * 5242886 := Nat.mul_le_mul_right _ hf.pl
  omega
 have HWq : Hid (wtL b.qs ≤ 5600000000000) := by
  show _ ≤ _
  have h1 := wtL_fit b.qs HFq.out
  have h2 : b.qs.length * 5242886 ≤ 1048576 * 5242886 := Nat.mul_le_mul_right _ hf.ql
  omega
 have hnv : b.vs.length ≤ 1048576 := hf.vl
 have hnp : b.ps.length ≤ 1048576 := hf.pl
 have hnq : b.qs.length ≤ 1048576 := hf.ql
 clear hf
 have hwp := HWp.out
 have hwq := HWq.out
 obtain ⟨q1, h1⟩ : ∃ q1, q1 = 1 + 4 * b.vs.length := ⟨_, rfl⟩
 obtain ⟨q2, h2⟩ : ∃ q2, q2 = q1 + wtL b.ps := ⟨_, rfl⟩
 obtain ⟨q3, h3⟩ : ∃ q3, q3 = q2 + wtL b.qs := ⟨_, rfl⟩
 have b1 : 0 < q1 ∧ q1 ≤ 10000000000000000 := by omega
 have b2 : 0 < q2 ∧ q2 ≤ 10000000000000000 := by omega
 have E1 : Hid (1 + 4 * b.vs.length = q1) := h1.symm
 have E2 : Hid (q1 + wtL b.ps = q2) := h2.symm
 have E3 : Hid (q2 + wtL b.qs = q3) := h3.symm
 have HH : Hid (∀ W : World, BRows W ⟨mkV 1 b.vs.length, mkL b.ps q1, mkL b.qs q2, b.cs, b.nx, b.va, b.vc, b.pa, b.pc, b.qa, b.qc⟩ → Calls Tryz.prog 20 #[.agg #[.slice b.va b.vs.length b.vc, .slice b.pa b.ps.length b.pc, .slice b.qa b.qs.length b.qc, .int .i64 b.cs, .int .i64 b.nx], .int .i64 1] W fun e w' => e = .returned (.int .i64 (q3 : Int)) ∧ Below W.heap.size W w') := fun W hW => heldB b HF.out q1 q2 q3 h1 h2 h3 W hW
 clear h1 h2 h3 hwp hwq HF
 go_enter Tryz.func19, Tryz.ntmps19
 go_upto_region 1 with fail
 generalize (w.alloc (.cells #[.slice b.va b.vs.length b.vc, .slice b.pa b.ps.length b.pc, .slice b.qa b.qs.length b.qc, .int .i64 b.cs, .int .i64 b.nx] 41)) = w0 at *
 have x0 := BX0.out.c0
 go_wp2_with fail
 refine (markV b.vs.length 1 b.va b.vc lo _ (by omega) (by omega) (by omega) _ HV0.out.own).mono ?_
 rintro e w1 ⟨rfl, ho, hg⟩
 rw [E1.out]
 have hz1 : Zn lo m1 w0 w1 := Zn.ofGrown hg (fun g h => HV0.out.lo g h)
 have HV1 : Hid (Lies encV 76 w1 lo m1 (.slice b.va b.vs.length b.vc) (mkV 1 b.vs.length)) := ⟨ho, HV0.out.up⟩
 have HP1 : Hid (LLie w1 m1 m2 (.slice b.pa b.ps.length b.pc) b.ps) := HP0.out.zn hz1 (by omega)
 have HQ1 : Hid (LLie w1 m2 hi (.slice b.qa b.qs.length b.qc) b.qs) := HQ0.out.zn hz1 (by omega)
 have HZ1 : Hid (Zn lo hi w w1) := HZ0.out.trans (hz1.mono (by omega) (by omega))
 have BX1 : Hid (Bx w1 w.heap.size [.slice b.va b.vs.length b.vc, .slice b.pa b.ps.length b.pc, .slice b.qa b.qs.length b.qc, .int .i64 b.cs, .int .i64 b.nx]) := BX0.out.zn hz1 (by omega)
 clear ho hg hz1 x0 BX0 HV0 HP0 HQ0 HZ0
 have x1 := BX1.out.c1
 go_wp2_with fail
 refine (markL b.ps b.pa b.pc b.ps.length m1 m2 q1 rfl hnp HFp.out b1.1 b1.2 _ HP1.out).mono ?_
 rintro e w2 ⟨rfl, ho, hz2⟩
 rw [E2.out]
 have HP2 : Hid (LLie w2 m1 m2 (.slice b.pa b.ps.length b.pc) (mkL b.ps q1)) := ho
 have HV2 : Hid (Lies encV 76 w2 lo m1 (.slice b.va b.vs.length b.vc) (mkV 1 b.vs.length)) := HV1.out.zn hz2 (by omega)
 have HQ2 : Hid (LLie w2 m2 hi (.slice b.qa b.qs.length b.qc) b.qs) := HQ1.out.zn hz2 (by omega)
 have HZ2 : Hid (Zn lo hi w w2) := HZ1.out.trans (hz2.mono (by omega) (by omega))
 have BX2 : Hid (Bx w2 w.heap.size [.slice b.va b.vs.length b.vc, .slice b.pa b.ps.length b.pc, .slice b.qa b.qs.length b.qc, .int .i64 b.cs, .int .i64 b.nx]) := BX1.out.zn hz2 (by omega)
 clear ho hz2 x1 BX1 HV1 HP1 HQ1 HZ1
 have x2 := BX2.out.c2
 go_wp2_with fail
 refine (markL b.qs b.qa b.qc b.qs.length m2 hi q2 rfl hnq HFq.out b2.1 b2.2 _ HQ2.out).mono ?_
 rintro e w3 ⟨rfl, ho, hz3⟩
 rw [E3.out]
 have HQ3 : Hid (LLie w3 m2 hi (.slice b.qa b.qs.length b.qc) (mkL b.qs q2)) := ho
 have HV3 : Hid (Lies encV 76 w3 lo m1 (.slice b.va b.vs.length b.vc) (mkV 1 b.vs.length)) := HV2.out.zn hz3 (by omega)
 have HP3 : Hid (LLie w3 m1 m2 (.slice b.pa b.ps.length b.pc) (mkL b.ps q1)) := HP2.out.zn hz3 (by omega)
 have HZ3 : Hid (Zn lo hi w w3) := HZ2.out.trans (hz3.mono (by omega) (by omega))
 clear ho hz3 x2 BX2 HV2 HP2 HQ2 HZ2
 go_wp2
 go_ret
 refine ⟨q3, ⟨mkV 1 b.vs.length, mkL b.ps q1, mkL b.qs q2, b.cs, b.nx, b.va, b.vc, b.pa, b.pc, b.qa, b.qc⟩, rfl, ⟨m1, m2, k1, k2, k3, ?_, ?_, ?_⟩, HZ3.out, HH.out⟩
 ·show Lies encV 76 w3 lo m1 (.slice b.va (mkV 1 b.vs.length).length b.vc) (mkV 1 b.vs.length)
  rw [mkV_len]
  exact HV3.out
 ·show LLie w3 m1 m2 (.slice b.pa (mkL b.ps q1).length b.pc) (mkL b.ps q1)
  rw [mkL_len]
  exact HP3.out
 ·show LLie w3 m2 hi (.slice b.qa (mkL b.qs q2).length b.qc) (mkL b.qs q2)
  rw [mkL_len]
  exact HQ3.out

end Go.Proofs.YtpnnncfbodfnhaaGreat

namespace Go.Proofs.YtpnnncfbodfnhaaGreat
open Go.RowKit
open KM
open VM
attribute [local go_sem ↓] Go.wp_at_zero Go.wp_at_succ

theorem rBs_fit {x : ByteArray} {p : Int} {s : Bb} {q : Nat} {bo : Bool} (h : ansB (rBs x p) = (s, q, bo)) : BFit s := by
 cases hr : rBs x p with
 | none =>
  rw [hr] at h
  cases h
  exact ⟨by show 0 ≤ _; omega, (fun x hx => by cases hx), ⟨by show 0 ≤ _; omega, fun x hx => by cases hx⟩, ⟨by show 0 ≤ _; omega, fun x hx => by cases hx⟩⟩
 | some r =>
  obtain ⟨s', q'⟩ := r
  rw [hr] at h
  have es : s' = s := by cases h; rfl
  subst es
  have hs : sbB s' = true := by
   unfold rBs at hr
   iterate 5
    split at hr
    ·cases hr
   split at hr
   ·rename_i ht
    cases hr
    exact ht
   ·cases hr
  have hm := base_small hs
  refine ⟨Nat.le_trans hm.vl (by omega), fun x hx => ?_, ⟨?_, fun t ht => ?_⟩, ⟨?_, fun t ht => ?_⟩⟩
  ·have := hm.vs x hx; unfold VSm at this; omega
  ·rw [txs_len]; exact Nat.le_trans hm.pl (by omega)
  ·obtain ⟨y, hy, rfl⟩ := List.mem_map.1 ht
   exact small_fit (right_small (hm.ps y hy))
  ·rw [txs_len]; exact Nat.le_trans hm.ql (by omega)
  ·obtain ⟨y, hy, rfl⟩ := List.mem_map.1 ht
   exact small_fit (right_small (hm.qs y hy))

set_option maxRecDepth 100000 in
set_option maxHeartbeats 6000000 in
theorem law5 (x : ByteArray) (p : Int) (_hnm : x.size ≤ maxLen) (w : World) : Calls Tryz.prog 5 #[.string x, .int .i64 p] w fun e w' => e = .returned (.bool true) ∧ Below w.heap.size w w' := by
 have HB : Hid (Below w.heap.size w w) := belowRefl w
 by_cases hl : (1048576 : Int) < (x.size : Int)
 ·go_enter Tryz.func5, Tryz.ntmps5
  go_wp2
  go_ret
  exact ⟨rfl, HB.out⟩
 have hs : x.size ≤ 1048576 := by omega
 obtain ⟨DD, q, bo, ha⟩ : ∃ DD q bo, ansB (rBs x p) = (DD, q, bo) := ⟨_, _, _, rfl⟩
 have HFD : Hid (BFit DD) := rBs_fit ha
 have CS : Hid (∀ W : World, Calls Tryz.prog 17 #[.string x, .int .i64 p] W fun e w' => ∃ d : Bb, e = .returned (.tuple #[.agg #[.slice d.va d.vs.length d.vc, .slice d.pa d.ps.length d.pc, .slice d.qa d.qs.length d.qc, .int .i64 d.cs, .int .i64 d.nx], .int .i64 (q : Int), .bool bo]) ∧ BSame DD d ∧ BLie w' W.heap.size w'.heap.size d ∧ Below W.heap.size W w') := fun W => srb x p hs DD q bo ha W
 have CI : Hid (∀ W : World, Calls Tryz.prog 18 #[.string x, .int .i64 p] W fun e w' => ∃ d : Bb, e = .returned (.tuple #[.agg #[.slice d.va d.vs.length d.vc, .slice d.pa d.ps.length d.pc, .slice d.qa d.qs.length d.qc, .int .i64 d.cs, .int .i64 d.nx], .int .i64 (q : Int), .bool bo]) ∧ BSame DD d ∧ BLie w' W.heap.size w'.heap.size d ∧ Below W.heap.size W w') := fun W => irb x p hs DD q bo ha W
 clear ha
 have hq0 := ne_self_int (q : Int)
 have hb0 := bne_self' bo
 go_enter Tryz.func5, Tryz.ntmps5
 clear hs
 go_wp2_with fail
 refine (CS.out _).mono ?_
 rintro e w1 ⟨d1, rfl, hs, hl, hb1⟩
 have Z1 : Hid (w.heap.size ≤ w1.heap.size) := by show _ ≤ _; have h := hb1.size; simpa using h
 replace HB : Hid (Below w.heap.size w w1) := HB.out.trans (hb1.mono HB.out.size)
 have D1 : Hid (BSame DD d1) := hs
 clear hs
 clear hb1
 have M1 : Hid (BLie w1 (w.heap.size) w1.heap.size d1) := hl
 clear hl
 have hba : Below w1.heap.size w1 (w1.alloc (.cells #[.slice d1.va d1.vs.length d1.vc, .slice d1.pa d1.ps.length d1.pc, .slice d1.qa d1.qs.length d1.qc, .int .i64 d1.cs, .int .i64 d1.nx] 41)) := (belowRefl _).alloc (Nat.le_refl _) _
 replace HB : Hid (Below w.heap.size w (w1.alloc (.cells #[.slice d1.va d1.vs.length d1.vc, .slice d1.pa d1.ps.length d1.pc, .slice d1.qa d1.qs.length d1.qc, .int .i64 d1.cs, .int .i64 d1.nx] 41))) := HB.out.trans (hba.mono HB.out.size)
 replace M1 : Hid (BLie (w1.alloc (.cells #[.slice d1.va d1.vs.length d1.vc, .slice d1.pa d1.ps.length d1.pc, .slice d1.qa d1.qs.length d1.qc, .int .i64 d1.cs, .int .i64 d1.nx] 41)) (w.heap.size) w1.heap.size d1) := M1.out.below hba
 clear hba
 have OB1 : Hid (Bx (w1.alloc (.cells #[.slice d1.va d1.vs.length d1.vc, .slice d1.pa d1.ps.length d1.pc, .slice d1.qa d1.qs.length d1.qc, .int .i64 d1.cs, .int .i64 d1.nx] 41)) (w1.heap.size) [.slice d1.va d1.vs.length d1.vc, .slice d1.pa d1.ps.length d1.pc, .slice d1.qa d1.qs.length d1.qc, .int .i64 d1.cs, .int .i64 d1.nx]) := Bx.new w1 [.slice d1.va d1.vs.length d1.vc, .slice d1.pa d1.ps.length d1.pc, .slice d1.qa d1.qs.length d1.qc, .int .i64 d1.cs, .int .i64 d1.nx] 41
 go_wp2_with fail
 refine (CI.out _).mono ?_
 rintro e w2 ⟨d2, rfl, hs, hl, hb2⟩
 have Z2 : Hid (w1.heap.size + 1 ≤ w2.heap.size) := by show _ ≤ _; have h := hb2.size; simpa using h
 replace HB : Hid (Below w.heap.size w w2) := HB.out.trans (hb2.mono HB.out.size)
 replace M1 : Hid (BLie w2 (w.heap.size) w1.heap.size d1) := M1.out.below hb2
 replace OB1 : Hid (Bx w2 (w1.heap.size) [.slice d1.va d1.vs.length d1.vc, .slice d1.pa d1.ps.length d1.pc, .slice d1.qa d1.qs.length d1.qc, .int .i64 d1.cs, .int .i64 d1.nx]) := OB1.out.below hb2
 have D2 : Hid (BSame DD d2) := hs
 clear hs
 clear hb2
 have M2 : Hid (BLie w2 (w1.heap.size + 1) w2.heap.size d2) := (by show BLie _ _ _ _; simpa using hl)
 clear hl
 have hba : Below w2.heap.size w2 (w2.alloc (.cells #[.slice d2.va d2.vs.length d2.vc, .slice d2.pa d2.ps.length d2.pc, .slice d2.qa d2.qs.length d2.qc, .int .i64 d2.cs, .int .i64 d2.nx] 41)) := (belowRefl _).alloc (Nat.le_refl _) _
 replace HB : Hid (Below w.heap.size w (w2.alloc (.cells #[.slice d2.va d2.vs.length d2.vc, .slice d2.pa d2.ps.length d2.pc, .slice d2.qa d2.qs.length d2.qc, .int .i64 d2.cs, .int .i64 d2.nx] 41))) := HB.out.trans (hba.mono HB.out.size)
 replace M1 : Hid (BLie (w2.alloc (.cells #[.slice d2.va d2.vs.length d2.vc, .slice d2.pa d2.ps.length d2.pc, .slice d2.qa d2.qs.length d2.qc, .int .i64 d2.cs, .int .i64 d2.nx] 41)) (w.heap.size) w1.heap.size d1) := M1.out.below hba
 replace OB1 : Hid (Bx (w2.alloc (.cells #[.slice d2.va d2.vs.length d2.vc, .slice d2.pa d2.ps.length d2.pc, .slice d2.qa d2.qs.length d2.qc, .int .i64 d2.cs, .int .i64 d2.nx] 41)) (w1.heap.size) [.slice d1.va d1.vs.length d1.vc, .slice d1.pa d1.ps.length d1.pc, .slice d1.qa d1.qs.length d1.qc, .int .i64 d1.cs, .int .i64 d1.nx]) := OB1.out.below hba
 replace M2 : Hid (BLie (w2.alloc (.cells #[.slice d2.va d2.vs.length d2.vc, .slice d2.pa d2.ps.length d2.pc, .slice d2.qa d2.qs.length d2.qc, .int .i64 d2.cs, .int .i64 d2.nx] 41)) (w1.heap.size + 1) w2.heap.size d2) := M2.out.below hba
 clear hba
 have OB2 : Hid (Bx (w2.alloc (.cells #[.slice d2.va d2.vs.length d2.vc, .slice d2.pa d2.ps.length d2.pc, .slice d2.qa d2.qs.length d2.qc, .int .i64 d2.cs, .int .i64 d2.nx] 41)) (w2.heap.size) [.slice d2.va d2.vs.length d2.vc, .slice d2.pa d2.ps.length d2.pc, .slice d2.qa d2.qs.length d2.qc, .int .i64 d2.cs, .int .i64 d2.nx]) := Bx.new w2 [.slice d2.va d2.vs.length d2.vc, .slice d2.pa d2.ps.length d2.pc, .slice d2.qa d2.qs.length d2.qc, .int .i64 d2.cs, .int .i64 d2.nx] 41
 have x0 := OB2.out.c0
 have x1 := OB2.out.c1
 have x2 := OB2.out.c2
 have x3 := OB2.out.c3
 have x4 := OB2.out.c4
 have y0 := OB1.out.c0
 have y1 := OB1.out.c1
 have y2 := OB1.out.c2
 have y3 := OB1.out.c3
 have y4 := OB1.out.c4
 go_wp2_with fail
 refine (eqB d2 d1 (D2.out.symm.trans D1.out) (D2.out.fit HFD.out) _ M2.out.rows M1.out.rows).mono ?_
 rintro e w3 ⟨rfl, hb3⟩
 have Z3 : Hid (w2.heap.size + 1 ≤ w3.heap.size) := by show _ ≤ _; have h := hb3.size; simpa using h
 replace HB : Hid (Below w.heap.size w w3) := HB.out.trans (hb3.mono HB.out.size)
 replace M1 : Hid (BLie w3 (w.heap.size) w1.heap.size d1) := M1.out.below hb3
 replace OB1 : Hid (Bx w3 (w1.heap.size) [.slice d1.va d1.vs.length d1.vc, .slice d1.pa d1.ps.length d1.pc, .slice d1.qa d1.qs.length d1.qc, .int .i64 d1.cs, .int .i64 d1.nx]) := OB1.out.below hb3
 replace M2 : Hid (BLie w3 (w1.heap.size + 1) w2.heap.size d2) := M2.out.below hb3
 replace OB2 : Hid (Bx w3 (w2.heap.size) [.slice d2.va d2.vs.length d2.vc, .slice d2.pa d2.ps.length d2.pc, .slice d2.qa d2.qs.length d2.qc, .int .i64 d2.cs, .int .i64 d2.nx]) := OB2.out.below hb3
 clear hb3 x0 x1 x2 x3 x4 y0 y1 y2 y3 y4
 have x0 := OB2.out.c0
 have x1 := OB2.out.c1
 have x2 := OB2.out.c2
 have x3 := OB2.out.c3
 have x4 := OB2.out.c4
 go_wp2_with fail
 refine (markB d2 (w1.heap.size + 1) (w2.heap.size) (D2.out.fit HFD.out) _ (by have := Z1.out; have := Z2.out; have := Z3.out; omega) M2.out).mono ?_
 rintro e w4 ⟨q3, mm, rfl, hm, hz4, hh⟩
 have Z4 : Hid (w3.heap.size ≤ w4.heap.size) := hz4.size
 replace HB : Hid (Below w.heap.size w w4) := HB.out.trans (hz4.below (by have := Z1.out; have := Z2.out; have := Z3.out; omega) HB.out.size)
 replace M1 : Hid (BLie w4 (w.heap.size) w1.heap.size d1) := M1.out.zn hz4 (by have := Z1.out; have := Z2.out; have := Z3.out; omega)
 replace OB1 : Hid (Bx w4 (w1.heap.size) [.slice d1.va d1.vs.length d1.vc, .slice d1.pa d1.ps.length d1.pc, .slice d1.qa d1.qs.length d1.qc, .int .i64 d1.cs, .int .i64 d1.nx]) := OB1.out.zn hz4 (by have := Z1.out; have := Z2.out; have := Z3.out; omega)
 replace OB2 : Hid (Bx w4 (w2.heap.size) [.slice d2.va d2.vs.length d2.vc, .slice d2.pa d2.ps.length d2.pc, .slice d2.qa d2.qs.length d2.qc, .int .i64 d2.cs, .int .i64 d2.nx]) := OB2.out.zn hz4 (by have := Z1.out; have := Z2.out; have := Z3.out; omega)
 have MM : Hid (BLie w4 (w1.heap.size + 1) (w2.heap.size) mm) := hm
 have HH := hide hh
 clear hm hh
 clear hz4 x0 x1 x2 x3 x4 M2
 have hK3a : ¬ (q3 : Int) < 0 := by omega
 have hK3b := ne_self_int (q3 : Int)
 have x0 := OB2.out.c0
 have x1 := OB2.out.c1
 have x2 := OB2.out.c2
 have x3 := OB2.out.c3
 have x4 := OB2.out.c4
 go_wp2_with fail
 refine (HH.out _ MM.out.rows).mono ?_
 rintro e w5 ⟨rfl, hb5⟩
 have Z5 : Hid (w4.heap.size ≤ w5.heap.size) := by show _ ≤ _; have h := hb5.size; simpa using h
 replace HB : Hid (Below w.heap.size w w5) := HB.out.trans (hb5.mono HB.out.size)
 replace M1 : Hid (BLie w5 (w.heap.size) w1.heap.size d1) := M1.out.below hb5
 replace OB1 : Hid (Bx w5 (w1.heap.size) [.slice d1.va d1.vs.length d1.vc, .slice d1.pa d1.ps.length d1.pc, .slice d1.qa d1.qs.length d1.qc, .int .i64 d1.cs, .int .i64 d1.nx]) := OB1.out.below hb5
 replace OB2 : Hid (Bx w5 (w2.heap.size) [.slice d2.va d2.vs.length d2.vc, .slice d2.pa d2.ps.length d2.pc, .slice d2.qa d2.qs.length d2.qc, .int .i64 d2.cs, .int .i64 d2.nx]) := OB2.out.below hb5
 replace MM : Hid (BLie w5 (w1.heap.size + 1) (w2.heap.size) mm) := MM.out.below hb5
 clear hb5 x0 x1 x2 x3 x4
 go_wp2_with fail
 refine (CI.out _).mono ?_
 rintro e w6 ⟨d4, rfl, hs, hl, hb6⟩
 have Z6 : Hid (w5.heap.size ≤ w6.heap.size) := by show _ ≤ _; have h := hb6.size; simpa using h
 replace HB : Hid (Below w.heap.size w w6) := HB.out.trans (hb6.mono HB.out.size)
 replace M1 : Hid (BLie w6 (w.heap.size) w1.heap.size d1) := M1.out.below hb6
 replace OB1 : Hid (Bx w6 (w1.heap.size) [.slice d1.va d1.vs.length d1.vc, .slice d1.pa d1.ps.length d1.pc, .slice d1.qa d1.qs.length d1.qc, .int .i64 d1.cs, .int .i64 d1.nx]) := OB1.out.below hb6
 replace OB2 : Hid (Bx w6 (w2.heap.size) [.slice d2.va d2.vs.length d2.vc, .slice d2.pa d2.ps.length d2.pc, .slice d2.qa d2.qs.length d2.qc, .int .i64 d2.cs, .int .i64 d2.nx]) := OB2.out.below hb6
 replace MM : Hid (BLie w6 (w1.heap.size + 1) (w2.heap.size) mm) := MM.out.below hb6
 have D4 : Hid (BSame DD d4) := hs
 clear hs
 clear hb6
 have M4 : Hid (BLie w6 (w5.heap.size) w6.heap.size d4) := hl
 clear hl
 have hba : Below w6.heap.size w6 (w6.alloc (.cells #[.slice d4.va d4.vs.length d4.vc, .slice d4.pa d4.ps.length d4.pc, .slice d4.qa d4.qs.length d4.qc, .int .i64 d4.cs, .int .i64 d4.nx] 41)) := (belowRefl _).alloc (Nat.le_refl _) _
 replace HB : Hid (Below w.heap.size w (w6.alloc (.cells #[.slice d4.va d4.vs.length d4.vc, .slice d4.pa d4.ps.length d4.pc, .slice d4.qa d4.qs.length d4.qc, .int .i64 d4.cs, .int .i64 d4.nx] 41))) := HB.out.trans (hba.mono HB.out.size)
 replace M1 : Hid (BLie (w6.alloc (.cells #[.slice d4.va d4.vs.length d4.vc, .slice d4.pa d4.ps.length d4.pc, .slice d4.qa d4.qs.length d4.qc, .int .i64 d4.cs, .int .i64 d4.nx] 41)) (w.heap.size) w1.heap.size d1) := M1.out.below hba
 replace OB1 : Hid (Bx (w6.alloc (.cells #[.slice d4.va d4.vs.length d4.vc, .slice d4.pa d4.ps.length d4.pc, .slice d4.qa d4.qs.length d4.qc, .int .i64 d4.cs, .int .i64 d4.nx] 41)) (w1.heap.size) [.slice d1.va d1.vs.length d1.vc, .slice d1.pa d1.ps.length d1.pc, .slice d1.qa d1.qs.length d1.qc, .int .i64 d1.cs, .int .i64 d1.nx]) := OB1.out.below hba
 replace OB2 : Hid (Bx (w6.alloc (.cells #[.slice d4.va d4.vs.length d4.vc, .slice d4.pa d4.ps.length d4.pc, .slice d4.qa d4.qs.length d4.qc, .int .i64 d4.cs, .int .i64 d4.nx] 41)) (w2.heap.size) [.slice d2.va d2.vs.length d2.vc, .slice d2.pa d2.ps.length d2.pc, .slice d2.qa d2.qs.length d2.qc, .int .i64 d2.cs, .int .i64 d2.nx]) := OB2.out.below hba
 replace MM : Hid (BLie (w6.alloc (.cells #[.slice d4.va d4.vs.length d4.vc, .slice d4.pa d4.ps.length d4.pc, .slice d4.qa d4.qs.length d4.qc, .int .i64 d4.cs, .int .i64 d4.nx] 41)) (w1.heap.size + 1) (w2.heap.size) mm) := MM.out.below hba
 replace M4 : Hid (BLie (w6.alloc (.cells #[.slice d4.va d4.vs.length d4.vc, .slice d4.pa d4.ps.length d4.pc, .slice d4.qa d4.qs.length d4.qc, .int .i64 d4.cs, .int .i64 d4.nx] 41)) (w5.heap.size) w6.heap.size d4) := M4.out.below hba
 clear hba
 have OB4 : Hid (Bx (w6.alloc (.cells #[.slice d4.va d4.vs.length d4.vc, .slice d4.pa d4.ps.length d4.pc, .slice d4.qa d4.qs.length d4.qc, .int .i64 d4.cs, .int .i64 d4.nx] 41)) (w6.heap.size) [.slice d4.va d4.vs.length d4.vc, .slice d4.pa d4.ps.length d4.pc, .slice d4.qa d4.qs.length d4.qc, .int .i64 d4.cs, .int .i64 d4.nx]) := Bx.new w6 [.slice d4.va d4.vs.length d4.vc, .slice d4.pa d4.ps.length d4.pc, .slice d4.qa d4.qs.length d4.qc, .int .i64 d4.cs, .int .i64 d4.nx] 41
 have x0 := OB4.out.c0
 have x1 := OB4.out.c1
 have x2 := OB4.out.c2
 have x3 := OB4.out.c3
 have x4 := OB4.out.c4
 have y0 := OB1.out.c0
 have y1 := OB1.out.c1
 have y2 := OB1.out.c2
 have y3 := OB1.out.c3
 have y4 := OB1.out.c4
 go_wp2_with fail
 refine (eqB d4 d1 (D4.out.symm.trans D1.out) (D4.out.fit HFD.out) _ M4.out.rows M1.out.rows).mono ?_
 rintro e w7 ⟨rfl, hb7⟩
 have Z7 : Hid (w6.heap.size + 1 ≤ w7.heap.size) := by show _ ≤ _; have h := hb7.size; simpa using h
 replace HB : Hid (Below w.heap.size w w7) := HB.out.trans (hb7.mono HB.out.size)
 replace M1 : Hid (BLie w7 (w.heap.size) w1.heap.size d1) := M1.out.below hb7
 replace OB1 : Hid (Bx w7 (w1.heap.size) [.slice d1.va d1.vs.length d1.vc, .slice d1.pa d1.ps.length d1.pc, .slice d1.qa d1.qs.length d1.qc, .int .i64 d1.cs, .int .i64 d1.nx]) := OB1.out.below hb7
 replace OB2 : Hid (Bx w7 (w2.heap.size) [.slice d2.va d2.vs.length d2.vc, .slice d2.pa d2.ps.length d2.pc, .slice d2.qa d2.qs.length d2.qc, .int .i64 d2.cs, .int .i64 d2.nx]) := OB2.out.below hb7
 replace MM : Hid (BLie w7 (w1.heap.size + 1) (w2.heap.size) mm) := MM.out.below hb7
 replace M4 : Hid (BLie w7 (w5.heap.size) w6.heap.size d4) := M4.out.below hb7
 replace OB4 : Hid (Bx w7 (w6.heap.size) [.slice d4.va d4.vs.length d4.vc, .slice d4.pa d4.ps.length d4.pc, .slice d4.qa d4.qs.length d4.qc, .int .i64 d4.cs, .int .i64 d4.nx]) := OB4.out.below hb7
 clear hb7 x0 x1 x2 x3 x4 y0 y1 y2 y3 y4
 have x0 := OB2.out.c0
 have x1 := OB2.out.c1
 have x2 := OB2.out.c2
 have x3 := OB2.out.c3
 have x4 := OB2.out.c4
 go_wp2_with fail
 refine (HH.out _ MM.out.rows).mono ?_
 rintro e w8 ⟨rfl, hb8⟩
 have Z8 : Hid (w7.heap.size ≤ w8.heap.size) := by show _ ≤ _; have h := hb8.size; simpa using h
 replace HB : Hid (Below w.heap.size w w8) := HB.out.trans (hb8.mono HB.out.size)
 replace M1 : Hid (BLie w8 (w.heap.size) w1.heap.size d1) := M1.out.below hb8
 replace OB1 : Hid (Bx w8 (w1.heap.size) [.slice d1.va d1.vs.length d1.vc, .slice d1.pa d1.ps.length d1.pc, .slice d1.qa d1.qs.length d1.qc, .int .i64 d1.cs, .int .i64 d1.nx]) := OB1.out.below hb8
 replace OB2 : Hid (Bx w8 (w2.heap.size) [.slice d2.va d2.vs.length d2.vc, .slice d2.pa d2.ps.length d2.pc, .slice d2.qa d2.qs.length d2.qc, .int .i64 d2.cs, .int .i64 d2.nx]) := OB2.out.below hb8
 replace MM : Hid (BLie w8 (w1.heap.size + 1) (w2.heap.size) mm) := MM.out.below hb8
 replace M4 : Hid (BLie w8 (w5.heap.size) w6.heap.size d4) := M4.out.below hb8
 replace OB4 : Hid (Bx w8 (w6.heap.size) [.slice d4.va d4.vs.length d4.vc, .slice d4.pa d4.ps.length d4.pc, .slice d4.qa d4.qs.length d4.qc, .int .i64 d4.cs, .int .i64 d4.nx]) := OB4.out.below hb8
 clear hb8 x0 x1 x2 x3 x4
 go_wp2
 go_ret
 exact ⟨rfl, HB.out⟩

end Go.Proofs.YtpnnncfbodfnhaaGreat

namespace Go.Proofs.YtpnnncfbodfnhaaGreat
open Go.ChangeShapes Go.WideShapes Go.ChangeAt Go.RowKit Go.Deep
open KM

theorem ownT : ownKnob Tryz.prog.godebug = none := by kernel_rfl

section
variable {H : Type} {enc : TypeId × Value → H} {W : World} {base : Nat}

end
end Go.Proofs.YtpnnncfbodfnhaaGreat

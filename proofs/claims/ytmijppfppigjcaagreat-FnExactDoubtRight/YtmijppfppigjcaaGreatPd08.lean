/- What SeenAt returns, on both sides. -/
import Derived.Test.YtmijppfppigjcaaGreatPd01
import Derived.Test.YtmijppfppigjcaaGreatPd07
import Derived.Test.YtmijppfppigjcaaGreatPd02
import Derived.Test.YtmijppfppigjcaaGreatProg
import Derived.WalkKit
import Derived.WalkSpells
import Derived.WalkLawsBesides
import Derived.Deep.QuietTactic
import Derived.BigQuiet
import Derived.Deep.RegionHeld3
import Derived.Deep.DrawnRows
import Derived.Deep.AppendLies
import Derived.Test.YtmijppfppigjcaaGreatPd03
import Derived.Sort.OwnSorted
import Derived.Lib.RowBridge
namespace Go.Proofs.YtmijppfppigjcaaGreat
open Go.RowKit
open KM
open VM
attribute [local go_sem ↓] Go.wp_at_zero Go.wp_at_succ

set_option maxRecDepth 100000 in
set_option maxHeartbeats 2000000 in
theorem at53 (vs : List Vr) (a : Option Addr) (c : Nat) (k : ByteArray) (s : Int) (hn : vs.length ≤ 100000000) (w : World) (hp : GRow encV w a vs) :
  Calls Tryz.prog 83 #[.slice a vs.length c, .string k, .int .i64 s] w fun e w' => e = .returned (.int .i64 (atI (lst k s (lab vs vs.length)))) ∧ Below w.heap.size w w' := by
 have HP : Hid (GRow encV w a vs) := hp
 clear hp
 go_enter Tryz.func83, Tryz.ntmps83
 go_wp2
 go_loopw [7, 8] (fun t7 t wr => ∃ i : Nat, i ≤ vs.length ∧ t = .int .i64 i ∧ t7 = .int .i64 (atI (lst k s (lab vs i))) ∧ Hid (Below w.heap.size w wr)) (fun _ t _ => vs.length - (intOf t).toNat)
 case atStart => exact ⟨0, Nat.zero_le _, rfl, rfl, belowRefl w⟩
 case round =>
  obtain ⟨i, hi, rfl, h7, HB⟩ := hrel
  by_cases hlt : i < vs.length
  ·have hlt' : (i : Int) < (vs.length : Int) := by omega
   have hi0 : (0 : Int) ≤ (i : Int) := by omega
   have HR : Hid (GRow encV wr a vs) := HP.out.below HB.out
   obtain ⟨b, off, rfl, hbl, hc⟩ := HR.out (by omega)
   have c0 := (vat hc i hlt).1
   have c3 := (vat hc i hlt).2.2.2
   have HC : Hid (∀ j (hj : j < vs.length), wr.cell? ⟨b, off + j * 4 + 3, none⟩ = some (.int .i64 vs[j].2.2.2)) := fun j hj => (vat hc j hj).2.2.2
   clear hc
   have HL : Hid (lst k s (lab vs (i + 1)) = stp k s (lst k s (lab vs i)) (i, vs[i])) := by show _ = _; rw [lab_succ hlt, lst_snoc]
   cases hk : (vs[i].1.toList == k.toList)
   ·obtain ⟨o, ho⟩ : ∃ o, o = atI (lst k s (lab vs i)) := ⟨_, rfl⟩
    rw [← ho] at h7
    have HO : Hid (o = atI (lst k s (lab vs i))) := ho
    clear ho
    subst h7
    have HS : Hid (Value.int .i64 o = .int .i64 (atI (lst k s (lab vs (i + 1))))) := by show _ = _; rw [HL.out, step_no (isOf_key hk), ← HO.out]
    go_wp2
    refine wp_region_held_drew (S := fun w' => w'.cell? ⟨b, off + i * 4, none⟩ = some (.string vs[i].1) ∧ w'.cell? ⟨b, off + i * 4 + 3, none⟩ = some (.int .i64 vs[i].2.2.2)) (by kernel_rfl) ⟨c0, c3⟩ (fun hHeld => ?_)
    (refine ti 0 ?_; simp only [Act.put, tA, tB, tD, tE, tF])
    (refine ti 1 ?_; simp only [Act.put, tA, tB, tC, tD, tE, tF])
    (refine ti 2 ?_; simp only [Act.put, tA, tB, tC, tD, tE, tF])
    (refine ti 3 ?_; simp only [Act.put, tA, tB, tC, tD, tE, tF])
    (refine ti 4 ?_; simp only [Act.put, tA, tB, tC, tD, tE, tF])
    (refine ti 5 ?_; simp only [Act.put, tA, tB, tC, tD, tE, tF])
    (refine ti 6 ?_; simp only [Act.put, tA, tB, tC, tD, tE, tF])
    (refine ti 7 ?_; simp only [Act.put, tA, tB, tC, tD, tE, tF])
    (refine tu 8 ?_; simp only [Act.put, tA, tB, tC, tD, tE, tF])
    (refine tu 9 ?_; simp only [Act.put, tA, tB, tC, tD, tE, tF])
    (refine tu 10 ?_; simp only [Act.put, tA, tB, tC, tD, tE, tF])
    (refine tu 11 ?_; simp only [Act.put, tA, tB, tC, tD, tE, tF])
    (refine tu 12 ?_; simp only [Act.put, tA, tB, tC, tD, tE, tF])
    (refine tu 13 ?_; simp only [Act.put, tA, tB, tC, tD, tE, tF])
    (refine tu 14 ?_; simp only [Act.put, tA, tB, tC, tD, tE, tF])
    (refine ti 15 ?_; simp only [Act.put, tA, tB, tC, tD, tE, tF])
    (refine ti 16 ?_; simp only [Act.put, tA, tB, tC, tD, tE, tF])
    (refine tu 17 ?_; simp only [Act.put, tA, tB, tC, tD, tE, tF])
    (refine tu 18 ?_; simp only [Act.put, tA, tB, tC, tD, tE, tF])
    (refine tu 19 ?_; simp only [Act.put, tA, tB, tC, tD, tE, tF])
    (refine tu 20 ?_; simp only [Act.put, tA, tB, tC, tD, tE, tF])
    (refine tu 21 ?_; simp only [Act.put, tA, tB, tC, tD, tE, tF])
    (refine tu 22 ?_; simp only [Act.put, tA, tB, tC, tD, tE, tF])
    (refine tu 23 ?_; simp only [Act.put, tA, tB, tC, tD, tE, tF])
    (refine tu 24 ?_; simp only [Act.put, tA, tB, tC, tD, tE, tF])
    (refine tu 25 ?_; simp only [Act.put, tA, tB, tC, tD, tE, tF])
    (refine tu 26 ?_; simp only [Act.put, tA, tB, tC, tD, tE, tF])
    (refine tu 27 ?_; simp only [Act.put, tA, tB, tC, tD, tE, tF])
    (refine tu 28 ?_; simp only [Act.put, tA, tB, tC, tD, tE, tF])
    (refine tu 29 ?_; simp only [Act.put, tA, tB, tC, tD, tE, tF])
    (refine tu 30 ?_; simp only [Act.put, tA, tB, tC, tD, tE, tF])
    (refine tu 31 ?_; simp only [Act.put, tA, tB, tC, tD, tE, tF])
    (refine ti 32 ?_; simp only [Act.put, tA, tB, tC, tD, tE, tF])
    refine wpAnyH_done (by kernel_rfl) ?_ _
    go_wp2
    go_roundw
    case rel => exact ⟨i + 1, by omega, by go_num, HS.out, HB.out.drew⟩
    case measure => simp [intOf]; omega
   ·by_cases hs : s < vs[i].2.2.2
    ·have hs' : decide (vs[i].2.2.2 ≤ s) = false := by simpa using hs
     obtain ⟨o, ho⟩ : ∃ o, o = atI (lst k s (lab vs i)) := ⟨_, rfl⟩
     rw [← ho] at h7
     have HO : Hid (o = atI (lst k s (lab vs i))) := ho
     clear ho
     subst h7
     have HS : Hid (Value.int .i64 o = .int .i64 (atI (lst k s (lab vs (i + 1))))) := by show _ = _; rw [HL.out, step_no (isOf_cs hs), ← HO.out]
     clear hs
     go_wp2
     refine wp_region_held_drew (S := fun w' => w'.cell? ⟨b, off + i * 4, none⟩ = some (.string vs[i].1) ∧ w'.cell? ⟨b, off + i * 4 + 3, none⟩ = some (.int .i64 vs[i].2.2.2)) (by kernel_rfl) ⟨c0, c3⟩ (fun hHeld => ?_)
     (refine ti 0 ?_; simp only [Act.put, tA, tB, tD, tE, tF])
     (refine ti 1 ?_; simp only [Act.put, tA, tB, tC, tD, tE, tF])
     (refine ti 2 ?_; simp only [Act.put, tA, tB, tC, tD, tE, tF])
     (refine ti 3 ?_; simp only [Act.put, tA, tB, tC, tD, tE, tF])
     (refine ti 4 ?_; simp only [Act.put, tA, tB, tC, tD, tE, tF])
     (refine ti 5 ?_; simp only [Act.put, tA, tB, tC, tD, tE, tF])
     (refine ti 6 ?_; simp only [Act.put, tA, tB, tC, tD, tE, tF])
     (refine ti 7 ?_; simp only [Act.put, tA, tB, tC, tD, tE, tF])
     (refine ti 8 ?_; simp only [Act.put, tA, tB, tC, tD, tE, tF])
     (refine ti 9 ?_; simp only [Act.put, tA, tB, tC, tD, tE, tF])
     (refine ti 10 ?_; simp only [Act.put, tA, tB, tC, tD, tE, tF])
     (refine ti 11 ?_; simp only [Act.put, tA, tB, tC, tD, tE, tF])
     (refine ti 12 ?_; simp only [Act.put, tA, tB, tC, tD, tE, tF])
     (refine ti 13 ?_; simp only [Act.put, tA, tB, tC, tD, tE, tF])
     (refine ti 14 ?_; simp only [Act.put, tA, tB, tC, tD, tE, tF])
     (refine ti 15 ?_; simp only [Act.put, tA, tB, tC, tD, tE, tF])
     (refine ti 16 ?_; simp only [Act.put, tA, tB, tC, tD, tE, tF])
     (refine tu 17 ?_; simp only [Act.put, tA, tB, tC, tD, tE, tF])
     (refine tu 18 ?_; simp only [Act.put, tA, tB, tC, tD, tE, tF])
     (refine tu 19 ?_; simp only [Act.put, tA, tB, tC, tD, tE, tF])
     (refine tu 20 ?_; simp only [Act.put, tA, tB, tC, tD, tE, tF])
     (refine tu 21 ?_; simp only [Act.put, tA, tB, tC, tD, tE, tF])
     (refine tu 22 ?_; simp only [Act.put, tA, tB, tC, tD, tE, tF])
     (refine tu 23 ?_; simp only [Act.put, tA, tB, tC, tD, tE, tF])
     (refine tu 24 ?_; simp only [Act.put, tA, tB, tC, tD, tE, tF])
     (refine tu 25 ?_; simp only [Act.put, tA, tB, tC, tD, tE, tF])
     (refine tu 26 ?_; simp only [Act.put, tA, tB, tC, tD, tE, tF])
     (refine tu 27 ?_; simp only [Act.put, tA, tB, tC, tD, tE, tF])
     (refine tu 28 ?_; simp only [Act.put, tA, tB, tC, tD, tE, tF])
     (refine tu 29 ?_; simp only [Act.put, tA, tB, tC, tD, tE, tF])
     (refine tu 30 ?_; simp only [Act.put, tA, tB, tC, tD, tE, tF])
     (refine tu 31 ?_; simp only [Act.put, tA, tB, tC, tD, tE, tF])
     (refine ti 32 ?_; simp only [Act.put, tA, tB, tC, tD, tE, tF])
     refine wpAnyH_done (by kernel_rfl) ?_ _
     go_wp2
     go_roundw
     case rel => exact ⟨i + 1, by omega, by go_num, HS.out, HB.out.drew⟩
     case measure => simp [intOf]; omega
    ·have hs' : decide (vs[i].2.2.2 ≤ s) = true := by simp; omega
     have HI : Hid (isOf k s vs[i] = true) := isOf_yes hk hs
     clear hs
     cases hl : lst k s (lab vs i) with
     | none =>
      rw [hl] at h7
      have h7' : (atI none) = -1 := rfl
      rw [h7'] at h7
      clear h7'
      subst h7
      have HS : Hid (Value.int .i64 (i : Int) = .int .i64 (atI (lst k s (lab vs (i + 1))))) := by show _ = _; rw [HL.out, hl, step_yes (a := none) HI.out rfl]; rfl
      clear hl
      go_wp2
      refine wp_region_held_drew (S := fun w' => w'.cell? ⟨b, off + i * 4, none⟩ = some (.string vs[i].1) ∧ w'.cell? ⟨b, off + i * 4 + 3, none⟩ = some (.int .i64 vs[i].2.2.2)) (by kernel_rfl) ⟨c0, c3⟩ (fun hHeld => ?_)
      (refine ti 0 ?_; simp only [Act.put, tA, tB, tD, tE, tF])
      (refine ti 1 ?_; simp only [Act.put, tA, tB, tC, tD, tE, tF])
      (refine ti 2 ?_; simp only [Act.put, tA, tB, tC, tD, tE, tF])
      (refine ti 3 ?_; simp only [Act.put, tA, tB, tC, tD, tE, tF])
      (refine ti 4 ?_; simp only [Act.put, tA, tB, tC, tD, tE, tF])
      (refine ti 5 ?_; simp only [Act.put, tA, tB, tC, tD, tE, tF])
      (refine ti 6 ?_; simp only [Act.put, tA, tB, tC, tD, tE, tF])
      (refine ti 7 ?_; simp only [Act.put, tA, tB, tC, tD, tE, tF])
      (refine ti 8 ?_; simp only [Act.put, tA, tB, tC, tD, tE, tF])
      (refine ti 9 ?_; simp only [Act.put, tA, tB, tC, tD, tE, tF])
      (refine ti 10 ?_; simp only [Act.put, tA, tB, tC, tD, tE, tF])
      (refine ti 11 ?_; simp only [Act.put, tA, tB, tC, tD, tE, tF])
      (refine ti 12 ?_; simp only [Act.put, tA, tB, tC, tD, tE, tF])
      (refine ti 13 ?_; simp only [Act.put, tA, tB, tC, tD, tE, tF])
      (refine ti 14 ?_; simp only [Act.put, tA, tB, tC, tD, tE, tF])
      (refine ti 15 ?_; simp only [Act.put, tA, tB, tC, tD, tE, tF])
      (refine ti 16 ?_; simp only [Act.put, tA, tB, tC, tD, tE, tF])
      (refine ti 17 ?_; simp only [Act.put, tA, tB, tC, tD, tE, tF])
      (refine ti 18 ?_; simp only [Act.put, tA, tB, tC, tD, tE, tF])
      (refine ti 19 ?_; simp only [Act.put, tA, tB, tC, tD, tE, tF])
      (refine tu 20 ?_; simp only [Act.put, tA, tB, tC, tD, tE, tF])
      (refine tu 21 ?_; simp only [Act.put, tA, tB, tC, tD, tE, tF])
      (refine tu 22 ?_; simp only [Act.put, tA, tB, tC, tD, tE, tF])
      (refine tu 23 ?_; simp only [Act.put, tA, tB, tC, tD, tE, tF])
      (refine tu 24 ?_; simp only [Act.put, tA, tB, tC, tD, tE, tF])
      (refine tu 25 ?_; simp only [Act.put, tA, tB, tC, tD, tE, tF])
      (refine tu 26 ?_; simp only [Act.put, tA, tB, tC, tD, tE, tF])
      (refine tu 27 ?_; simp only [Act.put, tA, tB, tC, tD, tE, tF])
      (refine tu 28 ?_; simp only [Act.put, tA, tB, tC, tD, tE, tF])
      (refine tu 29 ?_; simp only [Act.put, tA, tB, tC, tD, tE, tF])
      (refine tu 30 ?_; simp only [Act.put, tA, tB, tC, tD, tE, tF])
      (refine ti 31 ?_; simp only [Act.put, tA, tB, tC, tD, tE, tF])
      (refine ti 32 ?_; simp only [Act.put, tA, tB, tC, tD, tE, tF])
      refine wpAnyH_done (by kernel_rfl) ?_ _
      go_wp2
      go_roundw
      case rel => exact ⟨i + 1, by omega, by go_num, HS.out, HB.out.drew⟩
      case measure => simp [intOf]; omega
     | some m =>
      obtain ⟨hjl, hjv⟩ := lab_mem (lst_mem hl).1
      obtain ⟨j, vj⟩ := m
      have hj : j < vs.length := by have h : j < i := hjl; omega
      have EJ : Hid (vj = vs[j]) := by
       show _ = _
       have h : vs[j]? = some vj := hjv
       rw [List.getElem?_eq_getElem hj] at h
       exact (Option.some.inj h).symm
      rw [hl] at h7
      have h7' : (atI (some (j, vj))) = (j : Int) := rfl
      rw [h7'] at h7
      clear h7' hjl hjv
      subst h7
      have hj' : (j : Int) < (vs.length : Int) := by omega
      have hj0 : (0 : Int) ≤ (j : Int) := by omega
      have hj1 : decide ((j : Int) < 0) = false := by simp
      have d3 := HC.out j hj
      by_cases hc : vs[j].2.2.2 < vs[i].2.2.2
      ·have HS : Hid (Value.int .i64 (i : Int) = .int .i64 (atI (lst k s (lab vs (i + 1))))) := by show _ = _; rw [HL.out, hl, step_yes (a := some (j, vj)) HI.out (by simp only [more, EJ.out]; simpa using hc)]; rfl
       have hc' : decide (vs[j].2.2.2 < vs[i].2.2.2) = true := by simpa using hc
       clear hl hc
       go_wp2
       refine wp_region_held_drew (S := fun w' => w'.cell? ⟨b, off + i * 4, none⟩ = some (.string vs[i].1) ∧ w'.cell? ⟨b, off + i * 4 + 3, none⟩ = some (.int .i64 vs[i].2.2.2) ∧ w'.cell? ⟨b, off + j * 4 + 3, none⟩ = some (.int .i64 vs[j].2.2.2)) (by kernel_rfl) ⟨c0, c3, d3⟩ (fun hHeld => ?_)
       (refine ti 0 ?_; simp only [Act.put, tA, tB, tD, tE, tF])
       (refine ti 1 ?_; simp only [Act.put, tA, tB, tC, tD, tE, tF])
       (refine ti 2 ?_; simp only [Act.put, tA, tB, tC, tD, tE, tF])
       (refine ti 3 ?_; simp only [Act.put, tA, tB, tC, tD, tE, tF])
       (refine ti 4 ?_; simp only [Act.put, tA, tB, tC, tD, tE, tF])
       (refine ti 5 ?_; simp only [Act.put, tA, tB, tC, tD, tE, tF])
       (refine ti 6 ?_; simp only [Act.put, tA, tB, tC, tD, tE, tF])
       (refine ti 7 ?_; simp only [Act.put, tA, tB, tC, tD, tE, tF])
       (refine ti 8 ?_; simp only [Act.put, tA, tB, tC, tD, tE, tF])
       (refine ti 9 ?_; simp only [Act.put, tA, tB, tC, tD, tE, tF])
       (refine ti 10 ?_; simp only [Act.put, tA, tB, tC, tD, tE, tF])
       (refine ti 11 ?_; simp only [Act.put, tA, tB, tC, tD, tE, tF])
       (refine ti 12 ?_; simp only [Act.put, tA, tB, tC, tD, tE, tF])
       (refine ti 13 ?_; simp only [Act.put, tA, tB, tC, tD, tE, tF])
       (refine ti 14 ?_; simp only [Act.put, tA, tB, tC, tD, tE, tF])
       (refine ti 15 ?_; simp only [Act.put, tA, tB, tC, tD, tE, tF])
       (refine ti 16 ?_; simp only [Act.put, tA, tB, tC, tD, tE, tF])
       (refine ti 17 ?_; simp only [Act.put, tA, tB, tC, tD, tE, tF])
       (refine ti 18 ?_; simp only [Act.put, tA, tB, tC, tD, tE, tF])
       (refine ti 19 ?_; simp only [Act.put, tA, tB, tC, tD, tE, tF])
       (refine ti 20 ?_; simp only [Act.put, tA, tB, tC, tD, tE, tF])
       (refine ti 21 ?_; simp only [Act.put, tA, tB, tC, tD, tE, tF])
       (refine ti 22 ?_; simp only [Act.put, tA, tB, tC, tD, tE, tF])
       (refine ti 23 ?_; simp only [Act.put, tA, tB, tC, tD, tE, tF])
       (refine ti 24 ?_; simp only [Act.put, tA, tB, tC, tD, tE, tF])
       (refine ti 25 ?_; simp only [Act.put, tA, tB, tC, tD, tE, tF])
       (refine ti 26 ?_; simp only [Act.put, tA, tB, tC, tD, tE, tF])
       (refine ti 27 ?_; simp only [Act.put, tA, tB, tC, tD, tE, tF])
       (refine ti 28 ?_; simp only [Act.put, tA, tB, tC, tD, tE, tF])
       (refine ti 29 ?_; simp only [Act.put, tA, tB, tC, tD, tE, tF])
       (refine ti 30 ?_; simp only [Act.put, tA, tB, tC, tD, tE, tF])
       (refine ti 31 ?_; simp only [Act.put, tA, tB, tC, tD, tE, tF])
       (refine ti 32 ?_; simp only [Act.put, tA, tB, tC, tD, tE, tF])
       refine wpAnyH_done (by kernel_rfl) ?_ _
       go_wp2
       go_roundw
       case rel => exact ⟨i + 1, by omega, by go_num, HS.out, HB.out.drew⟩
       case measure => simp [intOf]; omega
      ·have HS : Hid (Value.int .i64 (j : Int) = .int .i64 (atI (lst k s (lab vs (i + 1))))) := by show _ = _; rw [HL.out, hl, step_less (m := (j, vj)) (by simp only [EJ.out]; exact hc)]; rfl
       have hc' : decide (vs[j].2.2.2 < vs[i].2.2.2) = false := by simpa using hc
       clear hl hc
       go_wp2
       refine wp_region_held_drew (S := fun w' => w'.cell? ⟨b, off + i * 4, none⟩ = some (.string vs[i].1) ∧ w'.cell? ⟨b, off + i * 4 + 3, none⟩ = some (.int .i64 vs[i].2.2.2) ∧ w'.cell? ⟨b, off + j * 4 + 3, none⟩ = some (.int .i64 vs[j].2.2.2)) (by kernel_rfl) ⟨c0, c3, d3⟩ (fun hHeld => ?_)
       (refine ti 0 ?_; simp only [Act.put, tA, tB, tD, tE, tF])
       (refine ti 1 ?_; simp only [Act.put, tA, tB, tC, tD, tE, tF])
       (refine ti 2 ?_; simp only [Act.put, tA, tB, tC, tD, tE, tF])
       (refine ti 3 ?_; simp only [Act.put, tA, tB, tC, tD, tE, tF])
       (refine ti 4 ?_; simp only [Act.put, tA, tB, tC, tD, tE, tF])
       (refine ti 5 ?_; simp only [Act.put, tA, tB, tC, tD, tE, tF])
       (refine ti 6 ?_; simp only [Act.put, tA, tB, tC, tD, tE, tF])
       (refine ti 7 ?_; simp only [Act.put, tA, tB, tC, tD, tE, tF])
       (refine ti 8 ?_; simp only [Act.put, tA, tB, tC, tD, tE, tF])
       (refine ti 9 ?_; simp only [Act.put, tA, tB, tC, tD, tE, tF])
       (refine ti 10 ?_; simp only [Act.put, tA, tB, tC, tD, tE, tF])
       (refine ti 11 ?_; simp only [Act.put, tA, tB, tC, tD, tE, tF])
       (refine ti 12 ?_; simp only [Act.put, tA, tB, tC, tD, tE, tF])
       (refine ti 13 ?_; simp only [Act.put, tA, tB, tC, tD, tE, tF])
       (refine ti 14 ?_; simp only [Act.put, tA, tB, tC, tD, tE, tF])
       (refine ti 15 ?_; simp only [Act.put, tA, tB, tC, tD, tE, tF])
       (refine ti 16 ?_; simp only [Act.put, tA, tB, tC, tD, tE, tF])
       (refine ti 17 ?_; simp only [Act.put, tA, tB, tC, tD, tE, tF])
       (refine ti 18 ?_; simp only [Act.put, tA, tB, tC, tD, tE, tF])
       (refine ti 19 ?_; simp only [Act.put, tA, tB, tC, tD, tE, tF])
       (refine ti 20 ?_; simp only [Act.put, tA, tB, tC, tD, tE, tF])
       (refine ti 21 ?_; simp only [Act.put, tA, tB, tC, tD, tE, tF])
       (refine ti 22 ?_; simp only [Act.put, tA, tB, tC, tD, tE, tF])
       (refine ti 23 ?_; simp only [Act.put, tA, tB, tC, tD, tE, tF])
       (refine ti 24 ?_; simp only [Act.put, tA, tB, tC, tD, tE, tF])
       (refine ti 25 ?_; simp only [Act.put, tA, tB, tC, tD, tE, tF])
       (refine ti 26 ?_; simp only [Act.put, tA, tB, tC, tD, tE, tF])
       (refine ti 27 ?_; simp only [Act.put, tA, tB, tC, tD, tE, tF])
       (refine ti 28 ?_; simp only [Act.put, tA, tB, tC, tD, tE, tF])
       (refine ti 29 ?_; simp only [Act.put, tA, tB, tC, tD, tE, tF])
       (refine ti 30 ?_; simp only [Act.put, tA, tB, tC, tD, tE, tF])
       (refine ti 31 ?_; simp only [Act.put, tA, tB, tC, tD, tE, tF])
       (refine ti 32 ?_; simp only [Act.put, tA, tB, tC, tD, tE, tF])
       refine wpAnyH_done (by kernel_rfl) ?_ _
       go_wp2
       go_roundw
       case rel => exact ⟨i + 1, by omega, by go_num, HS.out, HB.out.drew⟩
       case measure => simp [intOf]; omega
  ·have hlt' : ¬ (i : Int) < (vs.length : Int) := by omega
   have hil : i = vs.length := by omega
   subst hil
   obtain ⟨o, ho⟩ : ∃ o, o = atI (lst k s (lab vs vs.length)) := ⟨_, rfl⟩
   rw [← ho] at h7
   have HO : Hid (o = atI (lst k s (lab vs vs.length))) := ho
   clear ho
   subst h7
   go_wp2
   go_ret
   exact ⟨ret_int HO.out, HB.out⟩

end Go.Proofs.YtmijppfppigjcaaGreat

namespace Go.Proofs.YtmijppfppigjcaaGreat
open Go.RowKit
open KM
open VM
attribute [local go_sem ↓] Go.wp_at_zero Go.wp_at_succ

end Go.Proofs.YtmijppfppigjcaaGreat

namespace Go.Proofs.YtmijppfppigjcaaGreat
open Go.RowKit
open KM
open VM
attribute [local go_sem ↓] Go.wp_at_zero Go.wp_at_succ

theorem filt_len {α : Type} (p : α → Bool) (xs : List α) (k n : Nat) (h : xs.length ≤ n) : ((xs.take k).filter p).length ≤ n := Nat.le_trans (List.length_filter_le _ _) (by rw [List.length_take]; omega)
structure KI (vs : List Vr) (rg : Rg) (i : Nat) (ks : List ByteArray) : Prop where
 up : ks.Pairwise (fun a b => lt a b = true)
 mem : ∀ x, x ∈ ks ↔ x ∈ (vs.take i).map (·.1) ∧ inB rg x = true
 len : ks.length ≤ i
theorem KI.no {vs : List Vr} {rg : Rg} {i : Nat} {ks : List ByteArray} (h : KI vs rg i ks) (hi : i < vs.length) (hn : inB rg vs[i].1 = false) : KI vs rg (i + 1) ks := by
 refine ⟨h.up, fun x => ?_, by have := h.len; omega⟩
 rw [h.mem, List.take_succ_eq_append_getElem hi, List.map_append, List.mem_append]
 constructor
 ·exact fun ⟨h1, h2⟩ => ⟨Or.inl h1, h2⟩
 ·rintro ⟨h1 | h1, h2⟩
  ·exact ⟨h1, h2⟩
  ·rw [List.map_singleton, List.mem_singleton] at h1
   rw [h1, hn] at h2; cases h2
theorem KI.yes {vs : List Vr} {rg : Rg} {i : Nat} {ks : List ByteArray} (h : KI vs rg i ks) (hi : i < vs.length) (hn : inB rg vs[i].1 = true) : KI vs rg (i + 1) (insK ks vs[i].1) := by
 obtain ⟨h1, h2⟩ := ins_spec (k := vs[i].1) h.up
 refine ⟨h1, fun x => ?_, ?_⟩
 ·rw [h2, h.mem, List.take_succ_eq_append_getElem hi, List.map_append, List.mem_append, List.map_singleton, List.mem_singleton]
  constructor
  ·rintro (rfl | ⟨h1, h2⟩)
   ·exact ⟨Or.inr rfl, hn⟩
   ·exact ⟨Or.inl h1, h2⟩
  ·rintro ⟨h1 | h1, h2⟩
   ·exact Or.inr ⟨h1, h2⟩
   ·exact Or.inl h1
 ·have e : (insK ks vs[i].1).length ≤ ks.length + 1 := by
   unfold insK
   simp only [List.length_append, List.length_singleton]
   have : (ks.filter fun y => lt y vs[i].1).length + (ks.filter fun y => lt vs[i].1 y).length ≤ ks.length := by
    clear h1 h2 h hn
    induction ks with
    | nil => simp
    | cons a l ih =>
     simp only [List.filter_cons]
     cases h3 : lt a vs[i].1
     ·cases h4 : lt vs[i].1 a <;> simp <;> omega
     ·have h4 : lt vs[i].1 a = false := less_asymm _ _ h3
      rw [h4]
      simp; omega
   omega
  have := h.len
  omega
end Go.Proofs.YtmijppfppigjcaaGreat

namespace Go.Proofs.YtmijppfppigjcaaGreat
open Go.RowKit
open KM
attribute [local go_sem ↓] Go.wp_at_zero Go.wp_at_succ

def CodeOk (w : World) (a : Option Addr) (len g : Nat) : Prop :=
 0 < len → ∃ b off, a = some ⟨b, off, none⟩ ∧ b < w.heap.size ∧ b ≠ g ∧ ∀ i, i < len → ∃ z : Int, 0 ≤ z ∧ z ≤ 255 ∧ w.cell? ⟨b, off + i, none⟩ = some (.int .u8 z)

structure Cur (w : World) (g : Nat) (a : Option Addr) (len cap : Nat) (i h : Int) : Prop where
 c0 : w.cell? ⟨g, 0, none⟩ = some (.slice a len cap)
 c1 : w.cell? ⟨g, 1, none⟩ = some (.int .i64 i)
 c2 : w.cell? ⟨g, 2, none⟩ = some (.int .i64 h)
 free : ∀ j, w.frozen? ⟨g, j, none⟩ = false
 i0 : 0 ≤ i
 i1 : i ≤ (len : Int)

theorem CodeOk.grown {w w' : World} {a : Option Addr} {len g : Nat} (h : CodeOk w a len g) (hg : w.grownBy w' (some g)) : CodeOk w' a len g := fun hl => by
 obtain ⟨b, off, ha, hb, hne, hz⟩ := h hl
 refine ⟨b, off, ha, Nat.lt_of_lt_of_le hb hg.size, hne, fun i hi => ?_⟩
 obtain ⟨z, h0, h1, hc⟩ := hz i hi
 exact ⟨z, h0, h1, (World.cell?_of_block (w := w) (a := ⟨b, off + i, none⟩) (hg.block b hb (fun e => hne (Option.some.inj e)))).trans hc⟩

theorem Cur.drewN {w : World} {g len cap : Nat} {a : Option Addr} {i h : Int} (c : Cur w g a len cap i h) (n : Nat) : Cur (w.drewN n) g a len cap i h := ⟨c.c0, c.c1, c.c2, c.free, c.i0, c.i1⟩

def CurOk (w : World) (g : Nat) (a : Option Addr) (len cap : Nat) : Prop := ∃ i h, Cur w g a len cap i h ∧ CodeOk w a len g

theorem CurOk.below {w w' : World} {g len cap : Nat} {a : Option Addr} (h : CurOk w g a len cap) (hb : Below w.heap.size w w') (hg : g < w.heap.size) : CurOk w' g a len cap := by
 obtain ⟨i, x, c, k⟩ := h
 refine ⟨i, x, ⟨(hb.cell (p := ⟨g, 0, none⟩) hg).trans c.c0, (hb.cell (p := ⟨g, 1, none⟩) hg).trans c.c1, (hb.cell (p := ⟨g, 2, none⟩) hg).trans c.c2, fun j => (hb.frozen (p := ⟨g, j, none⟩) hg).trans (c.free j), c.i0, c.i1⟩, fun hl => ?_⟩
 obtain ⟨b, off, ha, hb1, hne, hz⟩ := k hl
 refine ⟨b, off, ha, Nat.lt_of_lt_of_le hb1 hb.size, hne, fun j hj => ?_⟩
 obtain ⟨z, h0, h1, hc⟩ := hz j hj
 exact ⟨z, h0, h1, (hb.cell (p := ⟨b, off + j, none⟩) hb1).trans hc⟩

def CodeRow (w : World) (a : Option Addr) (len : Nat) : Prop :=
 0 < len → ∃ b off, a = some ⟨b, off, none⟩ ∧ b < w.heap.size ∧ ∀ i, i < len → ∃ z : Int, 0 ≤ z ∧ z ≤ 255 ∧ w.cell? ⟨b, off + i, none⟩ = some (.int .u8 z)

theorem CodeRow.below {w w' : World} {a : Option Addr} {len : Nat} (h : CodeRow w a len) (hb : Below w.heap.size w w') : CodeRow w' a len := fun hl => by
 obtain ⟨b, off, ha, hb1, hz⟩ := h hl
 refine ⟨b, off, ha, Nat.lt_of_lt_of_le hb1 hb.size, fun j hj => ?_⟩
 obtain ⟨z, h0, h1, hc⟩ := hz j hj
 exact ⟨z, h0, h1, (hb.cell (p := ⟨b, off + j, none⟩) hb1).trans hc⟩

structure CurI (w : World) (g : Nat) (a : Option Addr) (len cap : Nat) : Prop where
 c : CurOk w g a len cap
 lt : g < w.heap.size
 sm : len ≤ 1048576
theorem CurI.below {w w' : World} {g len cap : Nat} {a : Option Addr} (h : CurI w g a len cap) (hb : Below w.heap.size w w') : CurI w' g a len cap :=
 ⟨h.c.below hb h.lt, Nat.lt_of_lt_of_le h.lt hb.size, h.sm⟩
theorem CurI.drew {w : World} {g len cap : Nat} {a : Option Addr} (h : CurI w g a len cap) : CurI w.drew g a len cap := h.below ((belowRefl w).drew)
theorem CurI.alloc {w : World} {g len cap : Nat} {a : Option Addr} (h : CurI w g a len cap) (o : Obj) : CurI (w.alloc o) g a len cap := h.below ((belowRefl w).alloc (Nat.le_refl _) o)

def OldC (w0 : World) (g : Nat) (a : Option Addr) (len : Nat) : Prop := g < w0.heap.size ∧ ∀ b off, a = some ⟨b, off, none⟩ → 0 < len → b < w0.heap.size
theorem CurI.old {w : World} {g len cap : Nat} {a : Option Addr} (h : CurI w g a len cap) : OldC w g a len :=
 ⟨h.lt, fun b off e hl => by
  obtain ⟨i, x, c, k⟩ := h.c
  obtain ⟨b', off', ha, hb, _⟩ := k hl
  rw [e] at ha
  cases ha
  exact hb⟩
theorem OldC.le {w w' : World} {g len : Nat} {a : Option Addr} (h : OldC w g a len) (hs : w.heap.size ≤ w'.heap.size) : OldC w' g a len :=
 ⟨Nat.lt_of_lt_of_le h.1 hs, fun b off e hl => Nat.lt_of_lt_of_le (h.2 b off e hl) hs⟩

theorem CurOk.belowB {w w' : World} {g len cap B : Nat} {a : Option Addr} (h : CurOk w g a len cap) (hb : Below B w w') (hg : g < B) (hcode : ∀ b off, a = some ⟨b, off, none⟩ → 0 < len → b < B) : CurOk w' g a len cap := by
 obtain ⟨i, x, c, k⟩ := h
 refine ⟨i, x, ⟨(hb.cell (p := ⟨g, 0, none⟩) hg).trans c.c0, (hb.cell (p := ⟨g, 1, none⟩) hg).trans c.c1, (hb.cell (p := ⟨g, 2, none⟩) hg).trans c.c2, fun j => (hb.frozen (p := ⟨g, j, none⟩) hg).trans (c.free j), c.i0, c.i1⟩, fun hl => ?_⟩
 obtain ⟨b, off, ha, hb1, hne, hz⟩ := k hl
 refine ⟨b, off, ha, Nat.lt_of_lt_of_le hb1 hb.size, hne, fun j hj => ?_⟩
 obtain ⟨z, h0, h1, hc⟩ := hz j hj
 exact ⟨z, h0, h1, (hb.cell (p := ⟨b, off + j, none⟩) (hcode b off ha hl)).trans hc⟩
theorem grown_belowB {w w2 w3 : World} {g B : Nat} (h : w.grownBy w2 (some g)) (hb : Below B w2 w3) (hB : w.heap.size ≤ B) : w.grownBy w3 (some g) :=
 ⟨hb.os.trans h.os, hb.tape.trans h.tape, hb.output.trans h.output, Nat.le_trans h.size hb.size, fun j hj hne => (hb.block j (by omega)).trans (h.block j hj hne)⟩

structure Dn (w0 w : World) (g : Nat) (a : Option Addr) (len cap : Nat) : Prop where
 c : CurI w g a len cap
 gr : w0.grownBy w (some g)
 old : OldC w0 g a len
section
variable {w0 w w' : World} {g len cap : Nat} {a : Option Addr}
theorem Dn.belowB (h : Dn w0 w g a len cap) (hb : Below w0.heap.size w w') : Dn w0 w' g a len cap :=
 ⟨⟨h.c.c.belowB hb h.old.1 h.old.2, Nat.lt_of_lt_of_le h.c.lt hb.size, h.c.sm⟩, grown_belowB h.gr hb (Nat.le_refl _), h.old⟩
theorem Dn.below (h : Dn w0 w g a len cap) (hb : Below w.heap.size w w') : Dn w0 w' g a len cap := h.belowB (hb.mono h.gr.size)
theorem Dn.set (h : Dn w0 w g a len cap) {p : Addr} (hp : w0.heap.size ≤ p.block) (u : Value) : Dn w0 (w.setCell p u) g a len cap := h.belowB ((Below.refl _ _).setCell hp u)
theorem Dn.alloc (h : Dn w0 w g a len cap) (o : Obj) : Dn w0 (w.alloc o) g a len cap := h.below ((belowRefl w).alloc (Nat.le_refl _) o)
theorem Dn.drew (h : Dn w0 w g a len cap) : Dn w0 w.drew g a len cap := h.below ((belowRefl w).drew)
theorem Dn.size (h : Dn w0 w g a len cap) : w0.heap.size ≤ w.heap.size := h.gr.size
theorem Dn.out {B : Nat} (h : Dn w0 w g a len cap) (hB : Below B w' w0) (hg : B ≤ g) (hs : B ≤ w0.heap.size) : Below B w' w :=
 hB.grown h.gr hs (fun j hj => by cases hj; exact hg)
end

section
variable {w w' : World} {b : Nat} {cs : List Value}
end

end Go.Proofs.YtmijppfppigjcaaGreat

namespace Go.Proofs.YtmijppfppigjcaaGreat
open Go.RowKit
open KM
attribute [local go_sem ↓] Go.wp_at_zero Go.wp_at_succ

def KeyD (s : ByteArray) : Prop := keyB s = true ∧ s.size ≤ 3
def RgD (r : Rg) : Prop := KeyD r.1 ∧ KeyD r.2 ∧ le r.1 r.2 = true
theorem le_of_lt {x y : ByteArray} (h : Op.bytesLess x.toList y.toList = true) : le x y = true := by unfold le; rw [h]; rfl

end Go.Proofs.YtmijppfppigjcaaGreat

namespace Go.Proofs.YtmijppfppigjcaaGreat
open Go.RowKit
open KM
attribute [local go_sem ↓] Go.wp_at_zero Go.wp_at_succ

theorem wone {s t : ByteArray} {b : Bool} : ∀ u ∈ ([.string s, .string t, .bool b] : List Value), u.oneCell' = true := by
 intro u hu
 simp only [List.mem_cons, List.not_mem_nil, or_false] at hu
 rcases hu with rfl | rfl | rfl <;> rfl
theorem wpAppW {ops : Array Oper} {rest : List Oper} {o : Oper} {a : Act} {Q : Exit → Act → World → Prop} (hgd : o.guard = none) (s x : Operand) (ho : o.op = .call { callee := .builtin .append, args := #[s, x], argTypes := #[60, 60] })
  {W : World} {base : Nat} {v : Value} {xs : List Wt} (y : Wt) (hs : a.eval s = v) (hown : GOwn encW 148 W base v xs)
  (hx : a.eval x = .slice (some ⟨W.heap.size, 0, none⟩) 1 1) (hlen : xs.length ≤ 100000000) (hB : base ≤ W.heap.size)
  (h : ∀ v' w', GOwn encW 148 w' base v' (xs ++ [y]) → Below base W w' → wpList Tryz.prog ops Q rest (a.put o.dst v') w') :
  wpList Tryz.prog ops Q (o :: rest) a (W.alloc (.cells #[.string y.1, .string y.2.1, .bool y.2.2] 148)) := by
 refine wpAppG 60 148 3 40 _ Tryz.underlying60 Tryz.info148 rfl (by omega) (by omega) hgd s x ho (encW.enc y) hs (World.ownsRow.alloc hown _) hx (heap_alloc_new W _) rfl wone (by omega) (by simp; omega) ?_
 intro g' cap w' h1 h2
 refine h _ w' ?_ (((Below.refl _ _).alloc hB _).trans h2)
 have e : encW.cells (xs ++ [y]) = encW.cells xs ++ encW.enc y := by rw [encW.cells_app]; simp [Enc.cells]
 unfold GOwn
 rw [e, List.length_append]
 exact h1
end Go.Proofs.YtmijppfppigjcaaGreat

namespace Go.Proofs.YtmijppfppigjcaaGreat
open Go.RowKit
open KM
attribute [local go_sem ↓] Go.wp_at_zero Go.wp_at_succ

def WtD (x : Wt) : Prop := writeB x = true ∧ x.1.size ≤ 3 ∧ x.2.1.size ≤ 3
def Asc (xs : List Wt) : Prop := xs.Pairwise fun a b => lt a.1 b.1 = true
def WsD (xs : List Wt) : Prop := (∀ x ∈ xs, WtD x) ∧ Asc xs

theorem WsD.fit {xs : List Wt} (h : WsD xs) : WFit xs := fun x hx => ⟨by have := (h.1 x hx).2.1; omega, by have := (h.1 x hx).2.2; omega⟩

end Go.Proofs.YtmijppfppigjcaaGreat

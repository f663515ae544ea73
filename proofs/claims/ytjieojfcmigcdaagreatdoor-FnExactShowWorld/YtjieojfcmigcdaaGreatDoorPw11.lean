/- What SeenAt returns, on both sides. -/
import Derived.Test.YtjieojfcmigcdaaGreatDoorPw01
import Derived.Test.YtjieojfcmigcdaaGreatDoorProg
import Derived.WalkKit
import Derived.WalkSpells
import Derived.WalkLawsBesides
import Derived.Deep.QuietTactic
import Derived.BigQuiet
import Derived.Deep.RegionHeld3
import Derived.Deep.DrawnRows
import Derived.Test.YtjieojfcmigcdaaGreatDoorPw05
import Derived.Deep.AppendLies
import Derived.Test.YtjieojfcmigcdaaGreatDoorPw02
import Derived.Deep.RegionHeld
import Derived.Test.YtjieojfcmigcdaaGreatDoorPw03
import Derived.Test.YtjieojfcmigcdaaGreatDoorPw08
import Derived.Test.YtjieojfcmigcdaaGreatDoorPw09
import Derived.Deep.LoopGhost
import Derived.Test.YtjieojfcmigcdaaGreatDoorPw10
namespace Go.Proofs.YtjieojfcmigcdaaGreatDoor
open Go.RowKit
open KM
open VM
attribute [local go_sem ↓] Go.wp_at_zero Go.wp_at_succ

set_option maxRecDepth 100000 in
set_option maxHeartbeats 2000000 in
theorem at53 (vs : List Vr) (a : Option Addr) (c : Nat) (k : ByteArray) (s : Int) (hn : vs.length ≤ 100000000) (w : World) (hp : GRow encV w a vs) :
  Calls Tryz.prog 60 #[.slice a vs.length c, .string k, .int .i64 s] w fun e w' => e = .returned (.int .i64 (atI (lst k s (lab vs vs.length)))) ∧ Below w.heap.size w w' := by
 have HP : Hid (GRow encV w a vs) := hp
 clear hp
 go_enter Tryz.func60, Tryz.ntmps60
 go_wp2
 go_loopw [7, 8] (fun t7 t wr => ∃ i : Nat, i ≤ vs.length ∧ t = .int .i64 i ∧ t7 = .int .i64 (atI (lst k s (lab vs i))) ∧ Hid (Below w.heap.size w wr)) (fun _ t _ => vs.length - (intOf t).toNat)
 case atStart => exact ⟨0, Nat.zero_le _, rfl, rfl, belowRefl w⟩
 case round =>
  obtain ⟨i, hi, rfl, h7, HB⟩ := hrel
  by_cases hlt : i < vs.length
  ·have hlt' : (i : Int) < (vs.length : Int) := by omega
   have hi0 : (0 : Int) ≤ (i : Int) := by omega
   have HR : Hid (GRow encV wr a vs) := HP.out.below HB.out
   obtain ⟨b, off, rfl, hbl, hc⟩ := HR.out (by omega)
   have c0 := (vat hc i hlt).1
   have c3 := (vat hc i hlt).2.2.2
   have HC : Hid (∀ j (hj : j < vs.length), wr.cell? ⟨b, off + j * 4 + 3, none⟩ = some (.int .i64 vs[j].2.2.2)) := fun j hj => (vat hc j hj).2.2.2
   clear hc
   have HL : Hid (lst k s (lab vs (i + 1)) = stp k s (lst k s (lab vs i)) (i, vs[i])) := by show _ = _; rw [lab_succ hlt, lst_snoc]
   cases hk : (vs[i].1.toList == k.toList)
   ·obtain ⟨o, ho⟩ : ∃ o, o = atI (lst k s (lab vs i)) := ⟨_, rfl⟩
    rw [← ho] at h7
    have HO : Hid (o = atI (lst k s (lab vs i))) := ho
    clear ho
    subst h7
    have HS : Hid (Value.int .i64 o = .int .i64 (atI (lst k s (lab vs (i + 1))))) := by show _ = _; rw [HL.out, step_no (isOf_key hk), ← HO.out]
    go_wp2
    refine wp_region_held_drew (S := fun w' => w'.cell? ⟨b, off + i * 4, none⟩ = some (.string vs[i].1) ∧ w'.cell? ⟨b, off + i * 4 + 3, none⟩ = some (.int .i64 vs[i].2.2.2)) (by kernel_rfl) ⟨c0, c3⟩ (fun hHeld => ?_)
    (refine ti 0 ?_; simp only [Act.put, tA, tB, tD, tE, tF])
    (refine ti 1 ?_; simp only [Act.put, tA, tB, tC, tD, tE, tF])
    (refine ti 2 ?_; simp only [Act.put, tA, tB, tC, tD, tE, tF])
    (refine ti 3 ?_; simp only [Act.put, tA, tB, tC, tD, tE, tF])
    (refine ti 4 ?_; simp only [Act.put, tA, tB, tC, tD, tE, tF])
    (refine ti 5 ?_; simp only [Act.put, tA, tB, tC, tD, tE, tF])
    (refine ti 6 ?_; simp only [Act.put, tA, tB, tC, tD, tE, tF])
    (refine ti 7 ?_; simp only [Act.put, tA, tB, tC, tD, tE, tF])
    (refine tu 8 ?_; simp only [Act.put, tA, tB, tC, tD, tE, tF])
    (refine tu 9 ?_; simp only [Act.put, tA, tB, tC, tD, tE, tF])
    (refine tu 10 ?_; simp only [Act.put, tA, tB, tC, tD, tE, tF])
    (refine tu 11 ?_; simp only [Act.put, tA, tB, tC, tD, tE, tF])
    (refine tu 12 ?_; simp only [Act.put, tA, tB, tC, tD, tE, tF])
    (refine tu 13 ?_; simp only [Act.put, tA, tB, tC, tD, tE, tF])
    (refine tu 14 ?_; simp only [Act.put, tA, tB, tC, tD, tE, tF])
    (refine ti 15 ?_; simp only [Act.put, tA, tB, tC, tD, tE, tF])
    (refine ti 16 ?_; simp only [Act.put, tA, tB, tC, tD, tE, tF])
    (refine tu 17 ?_; simp only [Act.put, tA, tB, tC, tD, tE, tF])
    (refine tu 18 ?_; simp only [Act.put, tA, tB, tC, tD, tE, tF])
    (refine tu 19 ?_; simp only [Act.put, tA, tB, tC, tD, tE, tF])
    (refine tu 20 ?_; simp only [Act.put, tA, tB, tC, tD, tE, tF])
    (refine tu 21 ?_; simp only [Act.put, tA, tB, tC, tD, tE, tF])
    (refine tu 22 ?_; simp only [Act.put, tA, tB, tC, tD, tE, tF])
    (refine tu 23 ?_; simp only [Act.put, tA, tB, tC, tD, tE, tF])
    (refine tu 24 ?_; simp only [Act.put, tA, tB, tC, tD, tE, tF])
    (refine tu 25 ?_; simp only [Act.put, tA, tB, tC, tD, tE, tF])
    (refine tu 26 ?_; simp only [Act.put, tA, tB, tC, tD, tE, tF])
    (refine tu 27 ?_; simp only [Act.put, tA, tB, tC, tD, tE, tF])
    (refine tu 28 ?_; simp only [Act.put, tA, tB, tC, tD, tE, tF])
    (refine tu 29 ?_; simp only [Act.put, tA, tB, tC, tD, tE, tF])
    (refine tu 30 ?_; simp only [Act.put, tA, tB, tC, tD, tE, tF])
    (refine tu 31 ?_; simp only [Act.put, tA, tB, tC, tD, tE, tF])
    (refine ti 32 ?_; simp only [Act.put, tA, tB, tC, tD, tE, tF])
    refine wpAnyH_done (by kernel_rfl) ?_ _
    go_wp2
    go_roundw
    case rel => exact ⟨i + 1, by omega, by go_num, HS.out, HB.out.drew⟩
    case measure => simp [intOf]; omega
   ·by_cases hs : s < vs[i].2.2.2
    ·have hs' : decide (vs[i].2.2.2 ≤ s) = false := by simpa using hs
     obtain ⟨o, ho⟩ : ∃ o, o = atI (lst k s (lab vs i)) := ⟨_, rfl⟩
     rw [← ho] at h7
     have HO : Hid (o = atI (lst k s (lab vs i))) := ho
     clear ho
     subst h7
     have HS : Hid (Value.int .i64 o = .int .i64 (atI (lst k s (lab vs (i + 1))))) := by show _ = _; rw [HL.out, step_no (isOf_cs hs), ← HO.out]
     clear hs
     go_wp2
     refine wp_region_held_drew (S := fun w' => w'.cell? ⟨b, off + i * 4, none⟩ = some (.string vs[i].1) ∧ w'.cell? ⟨b, off + i * 4 + 3, none⟩ = some (.int .i64 vs[i].2.2.2)) (by kernel_rfl) ⟨c0, c3⟩ (fun hHeld => ?_)
     (refine ti 0 ?_; simp only [Act.put, tA, tB, tD, tE, tF])
     (refine ti 1 ?_; simp only [Act.put, tA, tB, tC, tD, tE, tF])
     (refine ti 2 ?_; simp only [Act.put, tA, tB, tC, tD, tE, tF])
     (refine ti 3 ?_; simp only [Act.put, tA, tB, tC, tD, tE, tF])
     (refine ti 4 ?_; simp only [Act.put, tA, tB, tC, tD, tE, tF])
     (refine ti 5 ?_; simp only [Act.put, tA, tB, tC, tD, tE, tF])
     (refine ti 6 ?_; simp only [Act.put, tA, tB, tC, tD, tE, tF])
     (refine ti 7 ?_; simp only [Act.put, tA, tB, tC, tD, tE, tF])
     (refine ti 8 ?_; simp only [Act.put, tA, tB, tC, tD, tE, tF])
     (refine ti 9 ?_; simp only [Act.put, tA, tB, tC, tD, tE, tF])
     (refine ti 10 ?_; simp only [Act.put, tA, tB, tC, tD, tE, tF])
     (refine ti 11 ?_; simp only [Act.put, tA, tB, tC, tD, tE, tF])
     (refine ti 12 ?_; simp only [Act.put, tA, tB, tC, tD, tE, tF])
     (refine ti 13 ?_; simp only [Act.put, tA, tB, tC, tD, tE, tF])
     (refine ti 14 ?_; simp only [Act.put, tA, tB, tC, tD, tE, tF])
     (refine ti 15 ?_; simp only [Act.put, tA, tB, tC, tD, tE, tF])
     (refine ti 16 ?_; simp only [Act.put, tA, tB, tC, tD, tE, tF])
     (refine tu 17 ?_; simp only [Act.put, tA, tB, tC, tD, tE, tF])
     (refine tu 18 ?_; simp only [Act.put, tA, tB, tC, tD, tE, tF])
     (refine tu 19 ?_; simp only [Act.put, tA, tB, tC, tD, tE, tF])
     (refine tu 20 ?_; simp only [Act.put, tA, tB, tC, tD, tE, tF])
     (refine tu 21 ?_; simp only [Act.put, tA, tB, tC, tD, tE, tF])
     (refine tu 22 ?_; simp only [Act.put, tA, tB, tC, tD, tE, tF])
     (refine tu 23 ?_; simp only [Act.put, tA, tB, tC, tD, tE, tF])
     (refine tu 24 ?_; simp only [Act.put, tA, tB, tC, tD, tE, tF])
     (refine tu 25 ?_; simp only [Act.put, tA, tB, tC, tD, tE, tF])
     (refine tu 26 ?_; simp only [Act.put, tA, tB, tC, tD, tE, tF])
     (refine tu 27 ?_; simp only [Act.put, tA, tB, tC, tD, tE, tF])
     (refine tu 28 ?_; simp only [Act.put, tA, tB, tC, tD, tE, tF])
     (refine tu 29 ?_; simp only [Act.put, tA, tB, tC, tD, tE, tF])
     (refine tu 30 ?_; simp only [Act.put, tA, tB, tC, tD, tE, tF])
     (refine tu 31 ?_; simp only [Act.put, tA, tB, tC, tD, tE, tF])
     (refine ti 32 ?_; simp only [Act.put, tA, tB, tC, tD, tE, tF])
     refine wpAnyH_done (by kernel_rfl) ?_ _
     go_wp2
     go_roundw
     case rel => exact ⟨i + 1, by omega, by go_num, HS.out, HB.out.drew⟩
     case measure => simp [intOf]; omega
    ·have hs' : decide (vs[i].2.2.2 ≤ s) = true := by simp; omega
     have HI : Hid (isOf k s vs[i] = true) := isOf_yes hk hs
     clear hs
     cases hl : lst k s (lab vs i) with
     | none =>
      rw [hl] at h7
      have h7' : (atI none) = -1 := rfl
      rw [h7'] at h7
      clear h7'
      subst h7
      have HS : Hid (Value.int .i64 (i : Int) = .int .i64 (atI (lst k s (lab vs (i + 1))))) := by show _ = _; rw [HL.out, hl, step_yes (a := none) HI.out rfl]; rfl
      clear hl
      go_wp2
      refine wp_region_held_drew (S := fun w' => w'.cell? ⟨b, off + i * 4, none⟩ = some (.string vs[i].1) ∧ w'.cell? ⟨b, off + i * 4 + 3, none⟩ = some (.int .i64 vs[i].2.2.2)) (by kernel_rfl) ⟨c0, c3⟩ (fun hHeld => ?_)
      (refine ti 0 ?_; simp only [Act.put, tA, tB, tD, tE, tF])
      (refine ti 1 ?_; simp only [Act.put, tA, tB, tC, tD, tE, tF])
      (refine ti 2 ?_; simp only [Act.put, tA, tB, tC, tD, tE, tF])
      (refine ti 3 ?_; simp only [Act.put, tA, tB, tC, tD, tE, tF])
      (refine ti 4 ?_; simp only [Act.put, tA, tB, tC, tD, tE, tF])
      (refine ti 5 ?_; simp only [Act.put, tA, tB, tC, tD, tE, tF])
      (refine ti 6 ?_; simp only [Act.put, tA, tB, tC, tD, tE, tF])
      (refine ti 7 ?_; simp only [Act.put, tA, tB, tC, tD, tE, tF])
      (refine ti 8 ?_; simp only [Act.put, tA, tB, tC, tD, tE, tF])
      (refine ti 9 ?_; simp only [Act.put, tA, tB, tC, tD, tE, tF])
      (refine ti 10 ?_; simp only [Act.put, tA, tB, tC, tD, tE, tF])
      (refine ti 11 ?_; simp only [Act.put, tA, tB, tC, tD, tE, tF])
      (refine ti 12 ?_; simp only [Act.put, tA, tB, tC, tD, tE, tF])
      (refine ti 13 ?_; simp only [Act.put, tA, tB, tC, tD, tE, tF])
      (refine ti 14 ?_; simp only [Act.put, tA, tB, tC, tD, tE, tF])
      (refine ti 15 ?_; simp only [Act.put, tA, tB, tC, tD, tE, tF])
      (refine ti 16 ?_; simp only [Act.put, tA, tB, tC, tD, tE, tF])
      (refine ti 17 ?_; simp only [Act.put, tA, tB, tC, tD, tE, tF])
      (refine ti 18 ?_; simp only [Act.put, tA, tB, tC, tD, tE, tF])
      (refine ti 19 ?_; simp only [Act.put, tA, tB, tC, tD, tE, tF])
      (refine tu 20 ?_; simp only [Act.put, tA, tB, tC, tD, tE, tF])
      (refine tu 21 ?_; simp only [Act.put, tA, tB, tC, tD, tE, tF])
      (refine tu 22 ?_; simp only [Act.put, tA, tB, tC, tD, tE, tF])
      (refine tu 23 ?_; simp only [Act.put, tA, tB, tC, tD, tE, tF])
      (refine tu 24 ?_; simp only [Act.put, tA, tB, tC, tD, tE, tF])
      (refine tu 25 ?_; simp only [Act.put, tA, tB, tC, tD, tE, tF])
      (refine tu 26 ?_; simp only [Act.put, tA, tB, tC, tD, tE, tF])
      (refine tu 27 ?_; simp only [Act.put, tA, tB, tC, tD, tE, tF])
      (refine tu 28 ?_; simp only [Act.put, tA, tB, tC, tD, tE, tF])
      (refine tu 29 ?_; simp only [Act.put, tA, tB, tC, tD, tE, tF])
      (refine tu 30 ?_; simp only [Act.put, tA, tB, tC, tD, tE, tF])
      (refine ti 31 ?_; simp only [Act.put, tA, tB, tC, tD, tE, tF])
      (refine ti 32 ?_; simp only [Act.put, tA, tB, tC, tD, tE, tF])
      refine wpAnyH_done (by kernel_rfl) ?_ _
      go_wp2
      go_roundw
      case rel => exact ⟨i + 1, by omega, by go_num, HS.out, HB.out.drew⟩
      case measure => simp [intOf]; omega
     | some m =>
      obtain ⟨hjl, hjv⟩ := lab_mem (lst_mem hl).1
      obtain ⟨j, vj⟩ := m
      have hj : j < vs.length := by have h : j < i := hjl; omega
      have EJ : Hid (vj = vs[j]) := by
       show _ = _
       have h : vs[j]? = some vj := hjv
       rw [List.getElem?_eq_getElem hj] at h
       exact (Option.some.inj h).symm
      rw [hl] at h7
      have h7' : (atI (some (j, vj))) = (j : Int) := rfl
      rw [h7'] at h7
      clear h7' hjl hjv
      subst h7
      have hj' : (j : Int) < (vs.length : Int) := by omega
      have hj0 : (0 : Int) ≤ (j : Int) := by omega
      have hj1 : decide ((j : Int) < 0) = false := by simp
      have d3 := HC.out j hj
      by_cases hc : vs[j].2.2.2 < vs[i].2.2.2
      ·have HS : Hid (Value.int .i64 (i : Int) = .int .i64 (atI (lst k s (lab vs (i + 1))))) := by show _ = _; rw [HL.out, hl, step_yes (a := some (j, vj)) HI.out (by simp only [more, EJ.out]; simpa using hc)]; rfl
       have hc' : decide (vs[j].2.2.2 < vs[i].2.2.2) = true := by simpa using hc
       clear hl hc
       go_wp2
       refine wp_region_held_drew (S := fun w' => w'.cell? ⟨b, off + i * 4, none⟩ = some (.string vs[i].1) ∧ w'.cell? ⟨b, off + i * 4 + 3, none⟩ = some (.int .i64 vs[i].2.2.2) ∧ w'.cell? ⟨b, off + j * 4 + 3, none⟩ = some (.int .i64 vs[j].2.2.2)) (by kernel_rfl) ⟨c0, c3, d3⟩ (fun hHeld => ?_)
       (refine ti 0 ?_; simp only [Act.put, tA, tB, tD, tE, tF])
       (refine ti 1 ?_; simp only [Act.put, tA, tB, tC, tD, tE, tF])
       (refine ti 2 ?_; simp only [Act.put, tA, tB, tC, tD, tE, tF])
       (refine ti 3 ?_; simp only [Act.put, tA, tB, tC, tD, tE, tF])
       (refine ti 4 ?_; simp only [Act.put, tA, tB, tC, tD, tE, tF])
       (refine ti 5 ?_; simp only [Act.put, tA, tB, tC, tD, tE, tF])
       (refine ti 6 ?_; simp only [Act.put, tA, tB, tC, tD, tE, tF])
       (refine ti 7 ?_; simp only [Act.put, tA, tB, tC, tD, tE, tF])
       (refine ti 8 ?_; simp only [Act.put, tA, tB, tC, tD, tE, tF])
       (refine ti 9 ?_; simp only [Act.put, tA, tB, tC, tD, tE, tF])
       (refine ti 10 ?_; simp only [Act.put, tA, tB, tC, tD, tE, tF])
       (refine ti 11 ?_; simp only [Act.put, tA, tB, tC, tD, tE, tF])
       (refine ti 12 ?_; simp only [Act.put, tA, tB, tC, tD, tE, tF])
       (refine ti 13 ?_; simp only [Act.put, tA, tB, tC, tD, tE, tF])
       (refine ti 14 ?_; simp only [Act.put, tA, tB, tC, tD, tE, tF])
       (refine ti 15 ?_; simp only [Act.put, tA, tB, tC, tD, tE, tF])
       (refine ti 16 ?_; simp only [Act.put, tA, tB, tC, tD, tE, tF])
       (refine ti 17 ?_; simp only [Act.put, tA, tB, tC, tD, tE, tF])
       (refine ti 18 ?_; simp only [Act.put, tA, tB, tC, tD, tE, tF])
       (refine ti 19 ?_; simp only [Act.put, tA, tB, tC, tD, tE, tF])
       (refine ti 20 ?_; simp only [Act.put, tA, tB, tC, tD, tE, tF])
       (refine ti 21 ?_; simp only [Act.put, tA, tB, tC, tD, tE, tF])
       (refine ti 22 ?_; simp only [Act.put, tA, tB, tC, tD, tE, tF])
       (refine ti 23 ?_; simp only [Act.put, tA, tB, tC, tD, tE, tF])
       (refine ti 24 ?_; simp only [Act.put, tA, tB, tC, tD, tE, tF])
       (refine ti 25 ?_; simp only [Act.put, tA, tB, tC, tD, tE, tF])
       (refine ti 26 ?_; simp only [Act.put, tA, tB, tC, tD, tE, tF])
       (refine ti 27 ?_; simp only [Act.put, tA, tB, tC, tD, tE, tF])
       (refine ti 28 ?_; simp only [Act.put, tA, tB, tC, tD, tE, tF])
       (refine ti 29 ?_; simp only [Act.put, tA, tB, tC, tD, tE, tF])
       (refine ti 30 ?_; simp only [Act.put, tA, tB, tC, tD, tE, tF])
       (refine ti 31 ?_; simp only [Act.put, tA, tB, tC, tD, tE, tF])
       (refine ti 32 ?_; simp only [Act.put, tA, tB, tC, tD, tE, tF])
       refine wpAnyH_done (by kernel_rfl) ?_ _
       go_wp2
       go_roundw
       case rel => exact ⟨i + 1, by omega, by go_num, HS.out, HB.out.drew⟩
       case measure => simp [intOf]; omega
      ·have HS : Hid (Value.int .i64 (j : Int) = .int .i64 (atI (lst k s (lab vs (i + 1))))) := by show _ = _; rw [HL.out, hl, step_less (m := (j, vj)) (by simp only [EJ.out]; exact hc)]; rfl
       have hc' : decide (vs[j].2.2.2 < vs[i].2.2.2) = false := by simpa using hc
       clear hl hc
       go_wp2
       refine wp_region_held_drew (S := fun w' => w'.cell? ⟨b, off + i * 4, none⟩ = some (.string vs[i].1) ∧ w'.cell? ⟨b, off + i * 4 + 3, none⟩ = some (.int .i64 vs[i].2.2.2) ∧ w'.cell? ⟨b, off + j * 4 + 3, none⟩ = some (.int .i64 vs[j].2.2.2)) (by kernel_rfl) ⟨c0, c3, d3⟩ (fun hHeld => ?_)
       (refine ti 0 ?_; simp only [Act.put, tA, tB, tD, tE, tF])
       (refine ti 1 ?_; simp only [Act.put, tA, tB, tC, tD, tE, tF])
       (refine ti 2 ?_; simp only [Act.put, tA, tB, tC, tD, tE, tF])
       (refine ti 3 ?_; simp only [Act.put, tA, tB, tC, tD, tE, tF])
       (refine ti 4 ?_; simp only [Act.put, tA, tB, tC, tD, tE, tF])
       (refine ti 5 ?_; simp only [Act.put, tA, tB, tC, tD, tE, tF])
       (refine ti 6 ?_; simp only [Act.put, tA, tB, tC, tD, tE, tF])
       (refine ti 7 ?_; simp only [Act.put, tA, tB, tC, tD, tE, tF])
       (refine ti 8 ?_; simp only [Act.put, tA, tB, tC, tD, tE, tF])
       (refine ti 9 ?_; simp only [Act.put, tA, tB, tC, tD, tE, tF])
       (refine ti 10 ?_; simp only [Act.put, tA, tB, tC, tD, tE, tF])
       (refine ti 11 ?_; simp only [Act.put, tA, tB, tC, tD, tE, tF])
       (refine ti 12 ?_; simp only [Act.put, tA, tB, tC, tD, tE, tF])
       (refine ti 13 ?_; simp only [Act.put, tA, tB, tC, tD, tE, tF])
       (refine ti 14 ?_; simp only [Act.put, tA, tB, tC, tD, tE, tF])
       (refine ti 15 ?_; simp only [Act.put, tA, tB, tC, tD, tE, tF])
       (refine ti 16 ?_; simp only [Act.put, tA, tB, tC, tD, tE, tF])
       (refine ti 17 ?_; simp only [Act.put, tA, tB, tC, tD, tE, tF])
       (refine ti 18 ?_; simp only [Act.put, tA, tB, tC, tD, tE, tF])
       (refine ti 19 ?_; simp only [Act.put, tA, tB, tC, tD, tE, tF])
       (refine ti 20 ?_; simp only [Act.put, tA, tB, tC, tD, tE, tF])
       (refine ti 21 ?_; simp only [Act.put, tA, tB, tC, tD, tE, tF])
       (refine ti 22 ?_; simp only [Act.put, tA, tB, tC, tD, tE, tF])
       (refine ti 23 ?_; simp only [Act.put, tA, tB, tC, tD, tE, tF])
       (refine ti 24 ?_; simp only [Act.put, tA, tB, tC, tD, tE, tF])
       (refine ti 25 ?_; simp only [Act.put, tA, tB, tC, tD, tE, tF])
       (refine ti 26 ?_; simp only [Act.put, tA, tB, tC, tD, tE, tF])
       (refine ti 27 ?_; simp only [Act.put, tA, tB, tC, tD, tE, tF])
       (refine ti 28 ?_; simp only [Act.put, tA, tB, tC, tD, tE, tF])
       (refine ti 29 ?_; simp only [Act.put, tA, tB, tC, tD, tE, tF])
       (refine ti 30 ?_; simp only [Act.put, tA, tB, tC, tD, tE, tF])
       (refine ti 31 ?_; simp only [Act.put, tA, tB, tC, tD, tE, tF])
       (refine ti 32 ?_; simp only [Act.put, tA, tB, tC, tD, tE, tF])
       refine wpAnyH_done (by kernel_rfl) ?_ _
       go_wp2
       go_roundw
       case rel => exact ⟨i + 1, by omega, by go_num, HS.out, HB.out.drew⟩
       case measure => simp [intOf]; omega
  ·have hlt' : ¬ (i : Int) < (vs.length : Int) := by omega
   have hil : i = vs.length := by omega
   subst hil
   obtain ⟨o, ho⟩ : ∃ o, o = atI (lst k s (lab vs vs.length)) := ⟨_, rfl⟩
   rw [← ho] at h7
   have HO : Hid (o = atI (lst k s (lab vs vs.length))) := ho
   clear ho
   subst h7
   go_wp2
   go_ret
   exact ⟨ret_int HO.out, HB.out⟩

set_option maxRecDepth 100000 in
set_option maxHeartbeats 2000000 in
theorem sseen (vs : List Vr) (a : Option Addr) (c : Nat) (k : ByteArray) (s : Int) (hn : vs.length ≤ 100000000) (w : World) (hp : GRow encV w a vs) :
  Calls Tryz.prog 43 #[.slice a vs.length c, .string k, .int .i64 s] w fun e w' => e = .returned (sawB (seenB vs k s)) ∧ Below w.heap.size w w' := by
 have HP : Hid (GRow encV w a vs) := hp
 clear hp
 go_enter Tryz.func43, Tryz.ntmps43
 go_wp2_with fail
 refine (at53 vs a c k s hn _ HP.out).mono ?_
 rintro e w1 ⟨rfl, hb1⟩
 have HB1 : Hid (Below w.heap.size w w1) := hb1
 clear hb1
 cases hl : lst k s (lab vs vs.length) with
 | none =>
  have HS : Hid (sawB (seenB vs k s) = .tuple #[.string ⟨#[]⟩, .bool false]) := by show _ = _; rw [seen_none (lab_all vs) hl]; rfl
  have h7' : (atI none) = -1 := rfl
  rw [h7']
  clear hl h7'
  go_wp2
  refine bodyPost_ret (v := .tuple #[.string ⟨#[]⟩, .bool false]) (by simp [results, Tryz.results43, go_sem]) rfl ⟨by rw [HS.out], HB1.out⟩
 | some m =>
  obtain ⟨hjl, hjv⟩ := lab_mem (lst_mem hl).1
  obtain ⟨j, vj⟩ := m
  have hj : j < vs.length := hjl
  have EJ : Hid (vj = vs[j]) := by
   show _ = _
   have h : vs[j]? = some vj := hjv
   rw [List.getElem?_eq_getElem hj] at h
   exact (Option.some.inj h).symm
  have h7' : (atI (some (j, vj))) = (j : Int) := rfl
  rw [h7']
  clear h7' hjl hjv
  have hj' : (j : Int) < (vs.length : Int) := by omega
  have hj0 : (0 : Int) ≤ (j : Int) := by omega
  have hj1 : decide ((j : Int) < 0) = false := by simp
  obtain ⟨b, off, rfl, hbl, hc⟩ := (HP.out.below HB1.out) (by omega)
  have c1 := (vat hc j hj).2.1
  have c2 := (vat hc j hj).2.2.1
  clear hc
  cases hg : vs[j].2.2.1
  ·have HS : Hid (sawB (seenB vs k s) = .tuple #[.string vs[j].2.1, .bool true]) := by show _ = _; rw [seen_some (lab_all vs) hl (by simp only [EJ.out]; exact hg)]; simp only [EJ.out]; rfl
   rw [hg] at c2
   clear hl hg
   go_wp2
   refine bodyPost_ret (v := .tuple #[.string vs[j].2.1, .bool true]) (by simp [results, Tryz.results43, go_sem]) rfl ⟨by rw [HS.out], HB1.out⟩
  ·have HS : Hid (sawB (seenB vs k s) = .tuple #[.string ⟨#[]⟩, .bool false]) := by show _ = _; rw [seen_gone (lab_all vs) hl (by simp only [EJ.out]; exact hg)]; rfl
   rw [hg] at c2
   clear hl hg
   go_wp2
   refine bodyPost_ret (v := .tuple #[.string ⟨#[]⟩, .bool false]) (by simp [results, Tryz.results43, go_sem]) rfl ⟨by rw [HS.out], HB1.out⟩
end Go.Proofs.YtjieojfcmigcdaaGreatDoor

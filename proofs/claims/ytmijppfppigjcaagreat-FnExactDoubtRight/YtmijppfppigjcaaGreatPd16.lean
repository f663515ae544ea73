/- Drawn ones that look and change, changed in one place: l07Any. -/
import Derived.Test.YtmijppfppigjcaaGreatPd15
import Derived.Test.YtmijppfppigjcaaGreatProg
import Derived.WalkKit
import Derived.Test.YtmijppfppigjcaaGreatPd01
import Derived.WalkSpells
import Derived.WalkLawsBesides
import Derived.Deep.QuietTactic
import Derived.BigQuiet
import Derived.Deep.RegionHeld3
import Derived.Deep.DrawnRows
import Derived.Test.YtmijppfppigjcaaGreatPd07
import Derived.Deep.AppendLies
import Derived.Test.YtmijppfppigjcaaGreatPd02
import Derived.Test.YtmijppfppigjcaaGreatPd03
import Derived.Sort.OwnSorted
import Derived.Lib.RowBridge
import Derived.Test.YtmijppfppigjcaaGreatPd08
import Derived.Test.YtmijppfppigjcaaGreatPd13
import Derived.Test.YtmijppfppigjcaaGreatPd06
import Derived.Deep.RegionHeld
import Derived.Maps.OwnSet
import Derived.StringKeys
import Derived.Test.YtmijppfppigjcaaGreatPd10
namespace Go.Proofs.YtmijppfppigjcaaGreat
open Go.RowKit
open KM
attribute [local go_sem ↓] Go.wp_at_zero Go.wp_at_succ

structure TxA (t : Tx) : Prop where
 fit : TFit t
 rl : t.rs.length ≤ 4
 wl : t.ws.length ≤ 4
theorem TxD.fit {t : Tx} (h : TxD t) : TFit t := ⟨Nat.le_trans h.rl (by omega), h.rs.fit, Nat.le_trans h.wl (by omega), h.ws.fit, h.nm⟩
theorem TxD.any {t : Tx} (h : TxD t) : TxA t := ⟨h.fit, Nat.le_trans h.rl (by omega), Nat.le_trans h.wl (by omega)⟩
end Go.Proofs.YtmijppfppigjcaaGreat

namespace Go.Proofs.YtmijppfppigjcaaGreat
open Go.RowKit Go.Maps
open KM
attribute [local go_sem ↓] Go.wp_at_zero Go.wp_at_succ

set_option maxRecDepth 100000 in
set_option maxHeartbeats 1000000 in
theorem icopyW (x : Wt) (h1 : x.1.size ≤ 1048576) (h2 : x.2.1.size ≤ 1048576) (w : World) :
  Calls Tryz.prog 145 #[.agg #[.string x.1, .string x.2.1, .bool x.2.2]] w fun e w' => e = .returned (.agg #[.string x.1, .string x.2.1, .bool x.2.2]) ∧ Below w.heap.size w w' := by
 have X0 : Hid (Bx ((w.alloc (.cells #[.string x.1, .string x.2.1, .bool x.2.2] 148)).alloc (.cells #[.string ⟨#[]⟩, .string ⟨#[]⟩, .bool false] 148)).drew w.heap.size [.string x.1, .string x.2.1, .bool x.2.2]) := ((Bx.new w _ 148).alloc _).drew
 have Y0 : Hid (Bx ((w.alloc (.cells #[.string x.1, .string x.2.1, .bool x.2.2] 148)).alloc (.cells #[.string ⟨#[]⟩, .string ⟨#[]⟩, .bool false] 148)).drew (w.heap.size + 1) [.string ⟨#[]⟩, .string ⟨#[]⟩, .bool false]) := by
  have h := (Bx.new (w.alloc (.cells #[.string x.1, .string x.2.1, .bool x.2.2] 148)) [.string ⟨#[]⟩, .string ⟨#[]⟩, .bool false] 148).drew
  rw [World.size_alloc] at h
  exact h
 have HB0 : Hid (Below w.heap.size w ((w.alloc (.cells #[.string x.1, .string x.2.1, .bool x.2.2] 148)).alloc (.cells #[.string ⟨#[]⟩, .string ⟨#[]⟩, .bool false] 148)).drew) := (((belowRefl w).alloc (Nat.le_refl _) _).alloc (by simp) _).drew
 go_enter Tryz.func145, Tryz.ntmps145
 go_wp2
 refine wp_region_held_drew (S := fun w' => w'.cell? ⟨w.heap.size, 0, none⟩ = some (.string x.1) ∧ w'.cell? ⟨w.heap.size, 1, none⟩ = some (.string x.2.1) ∧ w'.cell? ⟨w.heap.size, 2, none⟩ = some (.bool x.2.2)) (by kernel_rfl) ⟨X0.out.c0, X0.out.c1, X0.out.c2⟩ (fun hHeld => ?_)
 (refine ti 0 ?_; simp only [Act.put, tA, tB, tD, tE, tF])
 (refine ti 1 ?_; simp only [Act.put, tA, tB, tC, tD, tE, tF])
 (refine ti 3 ?_; simp only [Act.put, tA, tB, tC, tD, tE, tF])
 (refine ti 4 ?_; simp only [Act.put, tA, tB, tC, tD, tE, tF])
 (refine ti 6 ?_; simp only [Act.put, tA, tB, tC, tD, tE, tF])
 (refine ti 7 ?_; simp only [Act.put, tA, tB, tC, tD, tE, tF])
 refine wpAnyH_ready (rs := [2]) (by kernel_rfl) (by simp) ?_
 refine AllReadyH.cons rfl (fun K hK => ?_) AllReadyH.nil
 go_simp
 go_wp2_with fail
 refine (clone49 x.1 (by omega) _).mono ?_
 rintro e w1 ⟨rfl, hb1⟩
 have X1 : Hid (Bx w1 w.heap.size [.string x.1, .string x.2.1, .bool x.2.2]) := X0.out.below hb1
 have Y1 : Hid (Bx w1 (w.heap.size + 1) [.string ⟨#[]⟩, .string ⟨#[]⟩, .bool false]) := Y0.out.below hb1
 have HB1 : Hid (Below w.heap.size w w1) := HB0.out.trans (hb1.mono HB0.out.size)
 clear hb1 X0 Y0 HB0
 go_wp2_with fail
 refine hK.out _ _ ⟨X1.out.c0, X1.out.c1, X1.out.c2⟩ (fun hHeld1 => ?_)
 clear hK K
 refine wpAnyH_ready (rs := [5]) (by kernel_rfl) (by simp) ?_
 refine AllReadyH.cons rfl (fun K hK => ?_) AllReadyH.nil
 go_simp
 go_wp2_with fail
 refine (clone49 x.2.1 (by omega) _).mono ?_
 rintro e w2 ⟨rfl, hb2⟩
 have X2 : Hid (Bx w2 w.heap.size [.string x.1, .string x.2.1, .bool x.2.2]) := X1.out.below hb2
 have Y2 : Hid (Bx w2 (w.heap.size + 1) [.string ⟨#[]⟩, .string ⟨#[]⟩, .bool false]) := Y1.out.below hb2
 have HB2 : Hid (Below w.heap.size w w2) := HB1.out.trans (hb2.mono HB1.out.size)
 clear hb2 X1 Y1 HB1
 go_wp2_with fail
 refine hK.out _ _ ⟨X2.out.c0, X2.out.c1, X2.out.c2⟩ (fun hHeld2 => ?_)
 clear hK K
 (refine ti 8 ?_; simp only [Act.put, tA, tB, tC, tD, tE, tF])
 have y0 := Y2.out.c0
 have y1 := Y2.out.c1
 have y2 := Y2.out.c2
 have yf := Y2.out.fz
 refine wpAnyH_ready (rs := [9]) (by kernel_rfl) (by simp) ?_
 refine AllReadyH.cons rfl (fun K hK => ?_) AllReadyH.nil
 go_simp
 have X3 := ((X2.out.setO (p := ⟨w.heap.size + 1, 0, none⟩) (by simp) (.string x.1)).setO (p := ⟨w.heap.size + 1, 1, none⟩) (by simp) (.string x.2.1)).setO (p := ⟨w.heap.size + 1, 2, none⟩) (by simp) (.bool x.2.2)
 refine hK.out _ _ ⟨X3.c0, X3.c1, X3.c2⟩ (fun hHeld3 => ?_)
 clear hK K
 refine wpAnyH_done (by kernel_rfl) ?_ _
 have BF := ((Y2.out.set 0 (.string x.1)).set 1 (.string x.2.1)).set 2 (.bool x.2.2)
 have e0 := BF.c0
 have e1 := BF.c1
 have e2 := BF.c2
 go_wp2
 exact bodyPost_ret (v := .agg #[.string x.1, .string x.2.1, .bool x.2.2]) (by simp [results, Tryz.results145, go_sem, e0, e1, e2]) rfl ⟨rfl, ((HB2.out.setCell (by show _ ≤ _ + 1; omega) _).setCell (by show _ ≤ _ + 1; omega) _).setCell (by show _ ≤ _ + 1; omega) _⟩

set_option maxRecDepth 100000 in
set_option maxHeartbeats 1000000 in
theorem icopyWs (xs : List Wt) (a : Option Addr) (c : Nat) (hn : xs.length ≤ 1048576) (hf : WFit xs) (w : World) (hp : GRow encW w a xs) :
  Calls Tryz.prog 120 #[.slice a xs.length c] w fun e w' => ∃ a1 c1, e = .returned (.slice a1 xs.length c1) ∧ GOwn encW 148 w' w.heap.size (.slice a1 xs.length c1) xs ∧ Below w.heap.size w w' := by
 have HP : Hid (GRow encW w a xs) := hp
 have HF : Hid (WFit xs) := hf
 clear hp hf
 go_enter Tryz.func120, Tryz.ntmps120
 go_wp2
 go_loopw [3, 8] (fun v t wr => ∃ k : Nat, k ≤ xs.length ∧ t = .int .i64 k ∧ Hid (GOwn encW 148 wr w.heap.size v (xs.take k)) ∧ Hid (Below w.heap.size w wr)) (fun _ t _ => xs.length - (intOf t).toNat)
 case atStart => exact ⟨0, Nat.zero_le _, rfl, GOwn.nil _ _, belowRefl w⟩
 case round =>
  obtain ⟨k, hk, rfl, HO, HB⟩ := hrel
  by_cases hlt : k < xs.length
  ·have hlt' : (k : Int) < (xs.length : Int) := by omega
   have hk0 : (0 : Int) ≤ (k : Int) := by omega
   obtain ⟨b, off, rfl, hbl, hc⟩ := (HP.out.below HB.out) (by omega)
   have r0 := (wat hc k hlt).1
   have r1 := (wat hc k hlt).2.1
   have r2 := (wat hc k hlt).2.2
   clear hc
   have HZ : Hid (xs[k].1.size ≤ 1048576 ∧ xs[k].2.1.size ≤ 1048576) := HF.out _ (List.getElem_mem hlt)
   have O1 := hide (HO.out.alloc (.cells #[.string xs[k].1, .string xs[k].2.1, .bool xs[k].2.2] 148))
   have HB1 : Hid (Below w.heap.size w (wr.alloc (.cells #[.string xs[k].1, .string xs[k].2.1, .bool xs[k].2.2] 148))) := HB.out.alloc HB.out.size _
   go_wp2_with fail
   refine (icopyW xs[k] HZ.out.1 HZ.out.2 _).mono ?_
   rintro e w2 ⟨rfl, hb2⟩
   have O2 := hide (O1.out.below hb2)
   have HB2 : Hid (Below w.heap.size w w2) := HB1.out.trans (hb2.mono HB1.out.size)
   have hs2 := HB2.out.size
   have hlen : (xs.take k).length ≤ 100000000 := by rw [List.length_take]; omega
   clear hb2 O1 HB1 r0 r1 r2
   go_wp2_with (at_builtin; refine wpAppW rfl _ _ rfl xs[k] rfl O2.out rfl hlen hs2 ?_)
   intro v' w3 ho3 hb3
   have O3 : Hid (GOwn encW 148 w3 w.heap.size v' (xs.take (k + 1))) := by
    show GOwn _ _ _ _ _ _
    first | exact ho3 | (rw [List.take_succ_eq_append_getElem hlt]; exact ho3)
   have HB3 : Hid (Below w.heap.size w w3) := HB2.out.trans hb3
   clear ho3 hb3
   go_wp2
   go_roundw
   case rel => exact ⟨k + 1, by omega, by go_num, O3, HB3⟩
   case measure => simp [intOf]; omega
  ·have hlt' : ¬ (k : Int) < (xs.length : Int) := by omega
   have ho := HO.out
   rw [List.take_of_length_le (by omega)] at ho
   obtain ⟨a1, c1, rfl, _⟩ := ho.row
   have O1 := hide ho
   clear ho
   go_wp2
   go_ret
   exact ⟨a1, c1, rfl, O1.out, HB.out⟩

end Go.Proofs.YtmijppfppigjcaaGreat
